import Derived.Test.YtolkpkklinoegaaDoorM54
import Derived.Test.YtolkpkklinoegaaDoorM51
import Derived.Test.YtolkpkklinoegaaDoorM52
namespace Go.Proofs.YtolkpkklinoegaaDoor
set_option linter.unusedVariables false
set_option linter.unusedSimpArgs false
set_option maxRecDepth 100000
set_option maxHeartbeats 16000000
section
open Go.RowKit
set_option maxRecDepth 100000 in
set_option maxHeartbeats 8000000 in
theorem law_fnfold (a : Option Addr) (len cap : Nat) (a2 : Option Addr) (len2 cap2 : Nat) (w : World) (hT : Tab w) (hl : len ≤ 1048576) (hl2 : len2 ≤ 1048576) (hb : B8 w a len) (hb2 : B8 w a2 len2) :
  Calls Tryd.prog 3 #[.slice a len cap, .slice a2 len2 cap2] w fun e w' => e = .returned (.bool true) ∧ Below w.heap.size w w' := by
 haveI : Inhabited Pick := ⟨⟨fun _ h => Classical.choice h⟩⟩
 have HT := hide hT
 have HB := hide hb
 have HB2 := hide hb2
 have hsz := hT.size
 clear hT hb hb2
 have hli : ¬ (1048576 : Int) < (len : Int) := by omega
 have hli2 : ¬ (1048576 : Int) < (len2 : Int) := by omega
 go_enter Tryd.func3, Tryd.ntmps3
 go_wp2_with fail
 refine (draw_fold a len cap w hl HB.out).mono ?_
 rintro e w1 ⟨u, ns, rfl, hN, hnl, hnm, hb1⟩
 have HN := hide hN
 have HNm := hide hnm
 have HB1 := hide hb1
 obtain ⟨ua, uc, rfl, -⟩ := hN
 obtain ⟨r, hr⟩ := FoldR.exists ns
 have HR := hide hr
 have hrl := hr.len
 clear hnm hb1 hr
 go_wp2_with fail
 refine (foldI_any _ ns r w1 (HT.out.below hsz HB1.out) (by omega) HN.out HR.out).mono ?_
 rintro e w2 ⟨v2, rfl, hf2, hb2⟩
 have HF2 := hide hf2.nodes
 have HB2' := hide (HB1.out.trans (hb2.mono HB1.out.size))
 have HN2 := hide (HN.out.below hb2)
 obtain ⟨va, vc, rfl, -⟩ := hf2.nodes
 clear hf2 hb2 HN
 go_wp2_with fail
 refine (foldG_any _ ns r w2 (by omega) HN2.out HR.out).mono ?_
 rintro e w3 ⟨v3, rfl, hf3, hb3⟩
 have HF3 := hide hf3
 have HF3' := hide (HF2.out.below hb3)
 have HN3 := hide (HN2.out.below hb3)
 have HB3 := hide (HB2'.out.trans (hb3.mono HB2'.out.size))
 obtain ⟨xa, xc, rfl, -⟩ := hf3
 clear hb3 HN2 HF2
 go_wp2_with fail
 refine (lwNodes_any _ _ r w3 (by omega) HF3'.out HF3.out).mono ?_
 rintro e w4 ⟨rfl, hb4⟩
 have HF4 := hide (HF3'.out.below hb4)
 have HN4 := hide (HN3.out.below hb4)
 have HB4 := hide (HB3.out.trans (hb4.mono HB3.out.size))
 clear hb4 HF3 HF3' HN3
 by_cases h0 : r.length = 0
 ·have h0' : ((r.length : Int) == 0) = true := by simp [h0]
  go_wp2_with fail
  go_ret
  exact ⟨rfl, HB4.out⟩
 ·have h0' : ((r.length : Int) == 0) = false := by simpa using h0
  have hfd : Fd apN ns r := by
   have := HR.out
   unfold FoldR at this
   split at this
   ·exact this
   ·rw [this] at h0; exact absurd rfl h0
  have HFd := hide hfd
  obtain ⟨rl, hrl2⟩ : ∃ rl, rl = r.length := ⟨_, rfl⟩
  obtain ⟨nl, hnl2⟩ : ∃ nl, nl = ns.length := ⟨_, rfl⟩
  rw [← hrl2] at h0' HF4 ⊢
  rw [← hnl2] at HN4 ⊢
  have HRl := hide hrl2
  have HNl := hide hnl2
  clear hfd hrl2 hnl2 h0
  obtain ⟨G1, hG1⟩ : ∃ G1, G1 = w4.alloc (.cells #[.string ⟨#[103]⟩, .int .i64 0, .string ⟨#[104]⟩, .int .i64 0, .string ⟨#[120]⟩, .int .i64 0, .string ⟨#[97]⟩, .int .i64 8, .string ⟨#[98]⟩, .int .i64 2] 28) := ⟨_, rfl⟩
  have hq1 : Below w4.heap.size w4 G1 := by rw [hG1]; exact (Below.refl _ _).alloc (Nat.le_refl _) _
  have hc1 : FrC G1 w4.heap.size [.string ⟨#[103]⟩, .int .i64 0, .string ⟨#[104]⟩, .int .i64 0, .string ⟨#[120]⟩, .int .i64 0, .string ⟨#[97]⟩, .int .i64 8, .string ⟨#[98]⟩, .int .i64 2] := by rw [hG1]; exact box_fr w4 _ _ (by decide)
  obtain ⟨b1, hb1⟩ : ∃ b1, b1 = w4.heap.size := ⟨_, rfl⟩
  rw [← hb1] at hc1
  have HQ1 := hide hq1
  have HC1 := hide hc1
  have HG1 := hide hG1
  have Hb1 := hide hb1
  have HBG1 := hide (HB4.out.trans (hq1.mono HB4.out.size))
  clear hq1 hc1 hG1 hb1
  go_upto_region 10 with fail
  rw [← HG1.out, ← Hb1.out]
  go_wp2_with fail
  refine (lwAt_any a2 len2 cap2 0 (by omega) G1 hl2 (HB2.out.below HBG1.out)).mono ?_
  rintro e w5 ⟨x, rfl, hx0, hx1, hw5⟩
  rw [hw5]
  clear hw5
  obtain ⟨c, hce⟩ : ∃ c, c = x - 100 := ⟨_, rfl⟩
  obtain ⟨b2, hb2⟩ : ∃ b2, b2 = G1.heap.size := ⟨_, rfl⟩
  have hcB : inB c := by unfold inB; omega
  have HcB := hide hcB
  clear hcB
  obtain ⟨G2, hG2⟩ : ∃ G2, G2 = G1.alloc (.cells #[.int .i64 1, .int .i64 c, .string ⟨#[]⟩] 32) := ⟨_, rfl⟩
  have hqG2 : Below G1.heap.size G1 G2 := by rw [hG2]; exact (Below.refl _ _).alloc (Nat.le_refl _) _
  have hcG2 : FrC G2 G1.heap.size [.int .i64 1, .int .i64 c, .string ⟨#[]⟩] := by rw [hG2]; exact box_fr G1 _ _ (by show 3 ≤ 1000; omega)
  have hzG2 : G2.heap.size = G1.heap.size + 1 := by rw [hG2, World.size_alloc]
  obtain ⟨G3, hG3⟩ : ∃ G3, G3 = G2.alloc (.cells #[.int .i64 2, .string ⟨#[120]⟩, .slice (some ⟨b2, 0, none⟩) 1 1, .slice none 0 0, .int .i64 0, .int .i64 0] 34) := ⟨_, rfl⟩
  have hqG3 : Below G2.heap.size G2 G3 := by rw [hG3]; exact (Below.refl _ _).alloc (Nat.le_refl _) _
  have hcG3 : FrC G3 G2.heap.size [.int .i64 2, .string ⟨#[120]⟩, .slice (some ⟨b2, 0, none⟩) 1 1, .slice none 0 0, .int .i64 0, .int .i64 0] := by rw [hG3]; exact box_fr G2 _ _ (by show 6 ≤ 1000; omega)
  have hzG3 : G3.heap.size = G2.heap.size + 1 := by rw [hG3, World.size_alloc]
  rw [← hb2] at hcG2 hzG2
  rw [hzG2] at hcG3 hzG3
  have HW3 : Hid (((G1.alloc (.cells #[.int .i64 1, .int .i64 c, .string ⟨#[]⟩] 32)).alloc (.cells #[.int .i64 2, .string ⟨#[120]⟩, .slice (some ⟨b2, 0, none⟩) 1 1, .slice none 0 0, .int .i64 0, .int .i64 0] 34)) = G3) := by show _ = _; rw [hG3, hG2]
  have HCe := hide hce
  have Hb2 := hide hb2
  have hqA : Below w4.heap.size w4 G3 := HQ1.out.trans ((hqG2.trans (hqG3.mono hqG2.size)).mono HQ1.out.size)
  have HQA := hide hqA
  have HC1' := hide ((HC1.out.below hqG2).below hqG3)
  have HC2 := hide (hcG2.below hqG3)
  have HC3 := hide hcG3
  have HZ3 := hide hzG3
  have HBA := hide (HB4.out.trans (hqA.mono HB4.out.size))
  clear hce hb2 hG2 hG3 hqG2 hqG3 hcG2 hcG3 hzG2 hzG3 hqA HC1
  go_upto_region 11 with fail
  rw [← HCe.out, ← Hb2.out, HW3.out]
  have z0 := (HC3.out 0 _ rfl).1
  have z1 := (HC3.out 1 _ rfl).1
  have z2 := (HC3.out 2 _ rfl).1
  have z3 := (HC3.out 3 _ rfl).1
  have z4 := (HC3.out 4 _ rfl).1
  have z5 := (HC3.out 5 _ rfl).1
  obtain ⟨b4, hb4⟩ : ∃ b4, b4 = G3.heap.size := ⟨_, rfl⟩
  obtain ⟨G4, hG4⟩ : ∃ G4, G4 = G3.alloc (.cells #[.int .i64 2, .string ⟨#[120]⟩, .slice (some ⟨b2, 0, none⟩) 1 1, .slice none 0 0, .int .i64 0, .int .i64 0, .int .i64 6, .string ⟨#[]⟩, .slice ua nl uc, .slice none 0 0, .int .i64 0, .int .i64 0] 34) := ⟨_, rfl⟩
  have hqG4 : Below G3.heap.size G3 G4 := by rw [hG4]; exact (Below.refl _ _).alloc (Nat.le_refl _) _
  have hcG4 : FrC G4 G3.heap.size [.int .i64 2, .string ⟨#[120]⟩, .slice (some ⟨b2, 0, none⟩) 1 1, .slice none 0 0, .int .i64 0, .int .i64 0, .int .i64 6, .string ⟨#[]⟩, .slice ua nl uc, .slice none 0 0, .int .i64 0, .int .i64 0] := by rw [hG4]; exact box_fr G3 _ _ (by show 12 ≤ 1000; omega)
  have hzG4 : G4.heap.size = G3.heap.size + 1 := by rw [hG4, World.size_alloc]
  obtain ⟨G5, hG5⟩ : ∃ G5, G5 = G4.alloc (.cells #[.string ⟨#[109, 97, 105, 110]⟩, .slice none 0 0, .slice (some ⟨b4, 0, none⟩) 2 2] 38) := ⟨_, rfl⟩
  have hqG5 : Below G4.heap.size G4 G5 := by rw [hG5]; exact (Below.refl _ _).alloc (Nat.le_refl _) _
  have hcG5 : FrC G5 G4.heap.size [.string ⟨#[109, 97, 105, 110]⟩, .slice none 0 0, .slice (some ⟨b4, 0, none⟩) 2 2] := by rw [hG5]; exact box_fr G4 _ _ (by show 3 ≤ 1000; omega)
  have hzG5 : G5.heap.size = G4.heap.size + 1 := by rw [hG5, World.size_alloc]
  obtain ⟨G6, hG6⟩ : ∃ G6, G6 = G5.alloc (.cells #[.slice (some ⟨b1, 0, none⟩) 5 5, .slice (some ⟨b4 + 1, 0, none⟩) 1 1] 41) := ⟨_, rfl⟩
  have hqG6 : Below G5.heap.size G5 G6 := by rw [hG6]; exact (Below.refl _ _).alloc (Nat.le_refl _) _
  have hcG6 : FrC G6 G5.heap.size [.slice (some ⟨b1, 0, none⟩) 5 5, .slice (some ⟨b4 + 1, 0, none⟩) 1 1] := by rw [hG6]; exact box_fr G5 _ _ (by show 2 ≤ 1000; omega)
  have hzG6 : G6.heap.size = G5.heap.size + 1 := by rw [hG6, World.size_alloc]
  rw [← hb4] at hcG4 hzG4
  rw [hzG4] at hcG5 hzG5
  rw [hzG5] at hcG6 hzG6
  have HW6 : Hid ((((G3.alloc (.cells #[.int .i64 2, .string ⟨#[120]⟩, .slice (some ⟨b2, 0, none⟩) 1 1, .slice none 0 0, .int .i64 0, .int .i64 0, .int .i64 6, .string ⟨#[]⟩, .slice ua nl uc, .slice none 0 0, .int .i64 0, .int .i64 0] 34)).alloc (.cells #[.string ⟨#[109, 97, 105, 110]⟩, .slice none 0 0, .slice (some ⟨b4, 0, none⟩) 2 2] 38)).alloc (.cells #[.slice (some ⟨b1, 0, none⟩) 5 5, .slice (some ⟨b4 + 1, 0, none⟩) 1 1] 41)) = G6) := by show _ = _; rw [hG6, hG5, hG4]
  have Hb4 := hide hb4
  have hqB : Below G3.heap.size G3 G6 := hqG4.trans ((hqG5.trans (hqG6.mono hqG5.size)).mono hqG4.size)
  have HQB := hide hqB
  have HC4 := hide ((hcG4.below hqG5).below hqG6)
  have HC5 := hide (hcG5.below hqG6)
  have HC6 := hide hcG6
  clear hb4 hG4 hG5 hG6 hqG4 hqG5 hqG6 hcG4 hcG5 hcG6 hzG4 hzG5 hzG6 hqB
  go_upto_region 12 with fail
  rw [← Hb4.out]
  rw [HW6.out]
  clear z0 z1 z2 z3 z4 z5
  have hz := HC3.out.below HQB.out
  have z0 := (hz 0 _ rfl).1
  have z1 := (hz 1 _ rfl).1
  have z2 := (hz 2 _ rfl).1
  have z3 := (hz 3 _ rfl).1
  have z4 := (hz 4 _ rfl).1
  have z5 := (hz 5 _ rfl).1
  clear hz
  obtain ⟨b7, hb7⟩ : ∃ b7, b7 = G6.heap.size := ⟨_, rfl⟩
  obtain ⟨G7, hG7⟩ : ∃ G7, G7 = G6.alloc (.cells #[.int .i64 2, .string ⟨#[120]⟩, .slice (some ⟨b2, 0, none⟩) 1 1, .slice none 0 0, .int .i64 0, .int .i64 0, .int .i64 6, .string ⟨#[]⟩, .slice va rl vc, .slice none 0 0, .int .i64 0, .int .i64 0] 34) := ⟨_, rfl⟩
  have hqG7 : Below G6.heap.size G6 G7 := by rw [hG7]; exact (Below.refl _ _).alloc (Nat.le_refl _) _
  have hcG7 : FrC G7 G6.heap.size [.int .i64 2, .string ⟨#[120]⟩, .slice (some ⟨b2, 0, none⟩) 1 1, .slice none 0 0, .int .i64 0, .int .i64 0, .int .i64 6, .string ⟨#[]⟩, .slice va rl vc, .slice none 0 0, .int .i64 0, .int .i64 0] := by rw [hG7]; exact box_fr G6 _ _ (by show 12 ≤ 1000; omega)
  have hzG7 : G7.heap.size = G6.heap.size + 1 := by rw [hG7, World.size_alloc]
  obtain ⟨G8, hG8⟩ : ∃ G8, G8 = G7.alloc (.cells #[.string ⟨#[109, 97, 105, 110]⟩, .slice none 0 0, .slice (some ⟨b7, 0, none⟩) 2 2] 38) := ⟨_, rfl⟩
  have hqG8 : Below G7.heap.size G7 G8 := by rw [hG8]; exact (Below.refl _ _).alloc (Nat.le_refl _) _
  have hcG8 : FrC G8 G7.heap.size [.string ⟨#[109, 97, 105, 110]⟩, .slice none 0 0, .slice (some ⟨b7, 0, none⟩) 2 2] := by rw [hG8]; exact box_fr G7 _ _ (by show 3 ≤ 1000; omega)
  have hzG8 : G8.heap.size = G7.heap.size + 1 := by rw [hG8, World.size_alloc]
  obtain ⟨G9, hG9⟩ : ∃ G9, G9 = G8.alloc (.cells #[.slice (some ⟨b1, 0, none⟩) 5 5, .slice (some ⟨b7 + 1, 0, none⟩) 1 1] 41) := ⟨_, rfl⟩
  have hqG9 : Below G8.heap.size G8 G9 := by rw [hG9]; exact (Below.refl _ _).alloc (Nat.le_refl _) _
  have hcG9 : FrC G9 G8.heap.size [.slice (some ⟨b1, 0, none⟩) 5 5, .slice (some ⟨b7 + 1, 0, none⟩) 1 1] := by rw [hG9]; exact box_fr G8 _ _ (by show 2 ≤ 1000; omega)
  have hzG9 : G9.heap.size = G8.heap.size + 1 := by rw [hG9, World.size_alloc]
  rw [← hb7] at hcG7 hzG7
  rw [hzG7] at hcG8 hzG8
  rw [hzG8] at hcG9 hzG9
  have HW9 : Hid ((((G6.alloc (.cells #[.int .i64 2, .string ⟨#[120]⟩, .slice (some ⟨b2, 0, none⟩) 1 1, .slice none 0 0, .int .i64 0, .int .i64 0, .int .i64 6, .string ⟨#[]⟩, .slice va rl vc, .slice none 0 0, .int .i64 0, .int .i64 0] 34)).alloc (.cells #[.string ⟨#[109, 97, 105, 110]⟩, .slice none 0 0, .slice (some ⟨b7, 0, none⟩) 2 2] 38)).alloc (.cells #[.slice (some ⟨b1, 0, none⟩) 5 5, .slice (some ⟨b7 + 1, 0, none⟩) 1 1] 41)) = G9) := by show _ = _; rw [hG9, hG8, hG7]
  have Hb7 := hide hb7
  have hqC : Below G6.heap.size G6 G9 := hqG7.trans ((hqG8.trans (hqG9.mono hqG8.size)).mono hqG7.size)
  have HQC := hide hqC
  have HC7 := hide ((hcG7.below hqG8).below hqG9)
  have HC8 := hide (hcG8.below hqG9)
  have HC9 := hide hcG9
  -- what both trees are, in G9
  have hq69 : Below w4.heap.size w4 G9 := HQA.out.trans ((HQB.out.trans (hqC.mono HQB.out.size)).mono HQA.out.size)
  have hq39 : Below G3.heap.size G3 G9 := HQB.out.trans (hqC.mono HQB.out.size)
  have HGl : Hid (Globs G9 (.slice (some ⟨b1, 0, none⟩) 5 5) gsF) := glb_mem (HC1'.out.below hq39)
  have HFa : Hid (Funcs G9 (.slice (some ⟨b4 + 1, 0, none⟩) 1 1) (treeF gsF c ns).funcs) := fun_mem (HC5.out.below hqC) (stm_mem (HC4.out.below hqC) (HC2.out.below hq39) (by have := HN4.out; rw [HNl.out] at this ⊢; exact this.below hq69))
  have HFb : Hid (Funcs G9 (.slice (some ⟨b7 + 1, 0, none⟩) 1 1) (treeF gsF c r).funcs) := fun_mem HC8.out (stm_mem HC7.out (HC2.out.below hq39) (by have := HF4.out; rw [HRl.out] at this ⊢; exact this.below hq69))
  have HTa := hide (HC6.out.below hqC)
  have HBC := hide (HB4.out.trans (hq69.mono HB4.out.size))
  have HF9 := hide (HF4.out.below hq69)
  clear hb7 hG7 hG8 hG9 hqG7 hqG8 hqG9 hcG7 hcG8 hcG9 hzG7 hzG8 hzG9 hqC hq69 hq39
  go_upto_region 13 with fail
  rw [← Hb7.out, HW9.out]
  clear z0 z1 z2 z3 z4 z5 HW3 HW6 HW9 HC1' HC2 HC3 HC4 HC5 HC6 HC7 HC8
  go_wp2_with fail
  refine (lwAt_any a2 len2 cap2 1 (by omega) G9 hl2 (HB2.out.below HBC.out)).mono ?_
  rintro e w5 ⟨y1, rfl, hy0, hy1, hw5⟩
  rw [hw5]
  clear hw5
  go_wp2_with fail
  refine (lwAt_any a2 len2 cap2 2 (by omega) G9 hl2 (HB2.out.below HBC.out)).mono ?_
  rintro e w5 ⟨y2, rfl, hy2, hy3, hw5⟩
  rw [hw5]
  clear hw5
  obtain ⟨ng, hng⟩ : ∃ ng, ng = -y2 := ⟨_, rfl⟩
  have hiw : [y1, ng].all inBb = true := by simp [inBb]; omega
  have HIw := hide hiw
  have hngB : -255 ≤ ng ∧ ng ≤ 0 := by omega
  obtain ⟨TA, TB, hEA, hEB, hrel⟩ := two_runs (c := c) HcB.out (by omega) HNm.out HFd.out (i := [y1, ng]) (by simp) HIw.out
  have HEA := hide hEA
  have HEB := hide hEB
  have HRel := hide hrel
  obtain ⟨sA, eA, uA, dA⟩ := TA
  obtain ⟨sB, eB, uB, dB⟩ := TB
  dsimp only at HRel
  obtain ⟨bA, hbA⟩ : ∃ bA, bA = G9.heap.size := ⟨_, rfl⟩
  obtain ⟨GA, hGA⟩ : ∃ GA, GA = G9.alloc (.cells #[.int .i64 y1, .int .i64 ng] 2) := ⟨_, rfl⟩
  have hqGA : Below G9.heap.size G9 GA := by rw [hGA]; exact (Below.refl _ _).alloc (Nat.le_refl _) _
  have hcGA : FrC GA G9.heap.size [.int .i64 y1, .int .i64 ng] := by rw [hGA]; exact box_fr G9 _ _ (by show 2 ≤ 1000; omega)
  have hzGA : GA.heap.size = G9.heap.size + 1 := by rw [hGA, World.size_alloc]
  obtain ⟨GB, hGB⟩ : ∃ GB, GB = GA.alloc (.cells #[.int .i64 0] 2) := ⟨_, rfl⟩
  have hqGB : Below GA.heap.size GA GB := by rw [hGB]; exact (Below.refl _ _).alloc (Nat.le_refl _) _
  have hcGB : FrC GB GA.heap.size [.int .i64 0] := by rw [hGB]; exact box_fr GA _ _ (by show 1 ≤ 1000; omega)
  have hzGB : GB.heap.size = GA.heap.size + 1 := by rw [hGB, World.size_alloc]
  rw [← hbA] at hcGA hzGA
  rw [hzGA] at hcGB hzGB
  have HWA : Hid (G9.alloc (.cells #[.int .i64 y1, .int .i64 ng] 2) = GA) := hGA.symm
  have HWB : Hid (GA.alloc (.cells #[.int .i64 0] 2) = GB) := hGB.symm
  have hq9B : Below G9.heap.size G9 GB := hqGA.trans (hqGB.mono hqGA.size)
  have HIa : Hid (InN GB (.slice (some ⟨bA, 0, none⟩) 2 2) [y1, ng]) := in_mem [y1, ng] (by simp) (hcGA.below hqGB)
  have HIz : Hid (InN GB (.slice (some ⟨bA + 1, 0, none⟩) 1 1) [0]) := in_mem [0] (by simp) hcGB
  have HTA := hide (HTa.out.below hqGA)
  have HcA := hide (HEA.out _ _ _ _ GB (HGl.out.below hq9B) (HFa.out.below hq9B) HIa.out HIz.out)
  have HQD := hide hq9B
  have HbA := hide hbA
  have HNg := hide hng
  have HZA := hide hzGA
  clear hEA hEB hrel hbA hGA hGB hqGA hqGB hcGA hcGB hzGA hzGB hq9B hiw HIw hng
  go_upto_region 14 with fail
  rw [← HNg.out, ← HbA.out, HWA.out]
  have t0 := (HTA.out 0 _ rfl).1
  have t1 := (HTA.out 1 _ rfl).1
  go_wp2_with fail
  rw [HZA.out, HWB.out]
  refine HcA.out.mono ?_
  rintro e w6 ⟨oa, on, oc, rfl, hb6⟩
  dsimp only
  obtain ⟨bC, hbC⟩ : ∃ bC, bC = w6.heap.size := ⟨_, rfl⟩
  obtain ⟨GC, hGC⟩ : ∃ GC, GC = w6.alloc (.cells #[.int .i64 sA, .slice oa on oc, .int .i64 eA, .int .i64 uA, .int .i64 dA] 44) := ⟨_, rfl⟩
  have hqGC : Below w6.heap.size w6 GC := by rw [hGC]; exact (Below.refl _ _).alloc (Nat.le_refl _) _
  have hcGC : FrC GC w6.heap.size [.int .i64 sA, .slice oa on oc, .int .i64 eA, .int .i64 uA, .int .i64 dA] := by rw [hGC]; exact box_fr w6 _ _ (by show 5 ≤ 1000; omega)
  have hzGC : GC.heap.size = w6.heap.size + 1 := by rw [hGC, World.size_alloc]
  obtain ⟨GD, hGD⟩ : ∃ GD, GD = GC.alloc (.cells #[.int .i64 0] 2) := ⟨_, rfl⟩
  have hqGD : Below GC.heap.size GC GD := by rw [hGD]; exact (Below.refl _ _).alloc (Nat.le_refl _) _
  have hcGD : FrC GD GC.heap.size [.int .i64 0] := by rw [hGD]; exact box_fr GC _ _ (by show 1 ≤ 1000; omega)
  have hzGD : GD.heap.size = GC.heap.size + 1 := by rw [hGD, World.size_alloc]
  rw [← hbC] at hcGC hzGC
  rw [hzGC] at hcGD hzGD
  have HWC : Hid (w6.alloc (.cells #[.int .i64 sA, .slice oa on oc, .int .i64 eA, .int .i64 uA, .int .i64 dA] 44) = GC) := hGC.symm
  have HWD : Hid (GC.alloc (.cells #[.int .i64 0] 2) = GD) := hGD.symm
  have hqBC : Below GB.heap.size GB GC := hb6.trans (hqGC.mono hb6.size)
  have hqBD : Below GB.heap.size GB GD := hqBC.trans (hqGD.mono hqBC.size)
  have hq9D : Below G9.heap.size G9 GD := HQD.out.trans (hqBD.mono HQD.out.size)
  have HIz2 : Hid (InN GD (.slice (some ⟨bC + 1, 0, none⟩) 1 1) [0]) := in_mem [0] (by simp) hcGD
  have HIa2 : Hid (InN GD (.slice (some ⟨bA, 0, none⟩) 2 2) [y1, ng]) := inn_below HIa.out hqBD
  have HTB := hide ((HC9.out.below HQD.out).below hqBC)
  have HcB2 := hide (HEB.out _ _ _ _ GD (HGl.out.below hq9D) (HFb.out.below hq9D) HIa2.out HIz2.out)
  have HF9D := hide (HF9.out.below hq9D)
  have HBD := hide (HBC.out.trans (hq9D.mono HBC.out.size))
  have HCC := hide (hcGC.below hqGD)
  have HbC := hide hbC
  have HZC := hide hzGC
  clear hbC hGC hGD hqGC hqGD hcGC hcGD hzGC hzGD hqBC hqBD hq9D hb6 t0 t1 HWA HWB HcA
  go_upto_region 15 with fail
  rw [← HbC.out, HWC.out]
  have t0 := (HTB.out 0 _ rfl).1
  have t1 := (HTB.out 1 _ rfl).1
  go_wp2_with fail
  rw [HZC.out, HWD.out]
  refine HcB2.out.mono ?_
  rintro e w7 ⟨pa, pn, pc, rfl, hb7⟩
  dsimp only
  obtain ⟨bE, hbE⟩ : ∃ bE, bE = w7.heap.size := ⟨_, rfl⟩
  obtain ⟨GE, hGE⟩ : ∃ GE, GE = w7.alloc (.cells #[.int .i64 sB, .slice pa pn pc, .int .i64 eB, .int .i64 uB, .int .i64 dB] 44) := ⟨_, rfl⟩
  have hqGE : Below w7.heap.size w7 GE := by rw [hGE]; exact (Below.refl _ _).alloc (Nat.le_refl _) _
  have hcGE : FrC GE w7.heap.size [.int .i64 sB, .slice pa pn pc, .int .i64 eB, .int .i64 uB, .int .i64 dB] := by rw [hGE]; exact box_fr w7 _ _ (by show 5 ≤ 1000; omega)
  have hzGE : GE.heap.size = w7.heap.size + 1 := by rw [hGE, World.size_alloc]
  rw [← hbE] at hcGE hzGE
  have HWE : Hid (w7.alloc (.cells #[.int .i64 sB, .slice pa pn pc, .int .i64 eB, .int .i64 uB, .int .i64 dB] 44) = GE) := hGE.symm
  have hqDE : Below GD.heap.size GD GE := hb7.trans (hqGE.mono hb7.size)
  have HFE := hide (HF9D.out.below hqDE)
  have HBE := hide (HBD.out.trans (hqDE.mono HBD.out.size))
  have HCA := hide (HCC.out.below hqDE)
  have HCB := hide hcGE
  have HbE := hide hbE
  clear hbE hGE hqGE hcGE hzGE hqDE hb7 t0 t1 HWC HWD HcB2 HF9D HBD
  have hidem : FoldR r r := by
   unfold FoldR
   rw [if_pos ⟨hrl, HFd.out.oneB⟩]
   exact HFd.out.idem
  have HId := hide hidem
  clear hidem
  go_upto_region 16 with fail
  rw [← HbE.out, HWE.out]
  have hrl3 : rl ≤ 2000 := by rw [HRl.out]; exact hrl
  have HFE' : Hid (Nodes GE (.slice va rl vc) r) := HFE.out
  go_wp2_with fail
  refine (foldI_any _ r r GE (HT.out.below hsz HBE.out) (by omega) HFE'.out HId.out).mono ?_
  rintro e w8 ⟨v8, rfl, hf8, hb8⟩
  have HF8 := hide hf8.nodes
  have HF8' := hide (HFE'.out.below hb8)
  have HA8 := hide (HCA.out.below hb8)
  have HB8 := hide (HCB.out.below hb8)
  have HBE8 := hide (HBE.out.trans (hb8.mono HBE.out.size))
  obtain ⟨qa, qc, rfl, -⟩ := hf8.nodes
  clear hf8 hb8
  go_wp2_with fail
  refine (lwNodes_any _ _ r w8 (by omega) HF8.out HF8'.out).mono ?_
  rintro e w9 ⟨rfl, hb9⟩
  have hA := HA8.out.below hb9
  have hB := HB8.out.below hb9
  have HB9 := hide (HBE8.out.trans (hb9.mono HBE8.out.size))
  have p0 := (hA 0 _ rfl).1
  have p2 := (hA 2 _ rfl).1
  have p3 := (hA 3 _ rfl).1
  have q0 := (hB 0 _ rfl).1
  have q2 := (hB 2 _ rfl).1
  have q3 := (hB 3 _ rfl).1
  clear hA hB hb9
  by_cases hs : sA = 1
  ·obtain ⟨h1, h2, h3⟩ := HRel.out hs
   subst hs h1 h2
   go_wp2_with fail
   go_ret
   exact ⟨rfl, HB9.out⟩
  ·have hs' : (sA != 1) = true := by simpa using hs
   go_wp2_with fail
   go_ret
   exact ⟨rfl, HB9.out⟩
end
end Go.Proofs.YtolkpkklinoegaaDoor
