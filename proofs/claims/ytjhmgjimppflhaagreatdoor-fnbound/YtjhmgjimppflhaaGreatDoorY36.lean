import Derived.Test.YtjhmgjimppflhaaGreatDoorY18
import Derived.Deep.RegionHeld3
set_option linter.unusedSectionVars false
variable [Inhabited Go.Proofs.YtjhmgjimppflhaaGreatDoor.Pick]
namespace Go.Proofs.YtjhmgjimppflhaaGreatDoor
set_option linter.unusedVariables false
set_option linter.unusedSimpArgs false
set_option maxRecDepth 100000
set_option maxHeartbeats 16000000
section
open Go.RowKit
def callsF (t : Tr) (z : Int) : List Nat := if h : 0 ≤ z ∧ z.toNat < t.funcs.length ∧ treeB t = true then callsL t.funcs (t.funcs[z.toNat]'h.2.1).body else []
theorem callsF_yes {t : Tr} {k : Nat} (hk : k < t.funcs.length) (h : treeB t = true) : callsF t (k : Int) = callsL t.funcs t.funcs[k].body := by
 unfold callsF
 rw [dif_pos ⟨by omega, by simpa using hk, h⟩]
 simp
theorem callsF_no {t : Tr} {z : Int} (h : z < 0 ∨ (t.funcs.length : Int) ≤ z ∨ treeB t = false) : callsF t z = [] := by
 unfold callsF
 rw [dif_neg]
 rintro ⟨h1, h2, h3⟩
 rcases h with h | h | h
 ·omega
 ·omega
 ·rw [h3] at h; cases h
theorem callsF_len (t : Tr) (z : Int) : (callsF t z).length ≤ t.funcs.length := by
 unfold callsF
 split
 ·exact callsL_len _ _
 ·simp
theorem own_none (w : World) (B : Nat) (hB : B ≤ w.heap.size) : (w.alloc (.cells #[] 2)).ownsRow B 2 1 (.slice (some ⟨w.heap.size, 0, none⟩) 0 0) 0 [] :=
 World.ownsRow_lit w #[] 0 hB (by decide) rfl
theorem bcellC {W w1 : World} (hb : Below W.heap.size W w1) : (∀ b o, b < W.heap.size → w1.cell? ⟨b, o, none⟩ = W.cell? ⟨b, o, none⟩) ∧ (∀ b o, b < W.heap.size → w1.frozen? ⟨b, o, none⟩ = W.frozen? ⟨b, o, none⟩) :=
 ⟨fun b o h => hb.cell (p := ⟨b, o, none⟩) h, fun b o h => hb.frozen (p := ⟨b, o, none⟩) h⟩
set_option maxRecDepth 100000 in
set_option maxHeartbeats 4000000 in
theorem callsI_any (t : Tr) (vg vf : Value) (z : Int) (w : World) (hT : Tab w) (ht : smallT t) (hw : wfT t) (hg : Globs w vg t.globals) (hf : Funcs w vf t.funcs) :
  Calls Tryz.prog 8 #[.agg #[vg, vf], .int .i64 z] w fun e w' => ∃ v, e = .returned v ∧ w'.ownsRow w.heap.size 2 1 v (callsF t z).length ((callsF t z).map (fun g : Nat => Value.int .i64 (g : Int))) ∧ Below w.heap.size w w' := by
 have HT : Hid (Tab w) := hT
 have hsz := hT.size
 have HS : Hid (smallT t) := ht
 have HW : Hid (wfT t) := hw
 have HG : Hid (Globs w vg t.globals) := hg
 have HF : Hid (Funcs w vf t.funcs) := hf
 have hfl : t.funcs.length ≤ 1048576 := ht.2.1
 obtain ⟨ag, cg, rfl, -⟩ := hg
 obtain ⟨af, cf, rfl, -, -, hfc⟩ := hf
 have HFC : Hid (0 < t.funcs.length → ∃ b off, af = some ⟨b, off, none⟩ ∧ FuncsC w b off t.funcs) := hfc
 clear hT ht hw hfc
 have hA : Below w.heap.size w (w.alloc (.cells #[.slice ag t.globals.length cg, .slice af t.funcs.length cf] 26)) := (Below.refl _ _).alloc (Nat.le_refl _) _
 by_cases h1 : z < 0
 ·rw [callsF_no (.inl h1)]
  go_enter Tryz.func8, Tryz.ntmps8
  go_wp2_with fail
  go_ret
  exact ⟨_, rfl, (by have := own_none (w.alloc (.cells #[.slice ag t.globals.length cg, .slice af t.funcs.length cf] 26)) w.heap.size hA.size; rw [World.size_alloc] at this; exact this), hA.alloc hA.size _⟩
 by_cases h2 : (t.funcs.length : Int) ≤ z
 ·rw [callsF_no (.inr (.inl h2))]
  go_enter Tryz.func8, Tryz.ntmps8
  go_wp2_with fail
  go_ret
  exact ⟨_, rfl, (by have := own_none (w.alloc (.cells #[.slice ag t.globals.length cg, .slice af t.funcs.length cf] 26)) w.heap.size hA.size; rw [World.size_alloc] at this; exact this), hA.alloc hA.size _⟩
 go_enter Tryz.func8, Tryz.ntmps8
 go_wp2_with fail
 refine (vtree_any t _ _ _ (HT.out.below hsz hA) HS.out (HG.out.below hA) (HF.out.below hA)).mono ?_
 rintro e w1 ⟨rfl, hb1⟩
 simp only [World.size_alloc] at hb1
 have hB1 := one_below hb1
 cases hv : treeB t
 ·have HR : Hid (callsF t z = []) := callsF_no (.inr (.inr hv))
  clear hv
  go_wp2_with fail
  go_ret
  exact ⟨_, rfl, by rw [HR.out]; exact own_none _ _ hB1.size, hB1.alloc hB1.size _⟩
 ·obtain ⟨k, rfl⟩ : ∃ k : Nat, z = (k : Int) := ⟨z.toNat, by omega⟩
  have hk : k < t.funcs.length := by omega
  have HR : Hid (callsF t (k : Int) = callsL t.funcs t.funcs[k].body) := callsF_yes hk hv
  obtain ⟨b, off, rfl, hc⟩ := HFC.out (by omega)
  obtain ⟨vp, vb, ⟨d0, d1, d2⟩, hp, hb⟩ := (hc.below hB1) k hk
  have hlb : b < w1.heap.size := World.block_lt_of_cell? _ _ d0
  have HSf : Hid (smallF t.funcs[k]) := HS.out.2.2 _ (List.getElem_mem hk)
  have HWf : Hid (wfFu t.funcs[k]) := HW.out.2.2 _ (List.getElem_mem hk)
  have HP : Hid (Strs w1 vp t.funcs[k].params) := hp
  have HBd : Hid (Stmts w1 vb t.funcs[k].body) := hb
  have HF1 : Hid (Funcs w1 (.slice (some ⟨b, off, none⟩) t.funcs.length cf) t.funcs) := HF.out.below hB1
  obtain ⟨ap, cp, rfl, -⟩ := hp
  obtain ⟨ab, cb, rfl, -⟩ := hb
  obtain ⟨x0, x1⟩ := box2 hb1
  have hl0 : w.heap.size < w1.heap.size := by have := hb1.size; simp at this; omega
  have hdr : Below w1.heap.size w1 w1.drew := (Below.refl _ _).drew
  clear hc hv h1 h2
  generalize t.funcs[k] = f at d0 d1 d2 HSf HWf HP HBd HR
  have HWt : Hid (wfFs t.funcs) := HW.out.2
  go_wp2_with fail
  go_region_held3 (fun W => W.cell? ⟨w.heap.size, 0, none⟩ = some (.slice ag t.globals.length cg) ∧ W.cell? ⟨w.heap.size, 1, none⟩ = some (.slice (some ⟨b, off, none⟩) t.funcs.length cf) ∧ W.cell? ⟨b, off + k * 3, none⟩ = some (.string f.name) ∧ W.cell? ⟨b, off + k * 3 + 1, none⟩ = some (.slice ap f.params.length cp) ∧ W.cell? ⟨b, off + k * 3 + 2, none⟩ = some (.slice ab f.body.length cb)) (go_simp)
   (first
   | (go_at_call 32; refine (fnums_any t.funcs _ _ _ hfl HWt.out (HF1.out.below hdr)).mono ?_; rintro e w2 ⟨bm, D, rfl, hbm, hM2, hN2, hb2⟩; have hcc : ∀ b o, b < w1.heap.size → w2.cell? ⟨b, o, none⟩ = w1.cell? ⟨b, o, none⟩ := (bcellC hb2).1; have HM2 : Hid (w2.ownsMap Tryz.prog 9 (plainElem (H := Unit) Tryz.prog 2) bm t.funcs.length D) := hM2; have HN2 : Hid (NumIs D t.funcs) := hN2; clear hM2 hN2; have hl02 : w.heap.size < w2.heap.size := Nat.lt_of_lt_of_le hl0 hb2.size; have hlb2 : b < w2.heap.size := Nat.lt_of_lt_of_le hlb hb2.size)
   | (go_at_call 31; refine (callsOf_any t.funcs f _ _ bm t.funcs.length D _ hfl HSf.out HWf.out (HP.out.below (hdr.trans hb2)) (HBd.out.below (hdr.trans hb2)) HM2.out HN2.out).mono ?_; rintro e w3 ⟨v3, rfl, hr3, hb3⟩; have hcc : ∀ b o, b < w2.heap.size → w3.cell? ⟨b, o, none⟩ = w2.cell? ⟨b, o, none⟩ := (bcellC hb3).1))
  have hb13 : Below w1.heap.size w1 w3 := (hdr.trans hb2).trans (hb3.mono hb2.size)
  have HRow : Hid (w3.ownsRow w2.heap.size 2 1 v3 (callsL t.funcs f.body).length ((callsL t.funcs f.body).map (fun g : Nat => Value.int .i64 (g : Int)))) := hr3
  have hB3 := hB1.trans (hb13.mono hB1.size)
  have hs2 : w.heap.size ≤ w2.heap.size := Nat.le_of_lt hl02
  clear hr3 hb13 hb3 hb2
  go_wp2_with fail
  go_ret
  exact ⟨v3, rfl, by rw [HR.out]; exact ownsRow_base_a HRow.out hs2, hB3⟩
end
end Go.Proofs.YtjhmgjimppflhaaGreatDoor
