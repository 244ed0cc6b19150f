import Derived.Test.YtlamjfhhefcohaaGreatDoorM29
import Derived.Test.YtlamjfhhefcohaaGreatDoorM39
import Derived.Deep.LoopGhost
import Derived.Deep.RegionHeldLaw
namespace Go.Proofs.YtlamjfhhefcohaaGreatDoor
set_option linter.unusedVariables false
set_option linter.unusedSimpArgs false
set_option maxRecDepth 100000
set_option maxHeartbeats 16000000
section
open Go.RowKit
def NdA (G : GT) (w : World) (a : List Nd) (s' : PS) (e : Ending) (w' : World) : Prop := ∃ u, e = .returned u ∧ NRow w.heap.size w' u a ∧ PSt G w' s' ∧ Tcs (fun k => k = G.P) w w'
def OpB (n : Nat) (s : PS) : Prop := -8000000 + (n : Int) ≤ s.op ∧ s.op + (n : Int) ≤ 8000000
def OpC (G : GT) (n : Nat) : Prop := ∀ (w : World) (s : PS) (a : List Nd) (s' : PS), Pa G.T n .o s (.n a) s' → a.length ≤ 1000000 → OpB n s → PSt G w s →
 Calls Tryz.prog 152 #[.pointer (some ⟨G.P, 0, none⟩)] w (NdA G w a s')
def ExC2 (G : GT) (n : Nat) : Prop := ∀ (w : World) (least : Int) (s : PS) (a : List Nd) (s' : PS), Pa G.T n (.e least) s (.n a) s' → a.length ≤ 1000000 → OpB n s → PSt G w s →
 Calls Tryz.prog 119 #[.pointer (some ⟨G.P, 0, none⟩), .int .i64 least] w (NdA G w a s')
theorem OpB.le {n m : Nat} {s : PS} (h : OpB n s) (hm : m ≤ n) : OpB m s := by unfold OpB at *; omega
theorem OpB.of {n : Nat} {s s1 : PS} (h : OpB n s) (e : s1.op = s.op) : OpB n s1 := by unfold OpB at *; rw [e]; exact h
theorem ops_mem : ∀ x ∈ opsL, nodeB x.2.1 = true ∧ strN x.2.1 = x.2.2 ∧ 1 ≤ x.2.2 ∧ x.2.2 ≤ 10 := by
 intro x hx
 unfold opsL at hx
 simp only [List.mem_cons, List.not_mem_nil, or_false] at hx
 rcases hx with rfl | rfl | rfl | rfl | rfl | rfl | rfl | rfl | rfl | rfl | rfl | rfl | rfl | rfl | rfl | rfl | rfl | rfl
 ·exact ⟨by simp [nodeB, tx, ByteArray.toList_eq], rfl, by decide, by decide⟩
 ·exact ⟨by simp [nodeB, tx, ByteArray.toList_eq], rfl, by decide, by decide⟩
 ·exact ⟨nd7 0 (by decide), rfl, by decide, by decide⟩
 ·exact ⟨nd7 1 (by decide), rfl, by decide, by decide⟩
 ·exact ⟨nd7 2 (by decide), rfl, by decide, by decide⟩
 ·exact ⟨nd7 3 (by decide), rfl, by decide, by decide⟩
 ·exact ⟨nd7 4 (by decide), rfl, by decide, by decide⟩
 ·exact ⟨nd7 5 (by decide), rfl, by decide, by decide⟩
 ·exact ⟨nd7 6 (by decide), rfl, by decide, by decide⟩
 ·exact ⟨nd7 7 (by decide), rfl, by decide, by decide⟩
 ·exact ⟨nd7 8 (by decide), rfl, by decide, by decide⟩
 ·exact ⟨nd7 9 (by decide), rfl, by decide, by decide⟩
 ·exact ⟨nd7 10 (by decide), rfl, by decide, by decide⟩
 ·exact ⟨nd7 11 (by decide), rfl, by decide, by decide⟩
 ·exact ⟨nd7 12 (by decide), rfl, by decide, by decide⟩
 ·exact ⟨nd7 13 (by decide), rfl, by decide, by decide⟩
 ·exact ⟨nd7 14 (by decide), rfl, by decide, by decide⟩
 ·exact ⟨nd7 15 (by decide), rfl, by decide, by decide⟩
theorem if_mem {T : Nat → To} {s : PS} {x : List UInt8 × Nd × Int} (h : ifS T s = some x) : x ∈ opsL ∧ isS T x.1 s = true := by
 unfold ifS at h
 have h2 := List.find?_some (p := fun (o : List UInt8 × Nd × Int) => isS T o.1 s) h
 exact ⟨List.mem_of_find?_eq_some h, h2⟩
theorem lp_inv {T : Nat → To} {n : Nat} {m : Int} {o : List Nd} {s : PS} {a : List Nd} {s' : PS} (h : Pa T n (.lp m o) s (.n a) s') :
  (s.er ≠ 0 ∧ a = o ∧ s' = s) ∨ (s.er = 0 ∧ (∀ x, ifS T s = some x → x.2.2 < m) ∧ a = o ∧ s' = s) ∨
  (s.er = 0 ∧ ∃ k x b s1, n = k + 1 ∧ ifS T s = some x ∧ m ≤ x.2.2 ∧ Pa T k (.e (x.2.2 + 1)) s.ad (.n b) s1 ∧ Pa T k (.lp m (o ++ b ++ [x.2.1])) s1 (.n a) s') := by
 cases h using Pa_i with
 | lpd n m o s h1 => exact .inl ⟨h1, rfl, rfl⟩
 | lps n m o s h1 h2 => exact .inr (.inl ⟨h1, h2, rfl, rfl⟩)
 | lpm n m o s x b s1 r s' h1 h2 h3 h4 h5 => exact .inr (.inr ⟨h1, _, x, b, s1, rfl, h2, h3, h4, h5⟩)
set_option maxRecDepth 100000 in
set_option maxHeartbeats 4000000 in
theorem exC_step {G : GT} (hL : Las G.T G.K) {n : Nat} (hO : OpC G n) (hE : ExC2 G n) : ExC2 G (n + 1) := by
 intro w least s a s' hP hal hop hS
 obtain ⟨a0, s0, hp1, hp2⟩ : ∃ a0 s0, Pa G.T n .o s (.n a0) s0 ∧ Pa G.T n (.lp least a0) s0 (.n a) s' := by
  cases hP using Pa_i with
  | ex n m s a0 s0 r s' h1 h2 => exact ⟨a0, s0, h1, h2⟩
 have hl0 : a0.length ≤ 1000000 := Nat.le_trans hp2.acc hal
 have HO := hide (hO w s a0 s0 hp1 hl0 (hop.le (Nat.le_succ n)) hS)
 have HE := hide hE
 have HL := hide hL
 have HP2 := hide hp2
 have HOp := hide (hop.le (Nat.le_succ n))
 have HO0 := hide hp1.op
 have HAl := hide hal
 have HPw := hide hS.lt.1
 clear hO hE hL hP hal hop hp1 hp2 hl0 hS
 go_enter Tryz.func119, Tryz.ntmps119
 go_wp2_with fail
 refine HO.out.mono ?_
 rintro e w1 ⟨u1, rfl, hr1, hs1, ht1⟩
 have HR1 := hide hr1
 have HS1 := hide hs1
 have HT1 := hide ht1
 clear hr1 hs1 ht1 HO
 go_wp2_with fail
 go_loopg [5] n (fun gk u wr => ∃ (o : List Nd) (z : PS), gk ≤ n ∧ Pa G.T gk (.lp least o) z (.n a) s' ∧ z.op = s.op ∧ NRow w.heap.size wr u o ∧ PSt G wr z ∧ Tcs (fun k => k = G.P) w wr)
 case atStart => exact ⟨a0, s0, Nat.le_refl _, HP2.out, HO0.out, HR1.out, HS1.out, HT1.out⟩
 case round =>
  clear HR1 HS1 HT1 HP2 HO0
  obtain ⟨o, z, hgk, hp, hzo, hR, hZ, hT⟩ := hrel
  have p3 : wr.cell? ⟨G.P, 3, none⟩ = some (.int .i64 z.er) := (hZ.box 3 _ rfl).1
  have HR := hide hR
  have HZ := hide hZ
  have HT := hide hT
  have HG := hide hgk
  have HPo := hide hp.acc
  rcases lp_inv hp with ⟨h0, rfl, rfl⟩ | ⟨h0, hno, rfl, rfl⟩ | ⟨h0, k, x, b, s1, rfl, hif, hm, hpe, hpl⟩
  ·clear hp hR hZ hT hgk
   go_wp2_with fail
   go_ret
   exact ⟨_, rfl, HR.out, HZ.out, HT.out⟩
  ·have HIn := hide (infix_any hZ least)
   rw [h0] at p3
   have HNo := hide hno
   clear hp hR hZ hT hgk hno
   go_wp2_with fail
   refine HIn.out.mono ?_
   rintro e w2 ⟨⟨b, nd, rfl, hb1, hb2⟩, hb⟩
   have hbf : b = false := by
    cases hf : ifS G.T s' with
    | none => exact hb2 hf
    | some x => rw [(hb1 x hf).2]; exact decide_eq_false (by have := HNo.out x hf; omega)
   subst hbf
   have HB := hide hb
   clear hb hb1 hb2 HIn HNo
   unfold ndV
   go_wp2_with fail
   go_ret
   have hb3 : Below wr.heap.size wr (w2.alloc (.cells #[.int .i64 nd.kind, .int .i64 nd.val, .string nd.name] 48)) := HB.out.alloc HB.out.size _
   exact ⟨_, rfl, HR.out.below hb3, HZ.out.below hb3, HT.out.of_below hb3⟩
  ·have HIn := hide (infix_any hZ least)
   have hme := if_mem hif
   obtain ⟨hnb, hst, hx1, hx2⟩ := ops_mem x hme.1
   have hlt := is_lt HL.out hZ.wf hme.2
   have hlen : (o ++ b ++ [x.2.1]).length ≤ 1000000 := Nat.le_trans hpl.acc HAl.out
   simp only [List.length_append, List.length_singleton] at hlen
   have hkn : k ≤ n := by omega
   have HPe := hide (Pa.ups hkn hpe)
   have HPl := hide hpl
   have HOp1 := hide (HOp.out.of (s1 := z.ad) hzo)
   have HOe : Hid (s1.op = s.op) := by show _ = _; rw [hpe.op]; exact hzo
   have HIf := hide hif
   have HM := hide hm
   have HLt := hide hlt
   rw [h0] at p3
   clear hp hR hZ hT hgk hif hme hpl hpe hm hlt HPo
   obtain ⟨xx, nd0, st⟩ := x
   dsimp only at hnb hst hx1 hx2 hlen HPe HPl HM
   go_wp2_with fail
   refine HIn.out.mono ?_
   rintro e w2 ⟨⟨b1, nd, rfl, hb1, hb2⟩, hb⟩
   obtain ⟨e1, e2⟩ := hb1 _ HIf.out
   dsimp only at e1 e2
   subst e1
   subst e2
   obtain ⟨nk, nv, nm⟩ := nd
   have hbt : decide (least ≤ st) = true := decide_eq_true HM.out
   (try dsimp only)
   rw [hbt]
   have HB := hide hb
   clear hb hb1 hb2 HIn hbt
   unfold ndV
   obtain ⟨W3, hW3⟩ : ∃ W3, W3 = w2.alloc (.cells #[.int .i64 nk, .int .i64 nv, .string nm] 48) := ⟨_, rfl⟩
   obtain ⟨M, hM⟩ : ∃ M, M = w2.heap.size := ⟨_, rfl⟩
   go_upto_region 4 with fail
   rw [← hW3, ← hM]
   have hb3 : Below wr.heap.size wr W3 := by rw [hW3]; exact HB.out.alloc HB.out.size _
   have hx3 : FrC W3 M [.int .i64 nk, .int .i64 nv, .string nm] := by rw [hW3, hM]; exact box_fr w2 _ _ (by show 3 ≤ 1000; omega)
   have hMl : wr.heap.size ≤ M := by rw [hM]; exact HB.out.size
   have hM3 : M < W3.heap.size := World.block_lt_of_cell? _ _ (hx3 0 _ rfl).1
   have h3 := HZ.out.below hb3
   have hPM : ¬ M = G.P := by have := HZ.out.lt.1; omega
   have hPM' : ¬ G.P = M := by omega
   obtain ⟨⟨h4, t4⟩, q1, f1, hi⟩ := h3.adv HLt.out
   obtain ⟨W4, hW4⟩ : ∃ W4, W4 = W3.setCell ⟨G.P, 1, none⟩ (.int .i64 ((z.i : Int) + 1)) := ⟨_, rfl⟩
   rw [← hW4] at h4 t4
   have hx4 : FrC W4 M [.int .i64 nk, .int .i64 nv, .string nm] := hx3.tcs hM3 t4 hPM
   obtain ⟨c0, c1, c2⟩ : W4.cell? ⟨M, 0, none⟩ = some (.int .i64 nk) ∧ W4.cell? ⟨M, 1, none⟩ = some (.int .i64 nv) ∧ W4.cell? ⟨M, 2, none⟩ = some (.string nm) := ⟨(hx4 0 _ rfl).1, (hx4 1 _ rfl).1, (hx4 2 _ rfl).1⟩
   have HX4 := hide hx4
   have H4 := hide h4
   have T4 := hide ((HT.out.of_below hb3).trans t4)
   have R4 := hide (own_tcs (HR.out.below hb3) t4 (fun k hk => by rw [hk]; exact HPw.out))
   have HM4 : Hid (M < W4.heap.size) := World.block_lt_of_cell? _ _ c0
   have HW4 := hide hW4
   have HSt : Hid (∀ W, Calls Tryz.prog 115 #[.agg #[.int .i64 nk, .int .i64 nv, .string nm]] W fun e w' => e = .returned (.int .i64 st) ∧ Below W.heap.size W w') := fun W => by rw [← hst]; exact str_any ⟨nk, nv, nm⟩ hnb W
   have HEx : Hid (∀ W, PSt G W z.ad → Calls Tryz.prog 119 #[.pointer (some ⟨G.P, 0, none⟩), .int .i64 (st + 1)] W (NdA G W b s1)) := fun W hW => HE.out W _ _ b s1 HPe.out (by omega) HOp1.out hW
   clear h3 h4 t4 hx3 hx4 hb3 hW4 HR HZ HT HB hnb hst hW3 hM
   go_upto_region 7 with fail
   rw [← HW4.out]
   go_wp2_with fail
   refine (HSt.out _).mono ?_
   rintro e w5 ⟨rfl, hb5⟩
   have hw5 := H4.out.below hb5
   have HB5 := hide hb5
   clear hb5
   go_wp2_with fail
   refine (HEx.out _ hw5).mono ?_
   rintro e w6 ⟨u8', rfl, hr6, h6, t6⟩
   have hz6 : W4.heap.size ≤ w6.heap.size := Nat.le_trans HB5.out.size t6.size
   have t46 : Tcs (fun k => k = G.P) W4 w6 := (HB5.out.tcs (S := fun k => k = G.P)).trans t6
   have hx6 := HX4.out.tcs HM4.out t46 hPM
   have HM6 : Hid (M < w6.heap.size) := Nat.lt_of_lt_of_le HM4.out hz6
   have HRo := hide (own_tcs R4.out t46 (fun k hk => by rw [hk]; exact HPw.out))
   have HT6 := hide (T4.out.trans t46)
   have H6 := hide h6
   have HA : Hid (∀ W', Below w6.heap.size w6 W' → Nodes W' u5 o) := fun W' h => (NRow.nodes HRo.out).below h
   have HBn : Hid (∀ W', Below w6.heap.size w6 W' → Nodes W' u8' b) := fun W' h => hr6.nodes.below h
   have HC : Hid (∀ W', Below w6.heap.size w6 W' → W'.cell? ⟨M, 0, none⟩ = some (.int .i64 nk) ∧ W'.cell? ⟨M, 1, none⟩ = some (.int .i64 nv) ∧ W'.cell? ⟨M, 2, none⟩ = some (.string nm)) := fun W' h => by
    have hxw := hx6.below h
    exact ⟨(hxw 0 _ rfl).1, (hxw 1 _ rfl).1, (hxw 2 _ rfl).1⟩
   obtain ⟨d0, d1, d2⟩ := HC.out _ (Below.refl _ w6)
   obtain ⟨m0, m1, m2⟩ := HC.out (w6.alloc (.cells #[] 48)) ((Below.refl _ _).alloc (Nat.le_refl _) _)
   have bd : Below w6.heap.size w6 w6.drew := (Below.refl _ _).drew
   have b1 : Below w6.heap.size w6 (w6.drew.alloc (.cells #[] 48)) := bd.alloc (Nat.le_refl _) _
   have b2 : Below w6.heap.size w6 ((w6.drew.alloc (.cells #[] 48)).alloc (.cells #[.int .i64 nk, .int .i64 nv, .string nm] 48)) := b1.alloc b1.size _
   have b3 : Below w6.heap.size w6 ((w6.drew.alloc (.cells #[.int .i64 nk, .int .i64 nv, .string nm] 48)).alloc (.cells #[] 48)) := (bd.alloc (Nat.le_refl _) _).alloc (by simp) _
   have HB1 : Hid (_ ∧ _ ∧ _) := And.intro b1 (And.intro b2 b3)
   have HN1 := hide (n1_all nk nv nm w6)
   have hnM : ¬ w6.heap.size = M := by have := HM6.out; omega
   have hnM1 : ¬ w6.heap.size + 1 = M := by have := HM6.out; omega
   clear b1 b2 b3 bd hx6 h6 t6 t46 hr6 hw5 HB5 HX4 H4 T4 R4 HW4 HSt HEx c0 c1 c2 hz6 q1 f1
   go_upto_region 8 with fail
   go_region_law
    (first
    | (refine step_appJ (W0 := w6) rfl (.tmp 38) (.tmp 39) rfl _ [] rfl ?own ?bel _ o rfl (HA.out _ ?bel2) (by simp; omega) ?_
       case own => (first | exact nrow_nil w6.drew w6.heap.size (Nat.le_refl _) | exact HN1.out.1.1 | exact HN1.out.2.1)
       case bel => (first | exact HB1.out.1 | exact HB1.out.2.1 | exact HB1.out.2.2)
       case bel2 => (first | exact HB1.out.1 | exact HB1.out.2.1 | exact HB1.out.2.2)
       intro v9 w9 h9 b9 g9 f9
       obtain ⟨e0, e1, e2⟩ := HC.out w9 b9
       have al9 : Below w6.heap.size w6 (w9.alloc (.cells #[.int .i64 nk, .int .i64 nv, .string nm] 48)) := b9.alloc b9.size _
       have h9' : NRow w6.heap.size w9 v9 o := h9
       first
       | (have n13 : N1 nk nv nm w6.heap.size w9 v9 := N1.step HN1.out.2.2 g9 f9)
       | (have n13 : N1 nk nv nm (w6.heap.size + 1) w9 v9 := N1.step HN1.out.1.2 g9 f9)
       | skip)
    | (refine step_appJ (W0 := w6) rfl (.tmp 40) (.tmp 41) rfl _ o rfl ?own ?bel _ b rfl (HBn.out _ ?bel2) (by omega) ?_
       case own => (first | exact h9' | exact h9'.below ((Below.refl _ _).alloc (Nat.le_refl _) _))
       case bel => (first | exact b9 | exact al9)
       case bel2 => (first | exact b9 | exact al9)
       intro v11 w11 h11 b11 g11 f11
       obtain ⟨i0, i1, i2⟩ := HC.out w11 b11
       have al11 : Below w6.heap.size w6 (w11.alloc (.cells #[.int .i64 nk, .int .i64 nv, .string nm] 48)) := b11.alloc b11.size _
       first
       | (have m13 := N1.step n13 g11 f11)
       | (have m13 := N1.step (N1.new (k := nk) (x := nv) (s := nm) h9') g11 f11)
       | skip)
    | (refine step_appJ (W0 := w6) rfl (.tmp 42) (.tmp 44) rfl _ (o ++ b) rfl ?own ?bel _ [⟨nk, nv, nm⟩] rfl ?nod (by simp; omega) ?_
       case own => (first | exact h11 | exact NRow.below h11 ((Below.refl _ _).alloc (Nat.le_refl _) _))
       case bel => (first | exact b11 | exact al11)
       case nod => (first | exact m13.1 | exact (N1.new (k := nk) (x := nv) (s := nm) h11).1)
       intro v14 w14 h14 b14 g14 f14
       have HF : Hid (NRow w.heap.size w14 v14 (o ++ b ++ [⟨nk, nv, nm⟩]) ∧ PSt G w14 s1 ∧ Tcs (fun k => k = G.P) w w14) := ⟨own_low h14 HT6.out.size, H6.out.below b14, HT6.out.of_below b14⟩
       clear h14 b14 g14 f14))
   all_goals
    go_wp2_with fail
    go_roundg k
    case measure => omega
    case rel => exact ⟨o ++ b ++ [⟨nk, nv, nm⟩], s1, by omega, HPl.out, HOe.out, HF.out.1, HF.out.2.1, HF.out.2.2⟩
end
end Go.Proofs.YtlamjfhhefcohaaGreatDoor
