import Derived.Test.YtlamjfhhefcohaaGreatDoorM46
import Derived.Deep.QuietTactic
import Derived.BigQuiet
import Derived.Test.YtlamjfhhefcohaaGreatDoorM45
namespace Go.Proofs.YtlamjfhhefcohaaGreatDoor
set_option linter.unusedVariables false
set_option linter.unusedSimpArgs false
set_option maxRecDepth 100000
set_option maxHeartbeats 16000000
section
open Go.RowKit
theorem un_cut (k : Nat) (hk : k < 3) (W : World) : (Instr.slice 9 (.string ⟨#[45, 33, 126]⟩) (some (.int .i64 (k : Int))) (some (.int .i64 ((k : Int) + 1))) none).run Tryz.prog W = .ok (.string (tx (unL.getD k []))) W := by
 rcases (show k = 0 ∨ k = 1 ∨ k = 2 by omega) with rfl | rfl | rfl <;> (show _ = _; kernel_rfl)
theorem un_wr (k : Nat) (hk : k < 3) : IntKind.i64.wrap ((k : Int) + 1) = (k : Int) + 1 ∧ wrap64 ((k : Int) + 1) = (k : Int) + 1 ∧ (k : Int) < 3 := by
 refine ⟨?_, ?_, by omega⟩
 ·rw [IntKind.wrap_i64]; omega
 ·unfold wrap64; omega
theorem un_fix (k : Nat) (hk : k < 3) : fixB (unL.getD k []) = true := by
 rcases (show k = 0 ∨ k = 1 ∨ k = 2 by omega) with rfl | rfl | rfl <;> decide
theorem un_next {T : Nat → To} {s : PS} {k : Nat} (hno : ∀ j, j < k → isS T (unL.getD j []) s = false) (hi : isS T (unL.getD k []) s = false) : ∀ j, j < k + 1 → isS T (unL.getD j []) s = false := fun j hj => by
 by_cases e : j = k
 ·subst e; exact hi
 ·exact hno j (by omega)
theorem un_hit {T : Nat → To} {n : Nat} {s : PS} {a : List Nd} {s' : PS} {k : Nat} (hk : k < 3) (h : Pa T (n + 1) .o s (.n a) s') (hi : isS T (unL.getD k []) s = true) :
  ((opS T (unL.getD k []) s).er = 0 ∧ ∃ b s1, Pa T n .o (opS T (unL.getD k []) s) (.n b) s1 ∧ a = b ++ [⟨6, (k : Int), tx []⟩] ∧ s' = { s1 with op := s1.op - 1 }) ∨
    ((opS T (unL.getD k []) s).er ≠ 0 ∧ s' = { opS T (unL.getD k []) s with op := (opS T (unL.getD k []) s).op - 1 }) := by
 rcases o_inv h with ⟨j, hj, h1, h2⟩ | ⟨h1, -⟩
 ·by_cases e : j = k
  ·subst e
   rcases h2 with h2 | ⟨h3, -, h4⟩
   ·exact .inl h2
   ·exact .inr ⟨h3, h4⟩
  ·have := is_two h1 (un_ne hj hk e)
   rw [hi] at this
   cases this
 ·have := h1 k hk
  rw [hi] at this
  cases this
theorem EB.drewN {C : RC} {m : TV} {B : Nat} {w0 w : World} {v0 v : Value} {xs : List Nd} {s : PS} (h : EB C m B w0 v0 w v xs s) (n : Nat) : EB C m B w0 v0 (w.drewN n) v xs s := h.below ⟨rfl, rfl, rfl, Nat.le_refl _, fun _ _ => rfl⟩
theorem un_three {k : Nat} (h : k ≤ 3) (h' : ¬ k < 3) : k = 3 := by omega
set_option maxRecDepth 100000 in
set_option maxHeartbeats 4000000 in
theorem odI_step {C : RC} (HN : NxI C) {n : Nat} (hO : OdI C n) (hPr : PrI C n) : OdI C (n + 1) := by
 intro w m B s v xs a s' hP hS hr hPB hBw hl
 have hE0 := EB.start hS hr hPB hBw
 have HPp := hide hP
 have HSe : Hid (∀ W x, EB C m B w v W v xs s → fixB x = true → ∀ q, Calls Tryz.prog 94 #[.pointer (some ⟨C.P, 0, none⟩), .string (tx x)] (W.drewN q) fun e w' => e = .returned (.bool (isS (tokT C.l) x s)) ∧ w' = W.drewN q) := fun W x h hx q => sees_any (h.drewN q).st x hx
 have HDe : Hid (∀ W x, EB C m B w v W v xs s → isS (tokT C.l) x s = true → Calls Tryz.prog 157 #[.pointer (some ⟨C.P, 0, none⟩)] W (Go1 C m W (opS (tokT C.l) x s) (.tuple #[]))) := fun W x h hi => deepen_any HN h.st hi
 have HOd : Hid (∀ W z b z1, Pa (tokT C.l) n .o z (.n b) z1 → EB C m B w v W v xs z → xs.length + b.length ≤ 1000000 → Calls Tryz.prog 200 #[.pointer (some ⟨C.P, 0, none⟩), v] W (NdI C m W B v (xs ++ b) z1)) := fun W z b z1 hp h hl => hO W m B z v xs b z1 hp h.st h.row h.pb h.le hl
 have HPr : Hid (∀ W, EB C m B w v W v xs s → (∀ k, k < 3 → isS (tokT C.l) (unL.getD k []) s = false) → Calls Tryz.prog 202 #[.pointer (some ⟨C.P, 0, none⟩), v] W (NdI C m W B v (xs ++ a) s')) := fun W h hno => by
  rcases o_inv hP with ⟨j, hj, h1, -⟩ | ⟨-, hcs⟩
  ·have := hno j hj
   rw [h1] at this
   cases this
  ·exact hPr W m B s v xs a s' hcs h.st h.row h.pb h.le hl
 have HLn := hide hl
 have HE0 := hide hE0
 have hso := hS.op
 clear hP hS hr hPB hBw hl hO hPr HN hE0
 go_enter Tryz.func200, Tryz.ntmps200
 go_wp2_with fail
 go_loopw [1, 6] (fun ev i wr => ∃ k : Nat, k ≤ 3 ∧ i = .int .i64 k ∧ v = ev ∧ (∀ j, j < k → isS (tokT C.l) (unL.getD j []) s = false) ∧ EB C m B w v wr v xs s) (fun _ i _ => 3 - (RowKit.intOf i).toNat)
 case atStart => exact ⟨0, Nat.zero_le _, rfl, rfl, fun j hj => absurd hj (Nat.not_lt_zero _), HE0.out⟩
 case round =>
  clear HE0
  obtain ⟨k, hk, rfl, rfl, hno, hE⟩ := hrel
  have HNo := hide hno
  have HE := hide hE
  clear hno hE
  by_cases hlt : k < 3
  ·obtain ⟨hw1, hw2, hkc⟩ := un_wr k hlt
   have hcut := un_cut k hlt
   have HS1 := hide (HSe.out _ _ HE.out (un_fix k hlt))
   have HNx := hide (fun h => un_next (k := k) HNo.out h)
   have HHi := hide (fun h => un_hit hlt HPp.out h)
   have HDm : Hid (isS (tokT C.l) (unL.getD k []) s = true → Dm (tokT C.l) (opS (tokT C.l) (unL.getD k []) s) s') := fun h => by
    rcases un_hit hlt HPp.out h with ⟨-, b, s1, h1, -, rfl⟩ | ⟨-, rfl⟩
    ·exact h1.dm.trans (dm_op _ _)
    ·exact dm_op _ _
   have HD1 := hide (fun W h hi => HDe.out W (unL.getD k []) h hi)
   have HOn : Hid ((opS (tokT C.l) (unL.getD k []) s).op = s.op + 1) := on_op _ _
   generalize unL.getD k [] = ux at *
   cases hi : isS (tokT C.l) ux s with
   | false =>
    have HN2 := hide (HNx.out hi)
    have HS2 : Hid (∀ q, Calls Tryz.prog 94 #[.pointer (some ⟨C.P, 0, none⟩), .string (tx ux)] (wr.drewN q) fun e w' => e = .returned (.bool false) ∧ w' = wr.drewN q) := by rw [hi] at HS1; exact HS1
    clear HSe HS1 HNx HHi HDm HD1 hi HPp HPr HOd HDe
    go_upto_region 4 with fail
    go_quiet ((go_at_call 94; exact Calls.quiet_of_same (HS2.out _)))
    go_wp2_with fail
    go_roundw
    case rel => exact ⟨k + 1, hlt, by go_num, rfl, HN2.out, HE.out.drewN _⟩
    case measure => simp [RowKit.intOf]; omega
   | true =>
    have HS2 : Hid (∀ q, Calls Tryz.prog 94 #[.pointer (some ⟨C.P, 0, none⟩), .string (tx ux)] (wr.drewN q) fun e w' => e = .returned (.bool true) ∧ w' = wr.drewN q) := by rw [hi] at HS1; exact HS1
    have HDm2 := hide (HDm.out hi)
    have HHi2 := hide (HHi.out hi)
    have HD2 := hide (fun W h => HD1.out W h hi)
    clear HSe HS1 HNx HHi HDm HD1 hi HPp HPr HDe
    generalize opS (tokT C.l) ux s = z at *
    go_upto_region 4 with fail
    go_quiet ((go_at_call 94; exact Calls.quiet_of_same (HS2.out _)))
    have hE1 := HE.out.drewN nq
    have HD3 := hide (HD2.out _ hE1)
    clear HD2 HS2 HE
    generalize wr.drewN nq = w1 at *
    go_wp2_with fail
    refine (HD3.out).mono (fun e w2 hg => ?_)
    rcases hg.symm with hd | ⟨-, rfl, z2, t2⟩
    ·have HF : Hid (NdI C m w B v (xs ++ a) s' e w2) := hE1.die hd (HDm2.out)
     obtain ⟨-, rfl, -⟩ := hd
     unfold flt at *
     go_wp2_with fail
     exact ⟨rfl, HF.out⟩
    have hE2 := hE1.go z2 t2
    clear z2 t2
    go_wp2_with fail
    rcases HHi2.out with ⟨-, b, s1, hp1, rfl, rfl⟩ | ⟨h0, -⟩
    ·have hln := HLn.out
     simp only [List.length_append, List.length_singleton] at hln
     have HO2 := hide (HOd.out w2 z b s1 hp1 hE2 (by omega))
     have HO1 : Hid (s1.op = s.op + 1) := hp1.op.trans HOn.out
     clear hp1 HHi2 HOd
     refine (HO2.out).mono (fun e w3 hg => ?_)
     rcases hg.symm with hd | ⟨-, u3, rfl, hn⟩
     ·have HF : Hid (NdI C m w B v (xs ++ (b ++ [⟨6, (k : Int), tx []⟩])) { s1 with op := s1.op - 1 } e w3) := hE2.die hd (dm_op _ _)
      obtain ⟨-, rfl, -⟩ := hd
      unfold flt at *
      go_wp2_with fail
      exact ⟨rfl, HF.out⟩
     have hE3 := hE2.then hn
     clear hn
     have c8 := hE3.st.cop.1
     have f8 := hE3.st.cop.2
     have hob : 1 ≤ s1.op ∧ s1.op ≤ 30 := by have := hE3.st.op.2; have := HO1.out; omega
     obtain ⟨z4, t4⟩ := hE3.st.reop (s1.op - 1) (by omega)
     obtain ⟨W4, eW4⟩ : ∃ W4, W4 = w3.setCell ⟨C.P, 8, none⟩ (.int .i64 (s1.op - 1)) := ⟨_, rfl⟩
     rw [← eW4] at z4 t4
     have hE4 := hE3.go z4 t4
     have HW4 := hide eW4
     have hlx : (xs ++ b).length ≤ 2000000 := by rw [List.length_append]; omega
     clear eW4 z4 t4 hE3 hE2 hE1 HO2
     go_upto_region 8 with fail
     rw [← HW4.out]
     clear c8 f8
     obtain ⟨W6, eW6⟩ : ∃ W6, W6 = W4.alloc (.cells #[.int .i64 (6), .int .i64 ((k : Int)), .string (⟨#[]⟩)] 48) := ⟨_, rfl⟩
     obtain ⟨B6, eB6⟩ : ∃ B6, B6 = W4.heap.size := ⟨_, rfl⟩
     obtain ⟨u6, w6, r6, f6⟩ := hE4.lit (6) ((k : Int)) (⟨#[]⟩) eW6 eB6 (hlx)
     have HW6 := hide eW6
     have HB6 := hide eB6
     have HR6 := hide r6
     have HF6 := hide f6
     clear eW6 eB6 r6 f6 hE4
     go_wp2_with (at_builtin; rw [← HW6.out, ← HB6.out]; refine wpList_appG rfl _ _ _ rfl _ _ u6 w6 rfl rfl HR6.out ?_)
     go_ret
     have hF := HF6.out
     rw [List.append_assoc] at hF
     exact hF
    ·exact absurd (al_er hE2.st.al) h0
  ·obtain rfl := un_three hk hlt
   have HP2 := hide (HPr.out _ HE.out HNo.out)
   have hE1 := HE.out
   clear HPr HSe HPp HDe HOd HE HNo
   go_wp2_with fail
   refine (HP2.out).mono (fun e w2 hg => ?_)
   rcases hg.symm with hd | ⟨-, u2, rfl, hn⟩
   ·have HF : Hid (NdI C m w B v (xs ++ a) s' e w2) := hE1.die hd (Dm.refl _)
    obtain ⟨-, rfl, -⟩ := hd
    unfold flt at *
    go_wp2_with fail
    exact ⟨rfl, HF.out⟩
   have hE2 := hE1.then hn
   clear hn
   go_wp2_with fail
   have HF := hide hE2.fin
   go_ret
   exact HF.out
theorem all_xi {C : RC} (HN : NxI C) : ∀ n : Nat, n ≤ 1000000 → ClI C n ∧ OdI C n ∧ CallI C n
 | 0, _ => ⟨fun _ _ _ _ _ _ _ _ _ h => (by cases h using Pa_i), fun _ _ _ _ _ _ _ _ h => (by cases h using Pa_i), fun _ _ _ _ _ _ _ _ _ h => (by cases h using Pa_i)⟩
 | n + 1, hn => by
  obtain ⟨h1, h2, h3⟩ := all_xi HN n (by omega)
  have hE := exI_of h1
  exact ⟨clI_step HN h2 h1, odI_step HN h2 (prI_of HN hE (usI_of HN hE h3)), callI_step HN (by omega) hE⟩
end
section
open Go.RowKit
theorem nrow_one {B : Nat} {w : World} {v : Value} {ns : List Nd} (h : NRow B w v ns) : ∃ K, NOne B w v ns K ∧ (∀ g, g ∈ K → v.ownBlock = some g) ∧ K.Nodup := by
 have h0 : w.ownsRow B 48 3 v ns.length (flatN ns) := h
 rcases h0.2 with ⟨rfl, hz⟩ | ⟨g, cap, cur, rfl, h3, h4, h5, h6, h7⟩
 ·have : ns = [] := List.eq_nil_of_length_eq_zero hz
  subst this
  exact ⟨[], .inl ⟨rfl, rfl, none, 0, rfl, by omega⟩, (fun g hg => by cases hg), List.nodup_nil⟩
 ·refine ⟨[g], .inr ⟨g, cap, rfl, rfl, h5, by unfold maxLen at h6; exact h6, h3, (Array.getElem?_eq_some_iff.1 h4).1, ?_, fun j hj => World.ownsRow.frozenAt h0 j⟩, fun x hx => ?_, List.nodup_cons.2 ⟨List.not_mem_nil, List.nodup_nil⟩⟩
  ·obtain ⟨a, c, e, -, -, hc⟩ := NRow.nodes h
   intro j hj
   obtain ⟨b, off, e2, hcc⟩ := hc (by omega)
   cases e
   cases e2
   exact hcc j hj
  ·simp only [List.mem_singleton] at hx
   rw [hx]; rfl
theorem NOne.cellO {B : Nat} {w : World} {v : Value} {ns : List Nd} {K : List Nat} (h : NOne B w v ns K) : v.oneCell' = true := by
 rcases h with ⟨-, -, a, c, rfl, -⟩ | ⟨g, cap, rfl, -⟩ <;> rfl
theorem NOne.tcs {B : Nat} {S : Nat → Prop} {w w' : World} {v : Value} {ns : List Nd} {K : List Nat} (h : NOne B w v ns K) (ht : Tcs S w w') (hn : ∀ g ∈ K, ¬ S g) : NOne B w' v ns K := h.keep ht.size fun g hg => ht.block g (h.rng g hg).2 (hn g hg)
theorem StRow.tcs {B : Nat} {S : Nat → Prop} {w w' : World} {v : Value} {R : List SV} (h : StRow B w v R) (ht : Tcs S w w') (hv : ∀ g, v.ownBlock = some g → ¬ S g) (hn : ∀ g ∈ blkS R, ¬ S g) : StRow B w' v R :=
 ⟨own_notU h.row ht hv, fun q hq => ⟨(h.each q hq).1.tcs ht fun g hg => hn g ((mem_blk hq).1 g hg), (h.each q hq).2.tcs ht fun g hg => hn g ((mem_blk hq).2 g hg)⟩, h.nd, h.out⟩
structure SB (C : RC) (m : TV) (B : Nat) (w0 : World) (v0 : Value) (w : World) (v : Value) (R : List SV) (s : PS) : Prop where
 st : RSt C m w s
 row : StRow B w v R
 t : Tcs (fun k => k = C.P ∨ v0.ownBlock = some k) w0 w
 own : ∀ k, v.ownBlock = some k → v0.ownBlock = some k ∨ w0.heap.size ≤ k
 pb : C.P + 1 < B
 b0 : B ≤ w0.heap.size
 r0 : ∀ k, v0.ownBlock = some k → B ≤ k
theorem SB.start {C : RC} {m : TV} {B : Nat} {w : World} {v : Value} {R : List SV} {s : PS} (h : RSt C m w s) (hr : StRow B w v R) (hp : C.P + 1 < B) (hb : B ≤ w.heap.size) : SB C m B w v w v R s :=
 ⟨h, hr, Tcs.refl _ _, fun k hk => .inl hk, hp, hb, fun k hk => (World.ownsRow.lt hr.row k hk).1⟩
def StI (C : RC) (m : TV) (w : World) (B : Nat) (v : Value) (R : List SV) (a : List St) (s' : PS) (e : Ending) (w' : World) : Prop :=
 (¬ dmS (tokT C.l) s' ∧ ∃ u R2, e = .returned u ∧ R2.map SV.s = a ∧ SB C m B w v w' u (R ++ R2) s') ∨ DieI C w s' e w'
section
variable {C : RC} {m : TV} {B : Nat} {w0 w w' : World} {v0 v : Value} {R : List SV} {s z : PS}
theorem SB.go (h : SB C m B w0 v0 w v R s) (hz : RSt C m w' z) (ht : Tcs (fun k => k = C.P) w w') : SB C m B w0 v0 w' v R z :=
 ⟨hz, h.row.tcs ht (fun g hg e => by have := (World.ownsRow.lt h.row.row g hg).1; have := h.pb; omega) (fun g hg e => by have := (h.row.rng g hg).1; have := h.pb; omega), h.t.trans (ht.mono fun k hk => .inl hk), h.own, h.pb, h.b0, h.r0⟩
theorem SB.below (h : SB C m B w0 v0 w v R s) (hb : Below w.heap.size w w') : SB C m B w0 v0 w' v R s :=
 ⟨h.st.below hb, h.row.below hb, h.t.of_below hb, h.own, h.pb, h.b0, h.r0⟩
theorem SB.then {u : Value} {R' : List SV} (h : SB C m B w0 v0 w v R s) (h' : SB C m B w v w' u R' z) : SB C m B w0 v0 w' u R' z :=
 ⟨h'.st, h'.row, h.t.next h'.t (fun k hk => by
   rcases hk with hk | hk
   ·exact .inl (.inl hk)
   ·rcases h.own k hk with h1 | h1
    ·exact .inl (.inr h1)
    ·exact .inr h1), fun k hk => by
   rcases h'.own k hk with h1 | h1
   ·exact h.own k h1
   ·exact .inr (Nat.le_trans h.t.size h1), h.pb, h.b0, h.r0⟩
theorem SB.bb (h : SB C m B w0 v0 w v R s) : Kp C w0 w := tcs_b0 h.t (fun k hk => by
 have := h.st.ok.hi
 have := h.pb
 rcases hk with hk | hk
 ·omega
 ·have := h.r0 k hk; omega) (by have := h.st.ok.hi; have := h.pb; have := h.b0; omega)
theorem SB.le (h : SB C m B w0 v0 w v R s) : B ≤ w.heap.size := Nat.le_trans h.b0 h.t.size
theorem SB.die {e : Ending} {w2 : World} {z' : PS} (h : SB C m B w0 v0 w v R s) (hd : DieI C w z e w2) (hm : Dm (tokT C.l) z z') {Q : List SV} {a : List St} : StI C m w0 B v0 Q a z' e w2 := .inr (hd.later hm h.bb)
theorem SB.fin {R2 : List SV} {a : List St} (h : SB C m B w0 v0 w v (R ++ R2) s) (ha : R2.map SV.s = a) : StI C m w0 B v0 R a s (.returned v) w := .inl ⟨h.st.al, v, R2, rfl, ha, h⟩
theorem SB.app {w1 W : World} {b : Nat} (h : SB C m B w0 v0 w v R s) (q : SV) (he : NOne w1.heap.size w q.ve q.s.e q.ke) (hf : NOne w1.heap.size w q.vf q.s.f q.kf) (hn : (q.ke ++ q.kf).Nodup) (hR : ∀ g ∈ blkS R, g < w1.heap.size) (hv : ∀ g, v.ownBlock = some g → g < w1.heap.size) (hB1 : B ≤ w1.heap.size)
  (hW : W = w.alloc (.cells #[.int .i64 q.s.kind, .string q.s.name, q.ve, q.vf, .int .i64 q.s.thn, .int .i64 q.s.els] 46)) (hb : b = w.heap.size) (hl : R.length ≤ 2000000) :
  ∃ u w', (Builtin.append_ #[41, 41] 41 #[v, .slice (some ⟨b, 0, none⟩) 1 1]).run Tryz.prog W = .ok u w' ∧ SB C m B w0 v0 w' u (R ++ [q]) s := by
 obtain ⟨i0, hi, hz0, hz1, hz2⟩ := info_parts info_stmt
 have hb1 : Below w.heap.size w W := by rw [hW]; exact (Below.refl _ _).alloc (Nat.le_refl _) _
 have hx : FrC W b (cellsS q) := by rw [hW, hb]; exact box_fr w #[.int .i64 q.s.kind, .string q.s.name, q.ve, q.vf, .int .i64 q.s.thn, .int .i64 q.s.els] _ (by show 6 ≤ 1000; omega)
 have hr1 := h.row.below hb1
 have hle := h.le
 obtain ⟨u, w', r1, r2, r3, r4⟩ := run_appG (P := Tryz.prog) (w := W) B 41 41 46 i0 _ 6 88 Tryz.underlying41 hi hz0 hz1 hz2 rfl (by decide) v R.length (flatS R) hr1.row (some ⟨b, 0, none⟩) 1 1 (cellsS q) (fun h => by cases h) rfl (fun ad had j x hj => by
  cases had
  rw [addrA, Nat.zero_add]
  exact (hx j x hj).1) (fun x hx => by
  simp only [cellsS, List.mem_cons, List.not_mem_nil, or_false] at hx
  rcases hx with rfl | rfl | rfl | rfl | rfl | rfl
  ·rfl
  ·rfl
  ·exact he.cellO
  ·exact hf.cellO
  ·rfl
  ·rfl) (by omega) (by decide) (Nat.le_trans hle hb1.size)
 have t : Tcs (fun k => v.ownBlock = some k) W w' := Tcs.of_grown r3 (fun k h => h)
 have hvB : ∀ k, v.ownBlock = some k → B ≤ k := fun k hk => (World.ownsRow.lt h.row.row k hk).1
 have he1 := he.keep hb1.size fun g hg => hb1.block g (he.rng g hg).2
 have hf1 := hf.keep hb1.size fun g hg => hb1.block g (hf.rng g hg).2
 have he2 := he1.tcs t (fun g hg e => by have := (he1.rng g hg).1; have := hv g e; omega)
 have hf2 := hf1.tcs t (fun g hg e => by have := (hf1.rng g hg).1; have := hv g e; omega)
 have hs1 := h.st.below hb1
 refine ⟨u, w', r1, ⟨hs1.tcs t (fun e => by have := hvB _ e; have := h.pb; omega) (fun k hk => by have := hvB k hk; have := h.pb; have := h.st.ok.hi; omega), ⟨?_, fun x hx => ?_, ?_, fun g hg hm => ?_⟩, (h.t.of_below hb1).next t (fun k hk => by
  rcases h.own k hk with h1 | h1
  ·exact .inl (.inr h1)
  ·exact .inr h1), fun k hk => by
  rcases r4 k hk with h1 | h1
  ·exact h.own k h1
  ·exact .inr (Nat.le_trans (Nat.le_trans h.t.size hb1.size) h1), h.pb, h.b0, h.r0⟩⟩
 ·rw [List.length_append, flatS_append]
  simpa [flatS] using r2
 ·rcases List.mem_append.1 hx with hx | hx
  ·have hb := mem_blk hx
   exact ⟨(hr1.each x hx).1.tcs t fun g hg e => h.row.out g e (hb.1 g hg), (hr1.each x hx).2.tcs t fun g hg e => h.row.out g e (hb.2 g hg)⟩
  ·simp only [List.mem_singleton] at hx
   subst hx
   exact ⟨he2.base hB1, hf2.base hB1⟩
 ·rw [blkS_append, List.nodup_append]
  refine ⟨h.row.nd, by simpa [blkS] using hn, fun x hx y hy e => ?_⟩
  subst e
  have h1 := hR x hx
  simp only [blkS, List.flatMap_cons, List.flatMap_nil, List.append_nil, List.mem_append] at hy
  rcases hy with hy | hy
  ·have := (he.rng _ hy).1; omega
  ·have := (hf.rng _ hy).1; omega
 ·rw [blkS_append] at hm
  rcases List.mem_append.1 hm with hm | hm
  ·rcases r4 g hg with h1 | h1
   ·exact h.row.out g h1 hm
   ·have := (hr1.rng g hm).2; omega
  ·have hq : w1.heap.size ≤ g ∧ g < W.heap.size := by
    simp only [blkS, List.flatMap_cons, List.flatMap_nil, List.append_nil, List.mem_append] at hm
    rcases hm with hm | hm
    ·exact he1.rng _ hm
    ·exact hf1.rng _ hm
   rcases r4 g hg with h1 | h1
   ·have := hv g h1; omega
   ·omega
theorem SB.put (h : SB C m B w0 v0 w v R s) (j i : Nat) (q : SV) (x : Int) (hj : j < R.length) (hi : i < 6) (hq : cellsS q = (cellsS R[j]).set i (.int .i64 x)) (hk : q.ke = R[j].ke ∧ q.kf = R[j].kf ∧ q.ve = R[j].ve ∧ q.vf = R[j].vf ∧ q.s.e = R[j].s.e ∧ q.s.f = R[j].s.f) :
  ∃ g c, v = .slice (some ⟨g, 0, none⟩) R.length c ∧ w.cell? ⟨g, j * 6 + i, none⟩ = (cellsS R[j])[i]? ∧ w.frozen? ⟨g, j * 6 + i, none⟩ = false ∧ SB C m B w0 v0 (w.setCell ⟨g, j * 6 + i, none⟩ (.int .i64 x)) v (R.set j q) s := by
 have h0 := h.row.row
 rcases h.row.row.2 with ⟨-, hz⟩ | ⟨g, cap, cur, rfl, h3, h4, h5⟩
 ·omega
 ·have hcell := World.ownsRow.cellAt h0 (j * 6 + i) (by omega)
  rw [flatS_get R j i hj hi] at hcell
  have hst := World.ownsRow.stored h0 (j * 6 + i) (.int .i64 x)
  have ht : Tcs (fun k => k = g) w (w.setCell ⟨g, j * 6 + i, none⟩ (.int .i64 x)) := (Tcs.refl (fun k => k = g) w).setCell (p := ⟨g, j * 6 + i, none⟩) rfl _
  have hfl : (flatS R).set (j * 6 + i) (.int .i64 x) = flatS (R.set j q) := by
   apply List.ext_getElem?
   intro k
   have hlen : (flatS (R.set j q)).length = (flatS R).length := by rw [flatS_len, flatS_len, List.length_set]
   by_cases hkl : k < (flatS R).length
   ·have hR : (flatS R).length = R.length * 6 := flatS_len R
    obtain ⟨a, b, hb, rfl⟩ : ∃ a b, b < 6 ∧ k = a * 6 + b := ⟨k / 6, k % 6, Nat.mod_lt _ (by decide), by omega⟩
    have ha : a < R.length := by omega
    rw [flatS_get (R.set j q) a b (by rw [List.length_set]; exact ha) hb]
    by_cases e : a = j
    ·subst e
     rw [List.getElem_set_self, hq]
     by_cases e2 : b = i
     ·subst e2
      rw [List.getElem?_set_self (by omega), List.getElem?_set_self (by show b < 6; omega)]
     ·rw [List.getElem?_set_ne (by omega), List.getElem?_set_ne (by omega), flatS_get R a b ha hb]
    ·rw [List.getElem_set_ne (by omega), List.getElem?_set_ne (by omega), flatS_get R a b ha hb]
   ·rw [List.getElem?_eq_none (by rw [List.length_set]; omega), List.getElem?_eq_none (by omega)]
  have hbl : blkS (R.set j q) = blkS R := by
   unfold blkS
   have e : (R.set j q).map (fun q => q.ke ++ q.kf) = R.map (fun q => q.ke ++ q.kf) := by
    rw [List.map_set]
    apply List.ext_getElem?
    intro k
    by_cases e : j = k
    ·subst e
     rw [List.getElem?_set_self (by rw [List.length_map]; exact hj), List.getElem?_map, List.getElem?_eq_getElem hj]
     simp [hk.1, hk.2.1]
    ·rw [List.getElem?_set_ne e]
   rw [List.flatMap_def, List.flatMap_def, e]
  refine ⟨g, cap, rfl, hcell, World.ownsRow.frozenAt h0 _, ⟨h.st.tcs ht (fun e => by have := h.pb; omega) (fun k hk => by rw [hk]; have := h.pb; have := h.st.ok.hi; omega), ⟨?_, fun x hx => ?_, by rw [hbl]; exact h.row.nd, fun k hk => by rw [hbl]; exact h.row.out k hk⟩, h.t.next ht (fun k hk => by
   rw [hk]
   rcases h.own g rfl with h1 | h1
   ·exact .inl (.inr h1)
   ·exact .inr h1), h.own, h.pb, h.b0, h.r0⟩⟩
  ·rw [List.length_set, ← hfl]; exact hst.1
  ·have hng : ∀ y ∈ R, (∀ k ∈ y.ke, ¬ k = g) ∧ ∀ k ∈ y.kf, ¬ k = g := fun y hy => ⟨fun k hk e => h.row.out g rfl (by rw [← e]; exact (mem_blk hy).1 k hk), fun k hk e => h.row.out g rfl (by rw [← e]; exact (mem_blk hy).2 k hk)⟩
   rcases List.mem_or_eq_of_mem_set hx with hx | rfl
   ·exact ⟨(h.row.each x hx).1.tcs ht (hng x hx).1, (h.row.each x hx).2.tcs ht (hng x hx).2⟩
   ·have hm : R[j] ∈ R := List.getElem_mem hj
    rw [hk.1, hk.2.1, hk.2.2.1, hk.2.2.2.1, hk.2.2.2.2.1, hk.2.2.2.2.2]
    exact ⟨(h.row.each _ hm).1.tcs ht (hng _ hm).1, (h.row.each _ hm).2.tcs ht (hng _ hm).2⟩
end
end
section
open Go.RowKit
structure BI (C : RC) (m : TV) (w0 : World) (M : Nat) (xs : List Value) (W : World) (z : PS) : Prop where
 st : RSt C m W z
 bx : FrC W M xs
 t : Tcs (fun k => k = C.P) w0 W
 m : M < W.heap.size
 mw : w0.heap.size ≤ M
 hl : C.P + 1 < w0.heap.size
section
variable {C : RC} {m : TV} {w0 W W' : World} {M : Nat} {xs : List Value} {z z' : PS}
theorem BI.ne (h : BI C m w0 M xs W z) : C.P ≠ M := by have := h.mw; have := h.hl; omega
theorem BI.below (h : BI C m w0 M xs W z) (hb : Below W.heap.size W W') : BI C m w0 M xs W' z := ⟨h.st.below hb, h.bx.below hb, h.t.of_below hb, Nat.lt_of_lt_of_le h.m hb.size, h.mw, h.hl⟩
theorem BI.go (h : BI C m w0 M xs W z) (hz : RSt C m W' z') (ht : Tcs (fun k => k = C.P) W W') : BI C m w0 M xs W' z' := ⟨hz, h.bx.tcs h.m ht (fun e => h.ne e.symm), h.t.trans ht, Nat.lt_of_lt_of_le h.m ht.size, h.mw, h.hl⟩
theorem BI.bb (h : BI C m w0 M xs W z) : Kp C w0 W := tcs_b0 h.t (fun k hk => by rw [hk]; exact ⟨h.st.ok.hi, by omega⟩) (by have := h.st.ok.hi; have := h.hl; omega)
theorem BI.put (h : BI C m w0 M xs W z) (i : Nat) (u : Value) (hX : W' = W.setCell ⟨M, i, none⟩ u) : BI C m w0 M (xs.set i u) W' z ∧ Tcs (fun k => k = M) W W' := by
 have t1 : Tcs (fun k => k = M) W W' := by rw [hX]; exact (Tcs.refl (fun k => k = M) W).setCell (p := ⟨M, i, none⟩) rfl u
 have hx := h.bx.set i u
 rw [← hX] at hx
 have h1 := h.mw
 have h2 := h.hl
 have h3 := h.st.ok.hi
 exact ⟨⟨h.st.tcs t1 (by omega) (fun k hk => by omega), hx, h.t.next t1 (fun k hk => .inr (by omega)), Nat.lt_of_lt_of_le h.m t1.size, h.mw, h.hl⟩, t1⟩
theorem BI.q (h : BI C m w0 M xs W z) {j : Nat} {v : Value} (hj : xs[j]? = some v) : W.cell? ⟨M, j, none⟩ = some v ∧ W.frozen? ⟨M, j, none⟩ = false := h.bx j v hj
theorem BI.new {w : World} (cs : Array Value) (T : TypeId) (hc : cs.size = 6) (hS : RSt C m w z) (hT : Tcs (fun k => k = C.P) w0 w) (hl : C.P + 1 < w0.heap.size) (hW : W = w.alloc (.cells cs T)) (hM : M = w.heap.size) : BI C m w0 M cs.toList W z := by
 have hb : Below w.heap.size w W := by rw [hW]; exact (Below.refl _ _).alloc (Nat.le_refl _) _
 have hx : FrC W M cs.toList := by rw [hW, hM]; exact box_fr w cs _ (by omega)
 have h0 : 0 < cs.toList.length := by rw [Array.length_toList]; omega
 exact ⟨hS.below hb, hx, hT.of_below hb, World.block_lt_of_cell? _ _ (hx 0 _ (List.getElem?_eq_getElem h0)).1, by rw [hM]; exact hT.size, hl⟩
theorem BI.put6 {x0 x1 x2 x3 x4 x5 y0 y1 y2 y3 y4 y5 : Value} (h : BI C m w0 M [x0, x1, x2, x3, x4, x5] W z) (hX : W' = (((((W.setCell ⟨M, 0, none⟩ y0).setCell ⟨M, 1, none⟩ y1).setCell ⟨M, 2, none⟩ y2).setCell ⟨M, 3, none⟩ y3).setCell ⟨M, 4, none⟩ y4).setCell ⟨M, 5, none⟩ y5) :
  BI C m w0 M [y0, y1, y2, y3, y4, y5] W' z ∧ Tcs (fun k => k = M) W W' := by
 obtain ⟨h0, t0⟩ := h.put 0 y0 rfl
 obtain ⟨h1, t1⟩ := h0.put 1 y1 rfl
 obtain ⟨h2, t2⟩ := h1.put 2 y2 rfl
 obtain ⟨h3, t3⟩ := h2.put 3 y3 rfl
 obtain ⟨h4, t4⟩ := h3.put 4 y4 rfl
 obtain ⟨h5, t5⟩ := h4.put 5 y5 rfl
 rw [hX]
 exact ⟨h5, ((((t0.trans t1).trans t2).trans t3).trans t4).trans t5⟩
theorem BI.fr {u : Value} {r : List Nd} (h : BI C m w0 M xs W z) (hE : EB C m W.heap.size W (.slice none 0 0) W' u r z') : BI C m w0 M xs W' z' ∧ NRow W.heap.size W' u r := by
 have ht : Tcs (fun k => k = C.P) W W' := hE.t.mono fun k hk => by
  rcases hk with hk | hk
  ·exact hk
  ·simp [Value.ownBlock] at hk
 exact ⟨h.go hE.st ht, hE.row⟩
theorem BI.keepP {V : World} {u : Value} {r : List Nd} {Bs : Nat} (h : BI C m w0 M xs W z) (hr : NRow Bs W u r) (hB : C.P + 1 < Bs) (t : Tcs (fun k => k = C.P) W V) : NRow Bs V u r := own_tcs hr t (fun k hk => by rw [hk]; omega)
theorem BI.keepM {V : World} {u : Value} {r : List Nd} {Bs : Nat} (hM : M < Bs) (hr : NRow Bs W u r) (t : Tcs (fun k => k = M) W V) : NRow Bs V u r := own_tcs hr t (fun k hk => by rw [hk]; exact hM)
end
def NmA (C : RC) (m : TV) (w : World) (r : List St) (s' : PS) (e : Ending) (w' : World) : Prop :=
 (¬ dmS (tokT C.l) s' ∧ ∃ q : SV, e = .returned (.agg #[.int .i64 q.s.kind, .string q.s.name, q.ve, q.vf, .int .i64 q.s.thn, .int .i64 q.s.els]) ∧ r = [q.s] ∧ NOne w.heap.size w' q.ve q.s.e q.ke ∧ NOne w.heap.size w' q.vf q.s.f q.kf ∧ (q.ke ++ q.kf).Nodup ∧ RSt C m w' s' ∧ Tcs (fun k => k = C.P) w w') ∨ DieI C w s' e w'
theorem BI.one {C : RC} {m : TV} {w0 W : World} {M : Nat} {xs : List Value} {z : PS} {Bs : Nat} {u : Value} {a : List Nd} (h : BI C m w0 M xs W z) (k : Int) (x : ByteArray) (hr : NRow Bs W u a) (hB : w0.heap.size ≤ Bs) : NmA C m w0 [⟨k, x, a, [], 0, 0⟩] z (.returned (.agg #[.int .i64 k, .string x, u, .slice none 0 0, .int .i64 0, .int .i64 0])) W := by
 obtain ⟨K, h1, h2, h3⟩ := nrow_one hr
 exact .inl ⟨h.st.al, ⟨⟨k, x, a, [], 0, 0⟩, u, .slice none 0 0, K, []⟩, rfl, rfl, h1.base hB, NOne.nil _ _, by rw [List.append_nil]; exact h3, h.st, h.t⟩
theorem BI.two {C : RC} {m : TV} {w0 W : World} {M : Nat} {xs : List Value} {z : PS} {Bs Bf : Nat} {u f : Value} {a b : List Nd} (h : BI C m w0 M xs W z) (k : Int) (x : ByteArray) (hr : NRow Bs W u a) (hB : w0.heap.size ≤ Bs) (hf : NRow Bf W f b) (hBf : w0.heap.size ≤ Bf) (hu : ∀ g, u.ownBlock = some g → g < Bf) : NmA C m w0 [⟨k, x, a, b, 0, 0⟩] z (.returned (.agg #[.int .i64 k, .string x, u, f, .int .i64 0, .int .i64 0])) W := by
 obtain ⟨K, h1, h2, h3⟩ := nrow_one hr
 obtain ⟨K', h1', h2', h3'⟩ := nrow_one hf
 refine .inl ⟨h.st.al, ⟨⟨k, x, a, b, 0, 0⟩, u, f, K, K'⟩, rfl, rfl, h1.base hB, h1'.base hBf, ?_, h.st, h.t⟩
 show (K ++ K').Nodup
 rw [List.nodup_append]
 refine ⟨h3, h3', fun p hp q hq e => ?_⟩
 subst e
 have := hu p (h2 p hp)
 have := (h1'.rng p hq).1
 omega
end
section
open Go.RowKit
def NmI (C : RC) (n : Nat) : Prop := ∀ (w : World) (m : TV) (z : PS) (nm : ByteArray) (r : List St) (s' : PS),
 ((isS (tokT C.l) [91] z = true ∧ ∃ a s1, Pa (tokT C.l) n (.pr [91] [93]) z (.n a) s1 ∧ Pa (tokT C.l) n (.sg ⟨3, nm, a, [], 0, 0⟩) s1 (.s r) s') ∨
    (isS (tokT C.l) [91] z = false ∧ isS (tokT C.l) [40] z = true ∧ ∃ a s1, Pa (tokT C.l) n (.ar nm) z (.n a) s1 ∧ r = [⟨8, tx [], a, [], 0, 0⟩] ∧ s' = taS (tokT C.l) [59] s1) ∨
    (isS (tokT C.l) [91] z = false ∧ isS (tokT C.l) [40] z = false ∧ Pa (tokT C.l) n (.sg (st0 2 nm)) z (.s r) s')) →
 RSt C m w z → szS r ≤ 1000000 → Calls Tryz.prog 177 #[.pointer (some ⟨C.P, 0, none⟩), .string nm] w (NmA C m w r s')
theorem sg_go {T : Nat → To} {n : Nat} {t : St} {s : PS} {r : List St} {s' : PS} (h : Pa T n (.sg t) s (.s r) s') :
  Dm T (taS T [61] s) s' ∧ ((taS T [61] s).er = 0 → ∃ a s1, Pa T n (.e 1) (taS T [61] s) (.n a) s1 ∧ r = [sgE t a] ∧ s' = taS T [59] s1) := by
 cases n with
 | zero => cases h using Pa_i
 | succ n =>
  rcases sg_inv h with ⟨h1, -, rfl⟩ | ⟨h1, a, s1, hp, rfl, rfl⟩
  ·exact ⟨dm_ta _ _, fun e => absurd e h1⟩
  ·exact ⟨hp.dm.trans (dm_ta _ _), fun _ => ⟨a, s1, hp.up, rfl, rfl⟩⟩
set_option maxRecDepth 100000 in
set_option maxHeartbeats 4000000 in
theorem nmI_of {C : RC} (HN : NxI C) {n : Nat} (hEd : EdI C n) (hWt : WtI C n) (hCa : CallI C n) : NmI C n := by
 intro w m z nm r s' hcs hS hsz
 have HPw := hide hS.lt
 obtain ⟨W1, eW1⟩ : ∃ W1, W1 = w.alloc (.cells #[.int .i64 0, .string ⟨#[]⟩, .slice none 0 0, .slice none 0 0, .int .i64 0, .int .i64 0] 46) := ⟨_, rfl⟩
 obtain ⟨M, eM⟩ : ∃ M, M = w.heap.size := ⟨_, rfl⟩
 have hb1 := BI.new #[.int .i64 0, .string ⟨#[]⟩, .slice none 0 0, .slice none 0 0, .int .i64 0, .int .i64 0] 46 rfl hS (Tcs.refl (fun k => k = C.P) w) hS.lt eW1 eM
 have HW1 := hide eW1
 have HM := hide eM
 have HSk : Hid (∀ W y, RSt C m W y → Calls Tryz.prog 126 #[.pointer (some ⟨C.P, 0, none⟩), .string (tx [61])] W fun e w' => (isS (tokT C.l) [61] y = false ∧ e = .returned (.bool false) ∧ w' = W) ∨ (isS (tokT C.l) [61] y = true ∧ Go1 C m W y.ad (.bool true) e w')) := fun W y h => skip_any HN h [61] (by decide)
 have HSe : Hid (∀ W y x, fixB x = true → RSt C m W y → Calls Tryz.prog 94 #[.pointer (some ⟨C.P, 0, none⟩), .string (tx x)] W fun e w' => e = .returned (.bool (isS (tokT C.l) x y)) ∧ w' = W) := fun W y x hx h => sees_any h x hx
 have HEx : Hid (∀ W y x, fixB x = true → RSt C m W y → Calls Tryz.prog 92 #[.pointer (some ⟨C.P, 0, none⟩), .string (tx x)] W (Go1 C m W (taS (tokT C.l) x y) (.tuple #[]))) := fun W y x hx h => expect_any HN h x hx
 have HFa : Hid (∀ W y, RSt C m W y → Calls Tryz.prog 122 #[.pointer (some ⟨C.P, 0, none⟩), .int .i64 3] W fun e w' => e = flt (3, ((tokT C.l y.i).pl : Int)) ∧ w' = W) := fun W y h => failS_any h 3
 have HEd : Hid (∀ W y a s1, Pa (tokT C.l) n (.e 1) y (.n a) s1 → RSt C m W y → a.length ≤ 1000000 → Calls Tryz.prog 178 #[.pointer (some ⟨C.P, 0, none⟩)] W (NdI C m W W.heap.size (.slice none 0 0) a (taS (tokT C.l) [59] s1))) := fun W y a s1 hp h hl => hEd W m y a s1 hp h hl
 have HWt : Hid (∀ W y a s1, Pa (tokT C.l) n (.pr [91] [93]) y (.n a) s1 → RSt C m W y → a.length ≤ 1000000 → Calls Tryz.prog 180 #[.pointer (some ⟨C.P, 0, none⟩), .string (tx [91]), .string (tx [93])] W (NdI C m W W.heap.size (.slice none 0 0) a s1)) := fun W y a s1 hp h hl => hWt W m y [91] [93] a s1 (by decide) (by decide) hp h hl
 have HCa : Hid (∀ W a s1, Pa (tokT C.l) n (.ar nm) z (.n a) s1 → RSt C m W z → a.length ≤ 1000000 → Calls Tryz.prog 194 #[.pointer (some ⟨C.P, 0, none⟩), .slice none 0 0, .string nm] W (NdI C m W W.heap.size (.slice none 0 0) ([] ++ a) s1)) := fun W a s1 hp h hl => hCa W m W.heap.size z nm (.slice none 0 0) [] a s1 hp h (nrow_none _ _) h.lt (Nat.le_refl _) (by simpa using hl)
 clear hEd hWt hCa HN eW1 eM hS
 have HC := hide hcs
 go_enter Tryz.func177, Tryz.ntmps177
 go_upto_region 1 with fail
 rw [← HW1.out, ← HM.out]
 have hal1 := hb1.st.al
 go_wp2_with fail
 refine (HSk.out _ _ hb1.st).mono (fun e w2 hg => ?_)
 rcases hg with ⟨h61, rfl, hw⟩ | ⟨h61, hg⟩
 ·rw [hw]
  clear hw
  go_wp2_with fail
  rcases hcs with ⟨hi, a, s1, hp, hq⟩ | ⟨hi, hj, a, s1, hp, rfl, rfl⟩ | ⟨hi, hj, hp⟩
  ·refine (HSe.out _ _ [91] (by decide) hb1.st).mono ?_
   rintro e w9 ⟨rfl, hw⟩
   rw [hw, hi]
   clear hw
   obtain ⟨hdm, hgo⟩ := sg_go hq
   have hal : a.length ≤ 1000000 := Nat.le_trans (sg_sz hq rfl) hsz
   have HR1 := hide (HWt.out W1 z a s1 hp hb1.st hal)
   have HDm := hide hdm
   have HGo := hide hgo
   clear hp hq hdm hgo HC hi h61
   go_wp2_with fail
   refine (HR1.out).mono (fun e w3 hg => ?_)
   rcases hg.symm with hd | ⟨-, u3, rfl, hn⟩
   ·have HF : Hid (NmA C m w r s' e w3) := .inr (hd.later ((dm_ta _ _).trans HDm.out) hb1.bb)
    obtain ⟨-, rfl, -⟩ := hd
    unfold flt at *
    go_wp2_with fail
    exact ⟨rfl, HF.out⟩
   obtain ⟨hb3, hr3⟩ := hb1.fr hn
   obtain ⟨adu3, cpu3, rfl, -⟩ := own_shape hr3
   clear hn
   have hMB := hb1.m
   have hPB := hb1.st.lt
   have hwB := hb1.t.size
   obtain ⟨W4, eW4⟩ : ∃ W4, W4 = w3.alloc (.cells #[.int .i64 3, .string nm, .slice adu3 a.length cpu3, .slice none 0 0, .int .i64 0, .int .i64 0] 46) := ⟨_, rfl⟩
   obtain ⟨N, eN⟩ : ∃ N, N = w3.heap.size := ⟨_, rfl⟩
   have hbe4 : Below w3.heap.size w3 W4 := by rw [eW4]; exact (Below.refl _ _).alloc (Nat.le_refl _) _
   have hb4 := hb3.below hbe4
   have hn4 := BI.new #[.int .i64 3, .string nm, .slice adu3 a.length cpu3, .slice none 0 0, .int .i64 0, .int .i64 0] 46 rfl hb3.st hb3.t hb3.hl eW4 eN
   have hr4 := NRow.below hr3 hbe4
   have hMN : M ≠ N := by have := hb3.m; omega
   have hNu : ∀ g, (Value.slice adu3 a.length cpu3).ownBlock = some g → g < N := fun g hg => by have := (World.ownsRow.lt hr3 g hg).2; omega
   have HW4 := hide eW4
   have HN4 := hide eN
   clear eW4 eN hbe4 hr3 hb3 hb1
   go_upto_region 5 with fail
   rw [← HW4.out, ← HN4.out]
   go_wp2_with fail
   refine (HEx.out _ _ [61] (by decide) hb4.st).mono (fun e w5 hg => ?_)
   rcases hg.symm with hd | ⟨-, rfl, z2, t2⟩
   ·have HF : Hid (NmA C m w r s' e w5) := .inr (hd.later (HDm.out) hb4.bb)
    obtain ⟨-, rfl, -⟩ := hd
    unfold flt at *
    go_wp2_with fail
    exact ⟨rfl, HF.out⟩
   have hb5 := hb4.go z2 t2
   have hn5 := hn4.go z2 t2
   have hr5 := hb4.keepP hr4 hPB t2
   obtain ⟨b, s2, hp2, rfl, rfl⟩ := HGo.out (al_er hb5.st.al)
   have hbl : b.length ≤ 1000000 := by
    unfold sgE at hsz
    rw [if_pos rfl, szS_cons] at hsz
    simp only at hsz
    omega
   have HE5 := hide (HEd.out w5 _ b s2 hp2 hb5.st hbl)
   clear z2 t2 hp2 hb4 hn4 hr4 HGo
   go_wp2_with fail
   refine (HE5.out).mono (fun e w6 hg => ?_)
   rcases hg.symm with hd | ⟨-, u6, rfl, hn⟩
   ·have HF : Hid (NmA C m w [sgE ⟨3, nm, a, [], 0, 0⟩ b] (taS (tokT C.l) [59] s2) e w6) := .inr (hd.later (Dm.refl _) hb5.bb)
    obtain ⟨-, rfl, -⟩ := hd
    unfold flt at *
    go_wp2_with fail
    exact ⟨rfl, HF.out⟩
   obtain ⟨hb6, hr6⟩ := hb5.fr hn
   obtain ⟨hn6, -⟩ := hn5.fr hn
   have hq6 : NRow W1.heap.size w6 (.slice adu3 a.length cpu3) a := own_notU hr5 (S := fun k => k = C.P) (hn.t.mono fun k hk => by
    rcases hk with hk | hk
    ·exact hk
    ·simp [Value.ownBlock] at hk) (fun g hg e => by have := (World.ownsRow.lt hr5 g hg).1; omega)
   obtain ⟨adf, cpf, rfl, -⟩ := own_shape hr6
   have hN5 := hn5.m
   have hM5 := hb5.m
   obtain ⟨W7, eW7⟩ : ∃ W7, W7 = w6.setCell ⟨N, 3, none⟩ (.slice adf b.length cpf) := ⟨_, rfl⟩
   obtain ⟨hn7, t7⟩ := hn6.put 3 (.slice adf b.length cpf) eW7
   have c3 := (hn6.q (j := 3) rfl).1
   have f3 := (hn6.q (j := 3) rfl).2
   simp only [List.set_cons_zero, List.set_cons_succ] at hn7
   have hb7 : BI C m w M [.int .i64 0, .string ⟨#[]⟩, .slice none 0 0, .slice none 0 0, .int .i64 0, .int .i64 0] W7 (taS (tokT C.l) [59] s2) := ⟨hn7.st, hb6.bx.tcs hb6.m t7 hMN, hn7.t, Nat.lt_of_lt_of_le hb6.m t7.size, hb6.mw, hb6.hl⟩
   have hq7 : NRow W1.heap.size W7 (.slice adu3 a.length cpu3) a := own_notU hq6 t7 (fun g hg e => by have := hNu g hg; omega)
   have hr7 : NRow w5.heap.size W7 (.slice adf b.length cpf) b := own_tcs hr6 t7 (fun k hk => by rw [hk]; exact hN5)
   have HW7 := hide eW7
   have n0 := (hn7.q (j := 0) rfl).1
   have n1 := (hn7.q (j := 1) rfl).1
   have n2 := (hn7.q (j := 2) rfl).1
   have n3 := (hn7.q (j := 3) rfl).1
   have n4 := (hn7.q (j := 4) rfl).1
   have n5 := (hn7.q (j := 5) rfl).1
   have hw5 : w.heap.size ≤ w5.heap.size := hb5.t.size
   have hnw5 : ∀ g, (Value.slice adu3 a.length cpu3).ownBlock = some g → g < w5.heap.size := fun g hg => by have := hNu g hg; omega
   clear eW7 hn hb5 hn5 hr5 hb6 hn6 hq6 hr6 hn7 t7
   go_upto_region 7 with fail
   rw [← HW7.out]
   clear c3 f3
   obtain ⟨X, eX⟩ : ∃ X, X = (((((W7.setCell ⟨M, 0, none⟩ (.int .i64 3)).setCell ⟨M, 1, none⟩ (.string nm)).setCell ⟨M, 2, none⟩ (.slice adu3 a.length cpu3)).setCell ⟨M, 3, none⟩ (.slice adf b.length cpf)).setCell ⟨M, 4, none⟩ (.int .i64 0)).setCell ⟨M, 5, none⟩ (.int .i64 0) := ⟨_, rfl⟩
   obtain ⟨hX, tX⟩ := hb7.put6 eX
   have g0 := (hb7.q (j := 0) rfl).1
   have y0 := (hb7.q (j := 0) rfl).2
   have v0 := (hX.q (j := 0) rfl).1
   have g1 := (hb7.q (j := 1) rfl).1
   have y1 := (hb7.q (j := 1) rfl).2
   have v1 := (hX.q (j := 1) rfl).1
   have g2 := (hb7.q (j := 2) rfl).1
   have y2 := (hb7.q (j := 2) rfl).2
   have v2 := (hX.q (j := 2) rfl).1
   have g3 := (hb7.q (j := 3) rfl).1
   have y3 := (hb7.q (j := 3) rfl).2
   have v3 := (hX.q (j := 3) rfl).1
   have g4 := (hb7.q (j := 4) rfl).1
   have y4 := (hb7.q (j := 4) rfl).2
   have v4 := (hX.q (j := 4) rfl).1
   have g5 := (hb7.q (j := 5) rfl).1
   have y5 := (hb7.q (j := 5) rfl).2
   have v5 := (hX.q (j := 5) rfl).1
   have hMw5 : M < w5.heap.size := hM5
   have HF := hide (hX.two 3 nm (BI.keepM hMB hq7 tX) hwB (BI.keepM hMw5 hr7 tX) hw5 hnw5)
   clear hq7 hr7
   have HX := hide eX
   clear eX hX tX
   go_wp2_with fail
   rw [← HX.out]
   exact bodyPost_ret (v := .agg #[.int .i64 3, .string nm, .slice adu3 a.length cpu3, .slice adf b.length cpf, .int .i64 0, .int .i64 0]) (by simp [results, Tryz.results177, go_sem, v0, v1, v2, v3, v4, v5]) rfl HF.out
  ·refine (HSe.out _ _ [91] (by decide) hb1.st).mono ?_
   rintro e w9 ⟨rfl, hw⟩
   rw [hw, hi]
   clear hw
   go_wp2_with fail
   refine (HSe.out _ _ [40] (by decide) hb1.st).mono ?_
   rintro e w9 ⟨rfl, hw⟩
   rw [hw, hj]
   clear hw
   have hal : a.length ≤ 1000000 := by rw [szS_cons] at hsz; simp only at hsz; omega
   have HR1 := hide (HCa.out W1 a s1 hp hb1.st hal)
   clear hp HC hi hj h61
   go_wp2_with fail
   refine (HR1.out).mono (fun e w3 hg => ?_)
   rcases hg.symm with hd | ⟨-, u3, rfl, hn⟩
   ·have HF : Hid (NmA C m w [⟨8, tx [], a, [], 0, 0⟩] (taS (tokT C.l) [59] s1) e w3) := .inr (hd.later (dm_ta _ _) hb1.bb)
    obtain ⟨-, rfl, -⟩ := hd
    unfold flt at *
    go_wp2_with fail
    exact ⟨rfl, HF.out⟩
   obtain ⟨hb3, hr3⟩ := hb1.fr hn
   obtain ⟨adu3, cpu3, rfl, -⟩ := own_shape hr3
   clear hn
   have hMB := hb1.m
   have hPB := hb1.st.lt
   have hwB := hb1.t.size
   simp only [List.nil_append] at hr3
   obtain ⟨W4, eW4⟩ : ∃ W4, W4 = w3.alloc (.cells #[.int .i64 8, .string ⟨#[]⟩, .slice adu3 a.length cpu3, .slice none 0 0, .int .i64 0, .int .i64 0] 46) := ⟨_, rfl⟩
   obtain ⟨N, eN⟩ : ∃ N, N = w3.heap.size := ⟨_, rfl⟩
   have hbe4 : Below w3.heap.size w3 W4 := by rw [eW4]; exact (Below.refl _ _).alloc (Nat.le_refl _) _
   have hb4 := hb3.below hbe4
   have hn4 := BI.new #[.int .i64 8, .string ⟨#[]⟩, .slice adu3 a.length cpu3, .slice none 0 0, .int .i64 0, .int .i64 0] 46 rfl hb3.st hb3.t hb3.hl eW4 eN
   have hr4 := NRow.below hr3 hbe4
   have hMN : M ≠ N := by have := hb3.m; omega
   have HW4 := hide eW4
   have HN4 := hide eN
   clear eW4 eN hbe4 hr3 hb3 hb1
   go_upto_region 10 with fail
   rw [← HW4.out, ← HN4.out]
   go_wp2_with fail
   refine (HEx.out _ _ [59] (by decide) hb4.st).mono (fun e w5 hg => ?_)
   rcases hg.symm with hd | ⟨-, rfl, z2, t2⟩
   ·have HF : Hid (NmA C m w [⟨8, tx [], a, [], 0, 0⟩] (taS (tokT C.l) [59] s1) e w5) := .inr (hd.later (Dm.refl _) hb4.bb)
    obtain ⟨-, rfl, -⟩ := hd
    unfold flt at *
    go_wp2_with fail
    exact ⟨rfl, HF.out⟩
   have hb5 := hb4.go z2 t2
   have hn5 := hn4.go z2 t2
   have hr5 := hb4.keepP hr4 hPB t2
   have n0 := (hn5.q (j := 0) rfl).1
   have n1 := (hn5.q (j := 1) rfl).1
   have n2 := (hn5.q (j := 2) rfl).1
   have n3 := (hn5.q (j := 3) rfl).1
   have n4 := (hn5.q (j := 4) rfl).1
   have n5 := (hn5.q (j := 5) rfl).1
   clear z2 t2 hb4 hn4 hr4 hn5
   obtain ⟨X, eX⟩ : ∃ X, X = (((((w5.setCell ⟨M, 0, none⟩ (.int .i64 8)).setCell ⟨M, 1, none⟩ (.string ⟨#[]⟩)).setCell ⟨M, 2, none⟩ (.slice adu3 a.length cpu3)).setCell ⟨M, 3, none⟩ (.slice none 0 0)).setCell ⟨M, 4, none⟩ (.int .i64 0)).setCell ⟨M, 5, none⟩ (.int .i64 0) := ⟨_, rfl⟩
   obtain ⟨hX, tX⟩ := hb5.put6 eX
   have g0 := (hb5.q (j := 0) rfl).1
   have y0 := (hb5.q (j := 0) rfl).2
   have v0 := (hX.q (j := 0) rfl).1
   have g1 := (hb5.q (j := 1) rfl).1
   have y1 := (hb5.q (j := 1) rfl).2
   have v1 := (hX.q (j := 1) rfl).1
   have g2 := (hb5.q (j := 2) rfl).1
   have y2 := (hb5.q (j := 2) rfl).2
   have v2 := (hX.q (j := 2) rfl).1
   have g3 := (hb5.q (j := 3) rfl).1
   have y3 := (hb5.q (j := 3) rfl).2
   have v3 := (hX.q (j := 3) rfl).1
   have g4 := (hb5.q (j := 4) rfl).1
   have y4 := (hb5.q (j := 4) rfl).2
   have v4 := (hX.q (j := 4) rfl).1
   have g5 := (hb5.q (j := 5) rfl).1
   have y5 := (hb5.q (j := 5) rfl).2
   have v5 := (hX.q (j := 5) rfl).1
   have HF := hide (hX.one 8 ⟨#[]⟩ (BI.keepM hMB hr5 tX) hwB)
   clear hr5
   have HX := hide eX
   clear eX hX tX
   go_wp2_with fail
   rw [← HX.out]
   exact bodyPost_ret (v := .agg #[.int .i64 8, .string ⟨#[]⟩, .slice adu3 a.length cpu3, .slice none 0 0, .int .i64 0, .int .i64 0]) (by simp [results, Tryz.results177, go_sem, v0, v1, v2, v3, v4, v5]) rfl HF.out
  ·refine (HSe.out _ _ [91] (by decide) hb1.st).mono ?_
   rintro e w9 ⟨rfl, hw⟩
   rw [hw, hi]
   clear hw
   go_wp2_with fail
   refine (HSe.out _ _ [40] (by decide) hb1.st).mono ?_
   rintro e w9 ⟨rfl, hw⟩
   rw [hw, hj]
   clear hw
   obtain ⟨d1, d2⟩ := ta_no hal1 h61
   obtain ⟨d3, d4⟩ := (sg_go hp).1 d1
   have HF : Hid (NmA C m w r s' (flt (3, ((tokT C.l z.i).pl : Int))) W1) := .inr ⟨d3, by rw [d4, d2], hb1.bb⟩
   have HFl := hide (HFa.out _ _ hb1.st)
   clear hp HC hi hj h61 d1 d2 d3 d4
   generalize ((tokT C.l z.i).pl : Int) = pl at *
   go_wp2_with fail
   refine HFl.out.mono ?_
   rintro e w9 ⟨rfl, hw⟩
   rw [hw]
   clear hw
   unfold flt at *
   go_wp2_with fail
   exact ⟨rfl, HF.out⟩
 ·have hp : Pa (tokT C.l) n (.sg (st0 2 nm)) z (.s r) s' := by
   rcases hcs with ⟨hi, -⟩ | ⟨-, hj, -⟩ | ⟨-, -, hp⟩
   ·have := is_two h61 (y := [91]) (by decide); rw [hi] at this; cases this
   ·have := is_two h61 (y := [40]) (by decide); rw [hj] at this; cases this
   ·exact hp
  obtain ⟨hdm, hgo⟩ := sg_go hp
  rw [ta_yes h61] at hdm hgo
  have HDm := hide hdm
  have HGo := hide hgo
  clear hp hdm hgo HC hcs h61
  rcases hg.symm with hd | ⟨-, rfl, z2, t2⟩
  ·have HF : Hid (NmA C m w r s' e w2) := .inr (hd.later (HDm.out) hb1.bb)
   obtain ⟨-, rfl, -⟩ := hd
   unfold flt at *
   go_wp2_with fail
   exact ⟨rfl, HF.out⟩
  have hb2 := hb1.go z2 t2
  clear z2 t2 hb1
  obtain ⟨b, s2, hp2, rfl, rfl⟩ := HGo.out (al_er hb2.st.al)
  have hbl : b.length ≤ 1000000 := by
   unfold sgE at hsz
   rw [if_neg (by show ¬ (2 : Int) = 3; decide), szS_cons] at hsz
   simp only at hsz
   omega
  have HE5 := hide (HEd.out w2 _ b s2 hp2 hb2.st hbl)
  have hMB := hb2.m
  have hwB := hb2.t.size
  clear hp2 HGo
  go_wp2_with fail
  refine (HE5.out).mono (fun e w6 hg => ?_)
  rcases hg.symm with hd | ⟨-, u6, rfl, hn⟩
  ·have HF : Hid (NmA C m w [sgE (st0 2 nm) b] (taS (tokT C.l) [59] s2) e w6) := .inr (hd.later (Dm.refl _) hb2.bb)
   obtain ⟨-, rfl, -⟩ := hd
   unfold flt at *
   go_wp2_with fail
   exact ⟨rfl, HF.out⟩
  obtain ⟨hb6, hr6⟩ := hb2.fr hn
  obtain ⟨adu6, cpu6, rfl, -⟩ := own_shape hr6
  clear hn
  clear hb2
  obtain ⟨X, eX⟩ : ∃ X, X = (((((w6.setCell ⟨M, 0, none⟩ (.int .i64 2)).setCell ⟨M, 1, none⟩ (.string nm)).setCell ⟨M, 2, none⟩ (.slice adu6 b.length cpu6)).setCell ⟨M, 3, none⟩ (.slice none 0 0)).setCell ⟨M, 4, none⟩ (.int .i64 0)).setCell ⟨M, 5, none⟩ (.int .i64 0) := ⟨_, rfl⟩
  obtain ⟨hX, tX⟩ := hb6.put6 eX
  have g0 := (hb6.q (j := 0) rfl).1
  have y0 := (hb6.q (j := 0) rfl).2
  have v0 := (hX.q (j := 0) rfl).1
  have g1 := (hb6.q (j := 1) rfl).1
  have y1 := (hb6.q (j := 1) rfl).2
  have v1 := (hX.q (j := 1) rfl).1
  have g2 := (hb6.q (j := 2) rfl).1
  have y2 := (hb6.q (j := 2) rfl).2
  have v2 := (hX.q (j := 2) rfl).1
  have g3 := (hb6.q (j := 3) rfl).1
  have y3 := (hb6.q (j := 3) rfl).2
  have v3 := (hX.q (j := 3) rfl).1
  have g4 := (hb6.q (j := 4) rfl).1
  have y4 := (hb6.q (j := 4) rfl).2
  have v4 := (hX.q (j := 4) rfl).1
  have g5 := (hb6.q (j := 5) rfl).1
  have y5 := (hb6.q (j := 5) rfl).2
  have v5 := (hX.q (j := 5) rfl).1
  have HF := hide (hX.one 2 nm (BI.keepM hMB hr6 tX) hwB)
  clear hr6
  have HX := hide eX
  clear eX hX tX
  go_wp2_with fail
  rw [← HX.out]
  exact bodyPost_ret (v := .agg #[.int .i64 2, .string nm, .slice adu6 b.length cpu6, .slice none 0 0, .int .i64 0, .int .i64 0]) (by simp [results, Tryz.results177, go_sem, v0, v1, v2, v3, v4, v5]) rfl HF.out
end
section
open Go.RowKit
structure TrJ (B : Nat) (w : World) (m : TV) (t : Tr) (t' : Tr) (Q : List FV) : Prop where
 own : TreeOwn B w m.vg m.vf t' Q
 fu : t'.funcs = t.funcs
 len : t'.globals.length = t.globals.length
 eq : m.nz = false → t'.globals = t.globals
 bad : m.nz = true → ∃ g ∈ t.globals, g.size = -1
def TrI (B : Nat) (w : World) (m : TV) (t : Tr) : Prop := ∃ t' Q, TrJ B w m t t' Q
theorem tri_nil (B : Nat) (w : World) : TrI B w ⟨.slice none 0 0, .slice none 0 0, false⟩ ⟨[], []⟩ := ⟨_, _, TreeOwn.nil B w, rfl, rfl, fun _ => rfl, fun h => by cases h⟩
theorem TreeOwn.tcs {B : Nat} {S : Nat → Prop} {w w' : World} {vg vf : Value} {t : Tr} {Q : List FV} (h : TreeOwn B w vg vf t Q) (ht : Tcs S w w') (hS : ∀ k, S k → k < B) : TreeOwn B w' vg vf t Q := by
 have hk : ∀ g, B ≤ g → g < w.heap.size → w'.heap[g]? = w.heap[g]? := fun g h1 h2 => ht.block g h2 (fun s => by have := hS g s; omega)
 exact ⟨own_tcs h.gs ht hS, h.fs.keepB ht.size hk, h.map, h.sep⟩
theorem TrI.tcs {B : Nat} {S : Nat → Prop} {w w' : World} {m : TV} {t : Tr} (h : TrI B w m t) (ht : Tcs S w w') (hS : ∀ k, S k → k < B) : TrI B w' m t := by
 obtain ⟨t', Q, h1⟩ := h
 exact ⟨t', Q, h1.own.tcs ht hS, h1.fu, h1.len, h1.eq, h1.bad⟩
def PgI (C : RC) (B : Nat) (w : World) (t' : Tr) (s' : PS) (e : Ending) (w' : World) : Prop :=
 (¬ dmS (tokT C.l) s' ∧ ∃ m', e = .returned (.tuple #[]) ∧ RSt C m' w' s' ∧ TrI B w' m' t' ∧ Tcs (fun k => k = C.P ∨ B ≤ k) w w') ∨ DieI C w s' e w'
theorem TreeOwn.addF {B M : Nat} {w w2 W : World} {vg vf vp vb : Value} {b : Nat} {t : Tr} {Q : List FV} {R : List SV} {S : Nat → Prop} (h : TreeOwn B w vg vf t Q) (nm : ByteArray) (ps : List ByteArray) {B2 : Nat} (ht : Tcs S w w2) (hS : ∀ k, S k → k < B) (hB : B ≤ w.heap.size) (hM : w.heap.size ≤ M) (hB2 : M ≤ B2)
  (hp : PRow M w2 vp ps) (hpl : ∀ g, vp.ownBlock = some g → g < B2) (hb : StRow B2 w2 vb R) (hW : W = w2.alloc (.cells #[.string nm, vp, vb] 43)) (hbe : b = w2.heap.size) (hl : t.funcs.length ≤ 100000) :
  ∃ v' W', (Builtin.append_ #[24, 24] 24 #[vf, .slice (some ⟨b, 0, none⟩) 1 1]).run Tryz.prog W = .ok v' W' ∧ Tcs (fun k => vf.ownBlock = some k) w2 W' ∧ (∃ a n c, v' = .slice a n c) ∧
   ∃ Q', TreeOwn B W' vg v' ⟨t.globals, t.funcs ++ [⟨nm, ps, R.map SV.s⟩]⟩ Q' := by
 have hb1 : Below w2.heap.size w2 W := by rw [hW]; exact (Below.refl _ _).alloc (Nat.le_refl _) _
 have hs2 := ht.size
 have hQl : Q.length = t.funcs.length := by rw [← h.map, List.length_map]
 have h2 := h.tcs (ht.of_below hb1) hS
 obtain ⟨kp, a1, a2⟩ := ROne.of_own (own_low (ownB hp hb1) (Nat.le_trans hB hM))
 obtain ⟨kb, b1, b2⟩ := (hb.below hb1).m
 have hB3 : B ≤ B2 := by omega
 have hq : FOk B W ⟨⟨nm, ps, R.map SV.s⟩, vp, vb, R, kp, kb⟩ := by
  refine ⟨a1, ⟨NOne.up b1.row hB3, fun x hx => ⟨(b1.each x hx).1.base hB3, (b1.each x hx).2.base hB3⟩, b1.nd⟩, rfl, ?_⟩
  show (kp ++ (kb ++ blkS R)).Nodup
  rw [List.nodup_append]
  refine ⟨?_, b1.nd, fun x hx y hy e => ?_⟩
  ·rcases a1 with ⟨-, e, -⟩ | ⟨g, cap, -, e, -⟩ <;> (have e : kp = _ := e; rw [e]; simp)
  ·subst e
   have h1 := hpl x ((a2 x).2 hx)
   have h3 := (b1.rng x hy).1
   omega
 have hge : ∀ g ∈ kp ++ (kb ++ blkS R), w.heap.size ≤ g := fun g hg => by
  rcases List.mem_append.1 hg with hg | hg
  ·have := (World.ownsRow.lt hp g ((a2 g).2 hg)).1; omega
  ·have := (b1.rng g hg).1; omega
 have hvf : ∀ k, vf.ownBlock = some k → B ≤ k ∧ k < w.heap.size := fun k hk => World.ownsRow.lt h.fs.row k hk
 have hx : FrC W b [.string nm, vp, vb] := by rw [hW, hbe]; exact box_fr w2 #[.string nm, vp, vb] _ (by show 3 ≤ 1000; omega)
 obtain ⟨pa, pc, hpe, -⟩ := own_shape hp
 obtain ⟨ba, bc, hbe2, -⟩ := own_shape hb.row
 obtain ⟨v', W', r1, r2, r3, r4⟩ := fn_app (c := 1) (ad := ⟨b, 0, none⟩) 24 h2.fs hq (fun j x hj => by
  rw [addrA, Nat.zero_add]
  exact (hx j x hj).1) (fun g hg => ⟨fun hm => by have := hge g hg; have := (h.fs.rng g hm).2; omega, fun e => by have := hge g hg; have := (hvf g e).2; omega⟩) (by rw [hpe, hbe2]; exact ⟨rfl, rfl⟩) (by have := hb1.size; omega) (by omega)
 have tW : Tcs (fun k => vf.ownBlock = some k) W W' := Tcs.of_grown r3 (fun k h => h)
 refine ⟨v', W', r1, (hb1.tcs).trans tW, ?_, Q ++ [⟨⟨nm, ps, R.map SV.s⟩, vp, vb, R, kp, kb⟩], own_notU h2.gs tW (fun k hk e => (h.sep k hk).2 e), r2, by rw [List.map_append, h.map]; rfl, fun g hg => ⟨fun hm => ?_, fun e => ?_⟩⟩
 ·obtain ⟨a, c, e⟩ := r2.shape
  exact ⟨_, _, _, e⟩
 ·rw [blkF_append] at hm
  have hgl := (World.ownsRow.lt h.gs g hg).2
  rcases List.mem_append.1 hm with hm | hm
  ·exact (h.sep g hg).1 hm
  ·have hm : g ∈ kp ++ (kb ++ blkS R) := by simpa [blkF, blk1] using hm
   have := hge g hm; omega
 ·have hgl := (World.ownsRow.lt h.gs g hg).2
  rcases r4 g e with e | e
  ·exact (h.sep g hg).2 e
  ·have := hb1.size; omega
theorem TreeOwn.addG {B : Nat} {w w2 W : World} {vg vf : Value} {b : Nat} {t : Tr} {Q : List FV} {S : Nat → Prop} (h : TreeOwn B w vg vf t Q) (g0 : Gl) (ht : Tcs S w w2) (hS : ∀ k, S k → k < B) (hB : B ≤ w.heap.size)
  (hW : W = w2.alloc (.cells #[.string g0.name, .int .i64 g0.size] 74)) (hbe : b = w2.heap.size) (hl : t.globals.length ≤ 100000) :
  ∃ v' W', (Builtin.append_ #[23, 23] 23 #[vg, .slice (some ⟨b, 0, none⟩) 1 1]).run Tryz.prog W = .ok v' W' ∧ Tcs (fun k => vg.ownBlock = some k) w2 W' ∧ (∃ a n c, v' = .slice a n c) ∧
   TreeOwn B W' v' vf ⟨t.globals ++ [g0], t.funcs⟩ Q := by
 have hb1 : Below w2.heap.size w2 W := by rw [hW]; exact (Below.refl _ _).alloc (Nat.le_refl _) _
 have hs2 := ht.size
 have h2 := h.tcs (ht.of_below hb1) hS
 have hvg : ∀ k, vg.ownBlock = some k → B ≤ k ∧ k < w.heap.size := fun k hk => World.ownsRow.lt h.gs k hk
 have hx : FrC W b [.string g0.name, .int .i64 g0.size] := by rw [hW, hbe]; exact box_fr w2 #[.string g0.name, .int .i64 g0.size] _ (by show 2 ≤ 1000; omega)
 obtain ⟨i0, hi, hz0, hz1, hz2⟩ := info_parts info_glob
 obtain ⟨v', W', r1, r2, r3, r4⟩ := run_appG (P := Tryz.prog) (w := W) B 23 23 74 i0 _ 2 24 Tryz.underlying23 hi hz0 hz1 hz2 rfl (by decide) vg t.globals.length (flatG t.globals) h2.gs (some ⟨b, 0, none⟩) 1 1 [.string g0.name, .int .i64 g0.size] (fun e => by cases e) rfl (fun ad had j u hu => by cases had; rw [addrA, Nat.zero_add]; exact (hx j u hu).1) (fun u hu => by
  simp only [List.mem_cons, List.not_mem_nil, or_false] at hu
  rcases hu with rfl | rfl <;> rfl) (by omega) (by decide) (by have := hb1.size; omega)
 have tW : Tcs (fun k => vg.ownBlock = some k) W W' := Tcs.of_grown r3 (fun k h => h)
 have hown : ∀ k, v'.ownBlock = some k → vg.ownBlock = some k ∨ W.heap.size ≤ k := r4
 have hsw := hb1.size
 refine ⟨v', W', r1, (hb1.tcs).trans tW, ?_, ?_, ⟨own_notU h2.fs.row tW (fun k hk e => (h.sep k e).2 hk), fun q hq => (h2.fs.each q hq).keep tW.size (fun g hg => tW.block g ((h2.fs.each q hq).rng g hg).2 (fun e => (h.sep g e).1 (blkF_in hq g hg))), h.fs.nd, h.fs.out⟩, h.map, fun g hg => ?_⟩
 ·obtain ⟨a, c, e, -⟩ := own_shape r2
  exact ⟨_, _, _, e⟩
 ·have e1 : flatG (t.globals ++ [g0]) = flatG t.globals ++ [.string g0.name, .int .i64 g0.size] := by rw [flatG_append]; rfl
  rw [List.length_append, e1]
  exact r2
 ·rcases hown g hg with e | e
  ·exact h.sep g e
  ·refine ⟨fun hm => ?_, fun e2 => ?_⟩
   ·have := (h.fs.rng g hm).2; omega
   ·have := (World.ownsRow.lt h.fs.row g e2).2; omega
end
section
open Go.RowKit
section
variable {C : RC} {m : TV} {B : Nat} {w0 w w' : World} {v0 v : Value} {R : List SV} {s z : PS}
theorem SB.fr {u : Value} {r : List Nd} (h : SB C m B w0 v0 w v R s) (hE : EB C m w.heap.size w (.slice none 0 0) w' u r z) : SB C m B w0 v0 w' v R z ∧ NRow w.heap.size w' u r :=
 ⟨h.go hE.st (hE.t.mono fun k hk => by
   rcases hk with hk | hk
   ·exact hk
   ·simp [Value.ownBlock] at hk), hE.row⟩
def OldR (Bs : Nat) (v : Value) (R : List SV) : Prop := (∀ g ∈ blkS R, g < Bs) ∧ ∀ g, v.ownBlock = some g → g < Bs
theorem SB.old (h : SB C m B w0 v0 w v R s) : OldR w.heap.size v R := ⟨fun g hg => (h.row.rng g hg).2, fun g hg => (World.ownsRow.lt h.row.row g hg).2⟩
theorem SB.lit {w1 W : World} {b : Nat} {u : Value} {a : List Nd} (h : SB C m B w0 v0 w v R s) (kd : Int) (nm : ByteArray) (hr : NRow w1.heap.size w u a) (ho : OldR w1.heap.size v R) (hB : B ≤ w1.heap.size) (hW : W = w.alloc (.cells #[.int .i64 kd, .string nm, u, .slice none 0 0, .int .i64 0, .int .i64 0] 46)) (hb : b = w.heap.size) (hl : R.length ≤ 2000000) :
  ∃ K u' w', (Builtin.append_ #[41, 41] 41 #[v, .slice (some ⟨b, 0, none⟩) 1 1]).run Tryz.prog W = .ok u' w' ∧ SB C m B w0 v0 w' u' (R ++ [⟨⟨kd, nm, a, [], 0, 0⟩, u, .slice none 0 0, K, []⟩]) s := by
 obtain ⟨K, h1, h2, h3⟩ := nrow_one hr
 obtain ⟨u', w', r1, r2⟩ := h.app (w1 := w1) ⟨⟨kd, nm, a, [], 0, 0⟩, u, .slice none 0 0, K, []⟩ h1 (NOne.nil _ _) (by rw [List.append_nil]; exact h3) ho.1 ho.2 hB hW hb hl
 exact ⟨K, u', w', r1, r2⟩
end
def SmI (C : RC) (n : Nat) : Prop := ∀ (w : World) (m : TV) (B : Nat) (s : PS) (v : Value) (R : List SV) (a : List St) (s' : PS), Pa (tokT C.l) n .st s (.s a) s' → RSt C m w s → StRow B w v R → C.P + 1 < B → B ≤ w.heap.size → R.length + szS a ≤ 1000000 →
 Calls Tryz.prog 158 #[.pointer (some ⟨C.P, 0, none⟩), v] w (StI C m w B v R a s')
def BkI (C : RC) (n : Nat) : Prop := ∀ (w : World) (m : TV) (B : Nat) (s : PS) (v : Value) (R : List SV) (a : List St) (s' : PS), Pa (tokT C.l) n .bl s (.s a) s' → RSt C m w s → StRow B w v R → C.P + 1 < B → B ≤ w.heap.size → R.length + szS a ≤ 1000000 →
 Calls Tryz.prog 131 #[.pointer (some ⟨C.P, 0, none⟩), v] w (StI C m w B v R a s')
end
section
open Go.RowKit
set_option maxRecDepth 100000 in
set_option maxHeartbeats 4000000 in
theorem im_out {C : RC} (HN : NxI C) {n : Nat} (hWt : WtI C n) {w : World} {m : TV} {B : Nat} {s : PS} {v : Value} {R : List SV} {a : List Nd} {s1 : PS} (hS : RSt C m w s) (hr : StRow B w v R) (hPB : C.P + 1 < B) (hBw : B ≤ w.heap.size) (hl : R.length + a.length + 1 ≤ 1000000) (hi : isS (tokT C.l) [111, 117, 116] s = true) (hp : Pa (tokT C.l) n (.pr [40] [41]) s.ad (.n a) s1) : Calls Tryz.prog 158 #[.pointer (some ⟨C.P, 0, none⟩), v] w (StI C m w B v R [⟨7, tx [], a, [], 0, 0⟩] (taS (tokT C.l) [59] s1)) := by
 have hS0 := SB.start hS hr hPB hBw
 have HSk : Hid (∀ x, fixB x = true → Calls Tryz.prog 126 #[.pointer (some ⟨C.P, 0, none⟩), .string (tx x)] w fun e w' => (isS (tokT C.l) x s = false ∧ e = .returned (.bool false) ∧ w' = w) ∨ (isS (tokT C.l) x s = true ∧ Go1 C m w s.ad (.bool true) e w')) := fun x hx => skip_any HN hS x hx
 have HEx : Hid (∀ W y x, fixB x = true → RSt C m W y → Calls Tryz.prog 92 #[.pointer (some ⟨C.P, 0, none⟩), .string (tx x)] W (Go1 C m W (taS (tokT C.l) x y) (.tuple #[]))) := fun W y x hx h => expect_any HN h x hx
 have p2 := hS.cki
 have e1 : (kiI (tokT C.l s.i) == 1) = false := by rw [ki_fix hS (by decide) hi]; rfl
 have h1 : isS (tokT C.l) [105, 110, 116] s = false := is_two hi (by decide)
 have h2 : isS (tokT C.l) [105, 102] s = false := is_two hi (by decide)
 have h3 : isS (tokT C.l) [119, 104, 105, 108, 101] s = false := is_two hi (by decide)
 have h4 : isS (tokT C.l) [114, 101, 116, 117, 114, 110] s = false := is_two hi (by decide)
 have HWt : Hid (∀ W, RSt C m W s.ad → Calls Tryz.prog 180 #[.pointer (some ⟨C.P, 0, none⟩), .string (tx [40]), .string (tx [41])] W (NdI C m W W.heap.size (.slice none 0 0) a s1)) := fun W h => hWt W m s.ad [40] [41] a s1 (by decide) (by decide) hp h (by omega)
 have HDm : Hid (Dm (tokT C.l) s.ad (taS (tokT C.l) [59] s1)) := hp.dm.trans (dm_ta _ _)
 clear hWt hp HN hS hr hPB hBw
 generalize kiI (tokT C.l s.i) = ki at *
 go_enter Tryz.func158, Tryz.ntmps158
 go_wp2_with fail
 refine (HSk.out [105, 110, 116] (by decide)).mono (fun e w9 hg => ?_)
 rcases hg.symm with ⟨hbad, -⟩ | ⟨-, rfl, hw⟩
 ·rw [h1] at hbad; cases hbad
 rw [hw]
 clear hw
 go_wp2_with fail
 refine (HSk.out [105, 102] (by decide)).mono (fun e w9 hg => ?_)
 rcases hg.symm with ⟨hbad, -⟩ | ⟨-, rfl, hw⟩
 ·rw [h2] at hbad; cases hbad
 rw [hw]
 clear hw
 go_wp2_with fail
 refine (HSk.out [119, 104, 105, 108, 101] (by decide)).mono (fun e w9 hg => ?_)
 rcases hg.symm with ⟨hbad, -⟩ | ⟨-, rfl, hw⟩
 ·rw [h3] at hbad; cases hbad
 rw [hw]
 clear hw
 go_wp2_with fail
 refine (HSk.out [114, 101, 116, 117, 114, 110] (by decide)).mono (fun e w9 hg => ?_)
 rcases hg.symm with ⟨hbad, -⟩ | ⟨-, rfl, hw⟩
 ·rw [h4] at hbad; cases hbad
 rw [hw]
 clear hw
 go_wp2_with fail
 refine (HSk.out [111, 117, 116] (by decide)).mono (fun e w2 hg => ?_)
 rcases hg with ⟨hbad, -⟩ | ⟨-, hg⟩
 ·rw [hi] at hbad; cases hbad
 rcases hg.symm with hd | ⟨-, rfl, z2, t2⟩
 ·have HF : Hid (StI C m w B v R [⟨7, tx [], a, [], 0, 0⟩] (taS (tokT C.l) [59] s1) e w2) := hS0.die hd (HDm.out)
  obtain ⟨-, rfl, -⟩ := hd
  unfold flt at *
  go_wp2_with fail
  exact ⟨rfl, HF.out⟩
 have hS2 := hS0.go z2 t2
 clear z2 t2 hS0 HSk
 go_wp2_with fail
 have HC := hide (HWt.out w2 hS2.st)
 have ho := hS2.old
 have hBs := hS2.le
 have hP2 := hS2.st.lt
 refine (HC.out).mono (fun e w3 hg => ?_)
 rcases hg.symm with hd | ⟨-, u3, rfl, hn⟩
 ·have HF : Hid (StI C m w B v R [⟨7, tx [], a, [], 0, 0⟩] (taS (tokT C.l) [59] s1) e w3) := hS2.die hd (dm_ta _ _)
  obtain ⟨-, rfl, -⟩ := hd
  unfold flt at *
  go_wp2_with fail
  exact ⟨rfl, HF.out⟩
 obtain ⟨hS3, hr3⟩ := hS2.fr hn
 obtain ⟨adu3, cpu3, rfl, -⟩ := own_shape hr3
 clear hn
 obtain ⟨W4, eW4⟩ : ∃ W4, W4 = w3.alloc (.cells #[.int .i64 7, .string ⟨#[]⟩, .slice adu3 a.length cpu3, .slice none 0 0, .int .i64 0, .int .i64 0] 46) := ⟨_, rfl⟩
 obtain ⟨N, eN⟩ : ∃ N, N = w3.heap.size := ⟨_, rfl⟩
 have hbe4 : Below w3.heap.size w3 W4 := by rw [eW4]; exact (Below.refl _ _).alloc (Nat.le_refl _) _
 have hS4 := hS3.below hbe4
 have hr4 := NRow.below hr3 hbe4
 have hx4 : FrC W4 N [.int .i64 7, .string ⟨#[]⟩, .slice adu3 a.length cpu3, .slice none 0 0, .int .i64 0, .int .i64 0] := by rw [eW4, eN]; exact box_fr w3 #[.int .i64 7, .string ⟨#[]⟩, .slice adu3 a.length cpu3, .slice none 0 0, .int .i64 0, .int .i64 0] _ (by show 6 ≤ 1000; omega)
 have hN4 : N < W4.heap.size := World.block_lt_of_cell? _ _ (hx4 0 _ rfl).1
 have hNP : N ≠ C.P := by have := hS3.st.lt; omega
 have HW4 := hide eW4
 have HN4 := hide eN
 clear eW4 eN hbe4 hr3 hS3 hS2
 go_upto_region 18 with fail
 rw [← HW4.out, ← HN4.out]
 go_wp2_with fail
 refine (HEx.out _ _ [59] (by decide) hS4.st).mono (fun e w5 hg => ?_)
 rcases hg.symm with hd | ⟨-, rfl, z2, t2⟩
 ·have HF : Hid (StI C m w B v R [⟨7, tx [], a, [], 0, 0⟩] (taS (tokT C.l) [59] s1) e w5) := hS4.die hd (Dm.refl _)
  obtain ⟨-, rfl, -⟩ := hd
  unfold flt at *
  go_wp2_with fail
  exact ⟨rfl, HF.out⟩
 have hS5 := hS4.go z2 t2
 have hr5 : NRow w2.heap.size w5 (.slice adu3 a.length cpu3) a := own_tcs hr4 t2 (fun k hk => by rw [hk]; omega)
 have hx5 := hx4.tcs hN4 t2 hNP
 have n0 := (hx5 0 _ rfl).1
 have n1 := (hx5 1 _ rfl).1
 have n2 := (hx5 2 _ rfl).1
 have n3 := (hx5 3 _ rfl).1
 have n4 := (hx5 4 _ rfl).1
 have n5 := (hx5 5 _ rfl).1
 clear z2 t2 hS4 hr4 hx4 hx5
 obtain ⟨W6, eW6⟩ : ∃ W6, W6 = w5.alloc (.cells #[.int .i64 7, .string (⟨#[]⟩), .slice adu3 a.length cpu3, .slice none 0 0, .int .i64 0, .int .i64 0] 46) := ⟨_, rfl⟩
 obtain ⟨B6, eB6⟩ : ∃ B6, B6 = w5.heap.size := ⟨_, rfl⟩
 obtain ⟨K6, u6, w6, r6, f6⟩ := hS5.lit (w1 := w2) 7 (⟨#[]⟩) hr5 ho hBs eW6 eB6 (by omega)
 have HW6 := hide eW6
 have HB6 := hide eB6
 have HR6 := hide r6
 clear eW6 eB6 r6
 have HF := hide (f6.fin (a := [⟨7, tx [], a, [], 0, 0⟩]) rfl)
 clear f6 hS5 hr5
 go_wp2_with (at_builtin; rw [← HW6.out, ← HB6.out]; refine wpList_appG rfl _ _ _ rfl _ _ u6 w6 rfl rfl HR6.out ?_)
 go_ret
 exact HF.out
end
section
open Go.RowKit
set_option maxRecDepth 100000 in
set_option maxHeartbeats 4000000 in
theorem im_int {C : RC} (HN : NxI C) {n : Nat} (hEd : EdI C n) {w : World} {m : TV} {B : Nat} {s : PS} {v : Value} {R : List SV} {r : List St} {s' : PS} (hS : RSt C m w s) (hr : StRow B w v R) (hPB : C.P + 1 < B) (hBw : B ≤ w.heap.size) (hl : R.length + szS r ≤ 1000000) (hi : isS (tokT C.l) [105, 110, 116] s = true) (hp : Pa (tokT C.l) n (.sg (st0 1 (naS (tokT C.l) s.ad).1)) (naS (tokT C.l) s.ad).2 (.s r) s') : Calls Tryz.prog 158 #[.pointer (some ⟨C.P, 0, none⟩), v] w (StI C m w B v R r s') := by
 have hS0 := SB.start hS hr hPB hBw
 have HSk : Hid (∀ x, fixB x = true → Calls Tryz.prog 126 #[.pointer (some ⟨C.P, 0, none⟩), .string (tx x)] w fun e w' => (isS (tokT C.l) x s = false ∧ e = .returned (.bool false) ∧ w' = w) ∨ (isS (tokT C.l) x s = true ∧ Go1 C m w s.ad (.bool true) e w')) := fun x hx => skip_any HN hS x hx
 have HEx : Hid (∀ W y x, fixB x = true → RSt C m W y → Calls Tryz.prog 92 #[.pointer (some ⟨C.P, 0, none⟩), .string (tx x)] W (Go1 C m W (taS (tokT C.l) x y) (.tuple #[]))) := fun W y x hx h => expect_any HN h x hx
 have p2 := hS.cki
 have e1 : (kiI (tokT C.l s.i) == 1) = false := by rw [ki_fix hS (by decide) hi]; rfl
 have HNa : Hid (∀ W y, RSt C m W y → Calls Tryz.prog 93 #[.pointer (some ⟨C.P, 0, none⟩)] W (Go1 C m W (naS (tokT C.l) y).2 (.string (naS (tokT C.l) y).1))) := fun W y h => nameI_any HN h
 obtain ⟨hdm, hgo⟩ := sg_go hp
 have HDa : Hid (Dm (tokT C.l) s.ad s') := (dm_na _).trans ((dm_ta _ _).trans hdm)
 have HDb : Hid (Dm (tokT C.l) (naS (tokT C.l) s.ad).2 s') := (dm_ta _ _).trans hdm
 have HDm := hide hdm
 have HGo := hide hgo
 have HEd : Hid (∀ W y b s2, Pa (tokT C.l) n (.e 1) y (.n b) s2 → RSt C m W y → b.length ≤ 1000000 → Calls Tryz.prog 178 #[.pointer (some ⟨C.P, 0, none⟩)] W (NdI C m W W.heap.size (.slice none 0 0) b (taS (tokT C.l) [59] s2))) := fun W y b s2 hp h hl => hEd W m y b s2 hp h hl
 clear hEd hp HN hS hr hPB hBw hdm hgo
 generalize kiI (tokT C.l s.i) = ki at *
 go_enter Tryz.func158, Tryz.ntmps158
 go_wp2_with fail
 refine (HSk.out [105, 110, 116] (by decide)).mono (fun e w2 hg => ?_)
 rcases hg with ⟨hbad, -⟩ | ⟨-, hg⟩
 ·rw [hi] at hbad; cases hbad
 rcases hg.symm with hd | ⟨-, rfl, z2, t2⟩
 ·have HF : Hid (StI C m w B v R r s' e w2) := hS0.die hd (HDa.out)
  obtain ⟨-, rfl, -⟩ := hd
  unfold flt at *
  go_wp2_with fail
  exact ⟨rfl, HF.out⟩
 have hS2 := hS0.go z2 t2
 clear z2 t2 hS0 HSk
 go_wp2_with fail
 have HC := hide (HNa.out w2 s.ad hS2.st)
 generalize naS (tokT C.l) s.ad = nz at *
 obtain ⟨nm, z⟩ := nz
 dsimp only at *
 refine (HC.out).mono (fun e w3 hg => ?_)
 rcases hg.symm with hd | ⟨-, rfl, z2, t2⟩
 ·have HF : Hid (StI C m w B v R r s' e w3) := hS2.die hd (HDb.out)
  obtain ⟨-, rfl, -⟩ := hd
  unfold flt at *
  go_wp2_with fail
  exact ⟨rfl, HF.out⟩
 have hS3 := hS2.go z2 t2
 clear z2 t2
 go_wp2_with fail
 refine (HEx.out _ _ [61] (by decide) hS3.st).mono (fun e w4 hg => ?_)
 rcases hg.symm with hd | ⟨-, rfl, z2, t2⟩
 ·have HF : Hid (StI C m w B v R r s' e w4) := hS3.die hd (HDm.out)
  obtain ⟨-, rfl, -⟩ := hd
  unfold flt at *
  go_wp2_with fail
  exact ⟨rfl, HF.out⟩
 have hS4 := hS3.go z2 t2
 clear z2 t2
 go_wp2_with fail
 obtain ⟨b, s2, hp2, rfl, rfl⟩ := HGo.out (al_er hS4.st.al)
 have hll : R.length + b.length + 1 ≤ 1000000 := by
  unfold sgE at hl
  rw [if_neg (by show ¬ (1 : Int) = 3; decide), szS_cons] at hl
  simp only at hl
  omega
 have HE5 := hide (HEd.out w4 _ b s2 hp2 hS4.st (by omega))
 have ho := hS4.old
 have hBs := hS4.le
 clear hp2 HGo HEd
 refine (HE5.out).mono (fun e w5 hg => ?_)
 rcases hg.symm with hd | ⟨-, u5, rfl, hn⟩
 ·have HF : Hid (StI C m w B v R [sgE (st0 1 nm) b] (taS (tokT C.l) [59] s2) e w5) := hS4.die hd (Dm.refl _)
  obtain ⟨-, rfl, -⟩ := hd
  unfold flt at *
  go_wp2_with fail
  exact ⟨rfl, HF.out⟩
 obtain ⟨hS5, hr5⟩ := hS4.fr hn
 obtain ⟨adu5, cpu5, rfl, -⟩ := own_shape hr5
 clear hn
 obtain ⟨W6, eW6⟩ : ∃ W6, W6 = w5.alloc (.cells #[.int .i64 1, .string (nm), .slice adu5 b.length cpu5, .slice none 0 0, .int .i64 0, .int .i64 0] 46) := ⟨_, rfl⟩
 obtain ⟨B6, eB6⟩ : ∃ B6, B6 = w5.heap.size := ⟨_, rfl⟩
 obtain ⟨K6, u6, w6, r6, f6⟩ := hS5.lit (w1 := w4) 1 (nm) hr5 ho hBs eW6 eB6 (by omega)
 have HW6 := hide eW6
 have HB6 := hide eB6
 have HR6 := hide r6
 clear eW6 eB6 r6
 have HF := hide (f6.fin (a := [sgE (st0 1 nm) b]) rfl)
 clear f6 hS5 hS4 hr5
 go_wp2_with (at_builtin; rw [← HW6.out, ← HB6.out]; refine wpList_appG rfl _ _ _ rfl _ _ u6 w6 rfl rfl HR6.out ?_)
 go_ret
 exact HF.out
end
end Go.Proofs.YtlamjfhhefcohaaGreatDoor
