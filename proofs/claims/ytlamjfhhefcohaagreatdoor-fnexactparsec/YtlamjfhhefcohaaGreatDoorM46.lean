import Derived.Test.YtlamjfhhefcohaaGreatDoorM24
import Derived.Test.YtlamjfhhefcohaaGreatDoorM43
import Derived.Test.YtlamjfhhefcohaaGreatDoorM30
import Derived.Deep.LoopGhost
namespace Go.Proofs.YtlamjfhhefcohaaGreatDoor
set_option linter.unusedVariables false
set_option linter.unusedSimpArgs false
set_option maxRecDepth 100000
set_option maxHeartbeats 16000000
section
open Go.RowKit
structure EB (C : RC) (m : TV) (B : Nat) (w0 : World) (v0 : Value) (w : World) (v : Value) (xs : List Nd) (s : PS) : Prop where
 st : RSt C m w s
 row : NRow B w v xs
 t : Tcs (fun k => k = C.P ∨ v0.ownBlock = some k) w0 w
 own : ∀ k, v.ownBlock = some k → v0.ownBlock = some k ∨ w0.heap.size ≤ k
 pb : C.P + 1 < B
 b0 : B ≤ w0.heap.size
 r0 : ∀ k, v0.ownBlock = some k → B ≤ k
def NdI (C : RC) (m : TV) (w : World) (B : Nat) (v : Value) (r : List Nd) (s' : PS) (e : Ending) (w' : World) : Prop :=
 (¬ dmS (tokT C.l) s' ∧ ∃ u, e = .returned u ∧ EB C m B w v w' u r s') ∨ DieI C w s' e w'
theorem EB.start {C : RC} {m : TV} {B : Nat} {w : World} {v : Value} {xs : List Nd} {s : PS} (h : RSt C m w s) (hr : NRow B w v xs) (hp : C.P + 1 < B) (hb : B ≤ w.heap.size) : EB C m B w v w v xs s :=
 ⟨h, hr, Tcs.refl _ _, fun k hk => .inl hk, hp, hb, fun k hk => (World.ownsRow.lt hr k hk).1⟩
section
variable {C : RC} {m : TV} {B : Nat} {w0 w w' : World} {v0 v : Value} {xs : List Nd} {s z : PS}
theorem EB.go (h : EB C m B w0 v0 w v xs s) (hz : RSt C m w' z) (ht : Tcs (fun k => k = C.P) w w') : EB C m B w0 v0 w' v xs z :=
 ⟨hz, own_tcs h.row ht (fun k hk => by rw [hk]; have := h.pb; omega), h.t.trans (ht.mono fun k hk => .inl hk), h.own, h.pb, h.b0, h.r0⟩
theorem EB.below (h : EB C m B w0 v0 w v xs s) (hb : Below w.heap.size w w') : EB C m B w0 v0 w' v xs s :=
 ⟨h.st.below hb, NRow.below h.row hb, h.t.of_below hb, h.own, h.pb, h.b0, h.r0⟩
theorem EB.then {u : Value} {r : List Nd} (h : EB C m B w0 v0 w v xs s) (h' : EB C m B w v w' u r z) : EB C m B w0 v0 w' u r z :=
 ⟨h'.st, h'.row, h.t.next h'.t (fun k hk => by
   rcases hk with hk | hk
   ·exact .inl (.inl hk)
   ·rcases h.own k hk with h1 | h1
    ·exact .inl (.inr h1)
    ·exact .inr h1), fun k hk => by
   rcases h'.own k hk with h1 | h1
   ·exact h.own k h1
   ·exact .inr (Nat.le_trans h.t.size h1), h.pb, h.b0, h.r0⟩
theorem EB.bb (h : EB C m B w0 v0 w v xs s) : Kp C w0 w := tcs_b0 h.t (fun k hk => by
 have := h.st.ok.hi
 have := h.pb
 rcases hk with hk | hk
 ·omega
 ·have := h.r0 k hk; omega) (by have := h.st.ok.hi; have := h.pb; have := h.b0; omega)
theorem EB.le (h : EB C m B w0 v0 w v xs s) : B ≤ w.heap.size := Nat.le_trans h.b0 h.t.size
theorem EB.die {e : Ending} {w2 : World} {z' : PS} (h : EB C m B w0 v0 w v xs s) (hd : DieI C w z e w2) (hm : Dm (tokT C.l) z z') {r : List Nd} : NdI C m w0 B v0 r z' e w2 := .inr (hd.later hm h.bb)
theorem EB.fin (h : EB C m B w0 v0 w v xs s) : NdI C m w0 B v0 xs s (.returned v) w := .inl ⟨h.st.al, v, rfl, h⟩
theorem EB.app (h : EB C m B w0 v0 w v xs s) {a : Option Addr} {c : Nat} {nd : Nd} (hN : Nodes w (.slice a 1 c) [nd]) (hl : xs.length ≤ 2000000) :
  ∃ u w', (Builtin.append_ #[44, 44] 44 #[v, .slice a 1 c]).run Tryz.prog w = .ok u w' ∧ EB C m B w0 v0 w' u (xs ++ [nd]) s ∧ Tcs (fun k => v.ownBlock = some k) w w' := by
 obtain ⟨u, w', r1, r2, r3, r4⟩ := run_appN (w := w) B 44 v xs h.row _ [nd] hN (by simp only [List.length_singleton]; omega) h.le
 have t : Tcs (fun k => v.ownBlock = some k) w w' := Tcs.of_grown r3 (fun k h => h)
 have hB : ∀ k, v.ownBlock = some k → B ≤ k := fun k hk => (World.ownsRow.lt h.row k hk).1
 refine ⟨u, w', r1, ⟨h.st.tcs t (fun e => by have := hB _ e; have := h.pb; omega) (fun k hk => by have := hB k hk; have := h.pb; have := h.st.ok.hi; omega), r2, h.t.next t (fun k hk => by
  rcases h.own k hk with h1 | h1
  ·exact .inl (.inr h1)
  ·exact .inr h1), fun k hk => by
  rcases r4 k hk with h1 | h1
  ·exact h.own k h1
  ·exact .inr (Nat.le_trans h.t.size h1), h.pb, h.b0, h.r0⟩, t⟩
theorem EB.lit {W : World} {b : Nat} (h : EB C m B w0 v0 w v xs s) (kd vl : Int) (nm : ByteArray) (hW : W = w.alloc (.cells #[.int .i64 kd, .int .i64 vl, .string nm] 48)) (hb : b = w.heap.size) (hl : xs.length ≤ 2000000) :
  ∃ u w', (Builtin.append_ #[44, 44] 44 #[v, .slice (some ⟨b, 0, none⟩) 1 1]).run Tryz.prog W = .ok u w' ∧ NdI C m w0 B v0 (xs ++ [⟨kd, vl, nm⟩]) s (.returned u) w' := by
 have hb1 : Below w.heap.size w W := by rw [hW]; exact (Below.refl _ _).alloc (Nat.le_refl _) _
 have hN : Nodes W (.slice (some ⟨b, 0, none⟩) 1 1) [⟨kd, vl, nm⟩] := by rw [hW, hb]; exact (nrow_lit w 0 (Nat.zero_le _) _ _ _).nodes
 obtain ⟨u, w', r1, r2, -⟩ := (h.below hb1).app hN hl
 exact ⟨u, w', r1, r2.fin⟩
end
theorem wpAnyE_two {P : Program} {ops : Array Oper} {Q : Exit → Act → World → Prop} {md : Region.Mode} {S : World → Prop} {l : Nat} {i j : Nat} {fuel : Nat} {listed : Array Bool} {a : Act} {w : World} (hr : Region.ready md ops listed = [i, j])
  (h1 : wpOp P ops Q i (fun a' w' => (i ≠ l → S w') ∧ wpAnyE P md ops Q S l fuel (listed.setIfInBounds i true) a' w') a w)
  (h2 : wpOp P ops Q j (fun a' w' => (j ≠ l → S w') ∧ wpAnyE P md ops Q S l fuel (listed.setIfInBounds j true) a' w') a w) : wpAnyE P md ops Q S l (fuel + 1) listed a w := by
 refine ⟨fun h0 => (by rw [hr] at h0; cases h0), fun k hk => ?_⟩
 rw [hr] at hk
 simp only [List.mem_cons, List.not_mem_nil, or_false] at hk
 rcases hk with rfl | rfl
 ·exact h1
 ·exact h2
theorem wpOp_of {P : Program} {ops : Array Oper} {Q : Exit → Act → World → Prop} {i : Nat} {o : Oper} {a : Act} {w : World} {K : Act → World → Prop} (ho : ops[i]? = some o)
  (h : if Region.wanted o (yielded ops a.tmps) = true then o.wp P a w K Q else K (a.put o.dst undef) w) : wpOp P ops Q i K a w := by
 unfold wpOp
 simp only [ho]
 split
 ·rename_i hw
  rw [if_pos hw] at h
  exact .inl h
 ·rename_i hw
  rw [if_neg hw] at h
  exact h
def ClI (C : RC) (n : Nat) : Prop := ∀ (w : World) (m : TV) (B : Nat) (s : PS) (least : Int) (v : Value) (xs a : List Nd) (s' : PS), Pa (tokT C.l) n (.e least) s (.n a) s' → RSt C m w s → NRow B w v xs → C.P + 1 < B → B ≤ w.heap.size → xs.length + a.length ≤ 1000000 → 1 ≤ least → least ≤ 11 →
 Calls Tryz.prog 199 #[.pointer (some ⟨C.P, 0, none⟩), v, .int .i64 least] w (NdI C m w B v (xs ++ a) s')
def OdI (C : RC) (n : Nat) : Prop := ∀ (w : World) (m : TV) (B : Nat) (s : PS) (v : Value) (xs a : List Nd) (s' : PS), Pa (tokT C.l) n .o s (.n a) s' → RSt C m w s → NRow B w v xs → C.P + 1 < B → B ≤ w.heap.size → xs.length + a.length ≤ 1000000 →
 Calls Tryz.prog 200 #[.pointer (some ⟨C.P, 0, none⟩), v] w (NdI C m w B v (xs ++ a) s')
def CallI (C : RC) (n : Nat) : Prop := ∀ (w : World) (m : TV) (B : Nat) (s : PS) (x : ByteArray) (v : Value) (xs a : List Nd) (s' : PS), Pa (tokT C.l) n (.ar x) s (.n a) s' → RSt C m w s → NRow B w v xs → C.P + 1 < B → B ≤ w.heap.size → xs.length + a.length ≤ 1000000 →
 Calls Tryz.prog 194 #[.pointer (some ⟨C.P, 0, none⟩), v, .string x] w (NdI C m w B v (xs ++ a) s')
def ExI (C : RC) (n : Nat) : Prop := ∀ (w : World) (m : TV) (B : Nat) (s : PS) (v : Value) (xs a : List Nd) (s' : PS), Pa (tokT C.l) n (.e 1) s (.n a) s' → RSt C m w s → NRow B w v xs → C.P + 1 < B → B ≤ w.heap.size → xs.length + a.length ≤ 1000000 →
 Calls Tryz.prog 195 #[.pointer (some ⟨C.P, 0, none⟩), v] w (NdI C m w B v (xs ++ a) s')
set_option maxRecDepth 100000 in
set_option maxHeartbeats 1000000 in
theorem exI_of {C : RC} {n : Nat} (h : ClI C n) : ExI C n := by
 intro w m B s v xs a s' hp hS hr hP hB hl
 have HC := hide (h w m B s 1 v xs a s' hp hS hr hP hB hl (by decide) (by decide))
 obtain ⟨ad, cp, rfl, -⟩ := own_shape hr
 clear hp hS hr hP hB hl h
 go_enter Tryz.func195, Tryz.ntmps195
 go_wp2_with fail
 refine HC.out.mono ?_
 rintro e w2 hg
 have HF := hide hg
 rcases hg with ⟨-, u, rfl, -⟩ | ⟨-, rfl, -⟩
 ·go_wp2_with fail
  go_ret
  exact HF.out
 ·unfold flt at *
  go_wp2_with fail
  exact ⟨rfl, HF.out⟩
end
section
open Go.RowKit
theorem app3 (a b c d : List Nd) : a ++ (b ++ c ++ d) = a ++ b ++ c ++ d := by simp [List.append_assoc]
theorem drew_below (w : World) : Below w.heap.size w w.drew := (Below.refl _ _).drew
set_option maxRecDepth 100000 in
set_option maxHeartbeats 8000000 in
theorem clI_step {C : RC} (HN : NxI C) {n : Nat} (hO : OdI C n) (hE : ClI C n) : ClI C (n + 1) := by
 intro w m B s least v xs a s' hP hS hr hPB hBw hl h1 h11
 obtain ⟨a0, s0, hp1, hp2⟩ : ∃ a0 s0, Pa (tokT C.l) n .o s (.n a0) s0 ∧ Pa (tokT C.l) n (.lp least a0) s0 (.n a) s' := by
  cases hP using Pa_i with
  | ex n m s a0 s0 r s' h1 h2 => exact ⟨a0, s0, h1, h2⟩
 have hl0 : a0.length ≤ a.length := hp2.acc
 have HO := hide (hO w m B s v xs a0 s0 hp1 hS hr hPB hBw (by omega))
 have HP2 := hide hp2
 have HE0 := hide (EB.start hS hr hPB hBw)
 have HNx := hide HN
 have HCl : Hid (∀ W z st u ys b z1, Pa (tokT C.l) n (.e st) z (.n b) z1 → EB C m B w v W u ys z → ys.length + b.length ≤ 1000000 → 1 ≤ st → st ≤ 11 → Calls Tryz.prog 199 #[.pointer (some ⟨C.P, 0, none⟩), u, .int .i64 st] W (NdI C m W B u (ys ++ b) z1)) := fun W z st u ys b z1 hp h hl h1 h2 => hE W m B z st u ys b z1 hp h.st h.row h.pb h.le hl h1 h2
 have HLn := hide hl
 clear hO hE hP hp1 hp2 hl0 hS hr hPB hBw hl HN
 go_enter Tryz.func199, Tryz.ntmps199
 go_wp2_with fail
 refine HO.out.mono ?_
 rintro e w1 (⟨-, u1, rfl, hE1⟩ | hd)
 ·have HE1 := hide hE1
  clear hE1 HO HE0
  go_wp2_with fail
  go_loopg [1] n (fun gk u wr => ∃ (o : List Nd) (z : PS), gk ≤ n ∧ Pa (tokT C.l) gk (.lp least o) z (.n a) s' ∧ EB C m B w v wr u (xs ++ o) z)
  case atStart => exact ⟨a0, s0, Nat.le_refl _, HP2.out, HE1.out⟩
  case round =>
   clear HE1 HP2
   obtain ⟨o, z, hgk, hp, hE⟩ := hrel
   have HOp := hide (operator_any hE.st)
   have HE := hide hE
   have HPp := hide hp
   clear hE hp
   go_wp2_with fail
   refine HOp.out.mono ?_
   rintro e w2 ⟨hop, hb2⟩
   have hE2 := HE.out.below hb2
   have hz0 := al_er hE2.st.al
   rcases hop with ⟨hno, rfl⟩ | ⟨b, hbm, hif, rfl⟩
   ·rcases lp_inv HPp.out with ⟨h0, -, -⟩ | ⟨-, -, rfl, rfl⟩ | ⟨-, k, x, b, z1, -, hix, -⟩
    ·exact absurd hz0 h0
    ·have HF := hide (hE2.below ((Below.refl _ _).alloc (Nat.le_refl _) (.cells #[.string ⟨#[]⟩, .int .i64 0, .int .i64 0, .int .i64 0] 206))).fin
     have hlt : (0 : Int) < least := by omega
     clear hE2 hb2 HE HPp HOp hno hz0
     go_wp2_with fail
     go_ret
     exact HF.out
    ·rw [hno] at hix; cases hix
   ·unfold binV
    have hbs := bin_str b hbm
    rcases lp_inv HPp.out with ⟨h0, -, -⟩ | ⟨-, hstop, rfl, rfl⟩ | ⟨-, k, x, b', z1, rfl, hix, hle, hpe, hpn⟩
    ·exact absurd hz0 h0
    ·have hlt : b.2.1 < least := hstop _ hif
     have HF := hide (hE2.below ((Below.refl _ _).alloc (Nat.le_refl _) (.cells #[.string (tx b.1), .int .i64 b.2.1, .int .i64 b.2.2.1, .int .i64 b.2.2.2] 206))).fin
     clear hE2 hb2 HE HPp HOp hif hz0 hstop
     generalize b.2.1 = bst at *
     generalize b.2.2.1 = bk at *
     generalize b.2.2.2 = bv at *
     go_wp2_with fail
     go_ret
     exact HF.out
    ·rw [hif] at hix
     cases hix
     have hlt : ¬ b.2.1 < least := by have h : least ≤ b.2.1 := hle; omega
     have hxis : isS (tokT C.l) b.1 z = true := (if_is hif).1
     have hpe' : Pa (tokT C.l) k (.e (b.2.1 + 1)) z.ad (.n b') z1 := hpe
     have hpn' : Pa (tokT C.l) k (.lp least (o ++ b' ++ [⟨b.2.2.1, b.2.2.2, tx []⟩])) z1 (.n a) s' := hpn
     obtain ⟨W3, hW3⟩ : ∃ W3, W3 = w2.alloc (.cells #[.string (tx b.1), .int .i64 b.2.1, .int .i64 b.2.2.1, .int .i64 b.2.2.2] 206) := ⟨_, rfl⟩
     obtain ⟨Bo, hBo⟩ : ∃ Bo, Bo = w2.heap.size := ⟨_, rfl⟩
     have hb3 : Below w2.heap.size w2 W3 := by rw [hW3]; exact (Below.refl _ _).alloc (Nat.le_refl _) _
     have hx3 : FrC W3 Bo [.string (tx b.1), .int .i64 b.2.1, .int .i64 b.2.2.1, .int .i64 b.2.2.2] := by rw [hW3, hBo]; exact box_fr w2 #[.string (tx b.1), .int .i64 b.2.1, .int .i64 b.2.2.1, .int .i64 b.2.2.2] _ (by show 4 ≤ 1000; omega)
     have hl3 : Bo < W3.heap.size := World.block_lt_of_cell? _ _ (hx3 0 _ rfl).1
     have hE3 := hE2.below hb3
     have hPBo : C.P ≠ Bo := by have := hE2.st.lt; omega
     have hOBo : ∀ k, u1.ownBlock = some k → k ≠ Bo := fun k hk => by have := (World.ownsRow.lt hE2.row k hk).2; omega
     have HA := hide (adv_any HNx.out hE3.st (is_ltI hE3.st hxis))
     have y1 := (hx3 1 _ rfl).1
     have HX3 := hide hx3
     have HE3 := hide hE3
     have HPe := hide hpe'
     have HPn := hide hpn'
     have HW3 := hide hW3
     have HBo := hide hBo
     have HPBo := hide hPBo
     have HOBo := hide hOBo
     have HBd := hide hbs
     have hkn : k ≤ n := by omega
     have hll : (xs ++ o).length + b'.length ≤ 1000000 := by
      have := hpn'.acc
      have := HLn.out
      simp only [PT.acc, PR.sz, List.length_append, List.length_singleton] at *
      omega
     have HLl := hide hll
     clear hE2 hE3 hb2 hb3 hx3 hW3 hBo hPBo hOBo hpe hpn hpe' hpn' hif hz0 hxis HOp HPp HE hbs hll hle
     generalize tx b.1 = bsy at *
     generalize b.2.1 = bst at *
     generalize b.2.2.1 = bk at *
     generalize b.2.2.2 = bv at *
     go_upto_region 3 with fail
     rw [← HW3.out, ← HBo.out]
     go_wp2_with fail
     refine HA.out.mono ?_
     rintro e w4 (⟨-, rfl, z4, t4⟩ | hd)
     ·have hE4 := HE3.out.go z4 t4
      have hx4 := HX3.out.tcs hl3 t4 (fun e => HPBo.out e.symm)
      have hl4 : Bo < w4.heap.size := Nat.lt_of_lt_of_le hl3 t4.size
      obtain ⟨W5, hW5⟩ : ∃ W5, W5 = w4.drew := ⟨_, rfl⟩
      have hb5 : Below w4.heap.size w4 W5 := by rw [hW5]; exact drew_below w4
      have hE5 := hE4.below hb5
      have hx5 := hx4.below hb5
      have hl5 : Bo < W5.heap.size := Nat.lt_of_lt_of_le hl4 hb5.size
      have HS := hide (show W5.cell? ⟨Bo, 1, none⟩ = some (.int .i64 bst) ∧ W5.cell? ⟨Bo, 2, none⟩ = some (.int .i64 bk) ∧ W5.cell? ⟨Bo, 3, none⟩ = some (.int .i64 bv) from ⟨(hx5 1 _ rfl).1, (hx5 2 _ rfl).1, (hx5 3 _ rfl).1⟩)
      have hwr : IntKind.i64.wrap (bst + 1) = bst + 1 := by have := HBd.out; rw [IntKind.wrap_i64]; omega
      have HC1 := hide (HCl.out W5 z.ad (bst + 1) u1 (xs ++ o) b' z1 (Pa.ups hkn HPe.out) hE5 HLl.out (by have := HBd.out; omega) (by have := HBd.out; omega))
      have HE5 := hide hE5
      have HX5 := hide hx5
      have HW5 := hide hW5
      have HL5 := hide hl5
      have HDm := hide (HPn.out.dm)
      have HPu := hide (Pa.ups hkn HPe.out)
      have HRel : Hid (∀ W u, EB C m B w v W u (xs ++ o ++ b' ++ [⟨bk, bv, tx []⟩]) z1 → ∃ (o' : List Nd) (z' : PS), k ≤ n ∧ Pa (tokT C.l) k (.lp least o') z' (.n a) s' ∧ EB C m B w v W u (xs ++ o') z') := fun W u h => ⟨_, z1, hkn, HPn.out, by rw [app3]; exact h⟩
      clear z4 t4 hE4 hx4 hb5 hE5 hx5 hW5 y1 HA HE3 HX3 HPe HPn HW3 hl3 hl4 hl5
      go_upto_region 6 with fail
      refine wp_region_E 13 (fun X => X.cell? ⟨Bo, 1, none⟩ = some (.int .i64 bst) ∧ X.cell? ⟨Bo, 2, none⟩ = some (.int .i64 bk) ∧ X.cell? ⟨Bo, 3, none⟩ = some (.int .i64 bv)) (by kernel_rfl) ?_
      rw [← HW5.out]
      refine tk 0 [5, 12, 13] HS.out ?_
      refine tk 1 [5, 12, 13] HS.out ?_
      refine tk 2 [3, 4, 5, 12, 13] HS.out ?_
      refine tk 3 [4, 5, 12, 13] HS.out ?_
      refine tk 4 [5, 12, 13] HS.out ?_
      refine tk 6 [7, 10, 11, 12, 13] HS.out ?_
      refine tk 7 [10, 11, 12, 13] HS.out ?_
      refine tk 8 [9, 10, 11, 12, 13] HS.out ?_
      refine tk 9 [10, 11, 12, 13] HS.out ?_
      refine tk 10 [11, 12, 13] HS.out ?_
      clear HS
      refine wpAnyE_two (i := 5) (j := 11) (by kernel_rfl) ?_ ?_
      ·refine wpOp_of rfl ?_
       go_simp
       refine HC1.out.mono ?_
       rintro e w6 (⟨-, u6, rfl, hE6⟩ | hd)
       ·have hE6' := HE5.out.then hE6
        have hx6 := HX5.out.tcs HL5.out hE6.t (fun e => by rcases e with e | e; exact HPBo.out e.symm; exact HOBo.out _ e rfl)
        have hl6 : Bo < w6.heap.size := Nat.lt_of_lt_of_le HL5.out hE6.t.size
        have ho6 : ∀ k, u6.ownBlock = some k → k ≠ Bo := fun k hk => by
         rcases hE6.own k hk with h | h
         ·exact HOBo.out k h
         ·have := HL5.out; omega
        obtain ⟨W7, hW7⟩ : ∃ W7, W7 = w6.alloc (.cells #[.int .i64 bk, .int .i64 bv, .string ⟨#[]⟩] 48) := ⟨_, rfl⟩
        obtain ⟨b7, hb7⟩ : ∃ b7, b7 = w6.heap.size := ⟨_, rfl⟩
        have hbe7 : Below w6.heap.size w6 W7 := by rw [hW7]; exact (Below.refl _ _).alloc (Nat.le_refl _) _
        have hN7 : Nodes W7 (.slice (some ⟨b7, 0, none⟩) 1 1) [⟨bk, bv, tx []⟩] := by rw [hW7, hb7]; exact (nrow_lit w6 0 (Nat.zero_le _) _ _ _).nodes
        have hx7 := hx6.below hbe7
        have hll6 : (xs ++ o ++ b').length ≤ 2000000 := by have := HLl.out; rw [List.length_append]; omega
        obtain ⟨u8, w8, r8, hE8, t8⟩ := (hE6'.below hbe7).app hN7 hll6
        have hx8 := hx7.tcs (Nat.lt_of_lt_of_le hl6 hbe7.size) t8 (fun e => ho6 _ e rfl)
        have HS7 := hide (show W7.cell? ⟨Bo, 1, none⟩ = some (.int .i64 bst) ∧ W7.cell? ⟨Bo, 2, none⟩ = some (.int .i64 bk) ∧ W7.cell? ⟨Bo, 3, none⟩ = some (.int .i64 bv) from ⟨(hx7 1 _ rfl).1, (hx7 2 _ rfl).1, (hx7 3 _ rfl).1⟩)
        have HS8 := hide (show w8.cell? ⟨Bo, 1, none⟩ = some (.int .i64 bst) ∧ w8.cell? ⟨Bo, 2, none⟩ = some (.int .i64 bk) ∧ w8.cell? ⟨Bo, 3, none⟩ = some (.int .i64 bv) from ⟨(hx8 1 _ rfl).1, (hx8 2 _ rfl).1, (hx8 3 _ rfl).1⟩)
        have HE8 := hide hE8
        have HR8 := hide r8
        have HW7 := hide hW7
        have HB7 := hide hb7
        refine ⟨⟨(hx6 1 _ rfl).1, (hx6 2 _ rfl).1, (hx6 3 _ rfl).1⟩, ?_⟩
        clear hE6 hE6' hx6 hl6 ho6 hW7 hb7 hbe7 hN7 hx7 hll6 r8 hE8 t8 hx8
        try simp only [Act.put, tA, tB, tC]
        refine wpAnyE_one (i := 11) (by kernel_rfl) rfl (fun K hK => ?_)
        go_simp
        rw [← HW7.out, ← HB7.out]
        refine hK.out _ _ (fun _ => HS7.out) ?_
        clear hK K
        try simp only [Act.put, tA, tB, tC]
        refine wpAnyE_one (i := 12) (by kernel_rfl) rfl (fun K hK => ?_)
        refine step_appR rfl (.tmp 27) (.tmp 33) 44 rfl u6 (.slice (some ⟨b7, 0, none⟩) 1 1) u8 w8 rfl rfl HR8.out ?_
        refine hK.out _ _ (fun _ => HS8.out) ?_
        clear hK K
        try simp only [Act.put, tA, tB, tC]
        refine wpAnyE_one (i := 13) (by kernel_rfl) rfl (fun K hK => ?_)
        go_simp
        refine hK.out _ _ (fun h => absurd rfl h) ?_
        clear hK K
        refine wpAnyE_done (by kernel_rfl) ?_ _
        go_wp2_with fail
        go_roundg k
        case measure => omega
        case rel => exact HRel.out _ _ HE8.out
       ·have HF : Hid (NdI C m w B v (xs ++ a) s' e w6) := HE5.out.die hd HDm.out
        obtain ⟨-, rfl, -⟩ := hd
        unfold flt at *
        go_wp2_with fail
        exact ⟨rfl, HF.out⟩
      ·refine wpOp_of rfl ?_
       go_simp
       obtain ⟨W6, hW6⟩ : ∃ W6, W6 = W5.alloc (.cells #[.int .i64 bk, .int .i64 bv, .string ⟨#[]⟩] 48) := ⟨_, rfl⟩
       obtain ⟨b6, hb6⟩ : ∃ b6, b6 = W5.heap.size := ⟨_, rfl⟩
       rw [← hW6, ← hb6]
       have hbe6 : Below W5.heap.size W5 W6 := by rw [hW6]; exact (Below.refl _ _).alloc (Nat.le_refl _) _
       have hN6 : NRow W5.heap.size W6 (.slice (some ⟨b6, 0, none⟩) 1 1) [⟨bk, bv, tx []⟩] := by rw [hW6, hb6]; exact nrow_lit W5 _ (Nat.le_refl _) _ _ _
       have hx6 := HX5.out.below hbe6
       have hl6 : Bo < W6.heap.size := Nat.lt_of_lt_of_le HL5.out hbe6.size
       have hE6 := HE5.out.below hbe6
       have HC6 := hide (HCl.out W6 z.ad (bst + 1) u1 (xs ++ o) b' z1 HPu.out hE6 HLl.out (by have := HBd.out; omega) (by have := HBd.out; omega))
       have HE6 := hide hE6
       have HN6 := hide hN6
       have HX6 := hide hx6
       have hP5 : C.P < W5.heap.size := Nat.lt_of_succ_lt HE5.out.st.lt
       have hO5 : ∀ k, u1.ownBlock = some k → k < W5.heap.size := fun k hk => (World.ownsRow.lt HE5.out.row k hk).2
       refine ⟨⟨(hx6 1 _ rfl).1, (hx6 2 _ rfl).1, (hx6 3 _ rfl).1⟩, ?_⟩
       clear hW6 hb6 hbe6 hN6 hx6 hE6 HC1
       try simp only [Act.put, tA, tB, tC]
       refine wpAnyE_one (i := 5) (by kernel_rfl) rfl (fun K hK => ?_)
       go_simp
       refine HC6.out.mono ?_
       rintro e w6 (⟨-, u6, rfl, hE7⟩ | hd)
       ·have hE7' := HE6.out.then hE7
        have hx7 := HX6.out.tcs hl6 hE7.t (fun e => by rcases e with e | e; exact HPBo.out e.symm; exact HOBo.out _ e rfl)
        have hl7 : Bo < w6.heap.size := Nat.lt_of_lt_of_le hl6 hE7.t.size
        have ho7 : ∀ k, u6.ownBlock = some k → k ≠ Bo := fun k hk => by
         rcases hE7.own k hk with h | h
         ·exact HOBo.out k h
         ·omega
        have hN7 : NRow W5.heap.size w6 (.slice (some ⟨b6, 0, none⟩) 1 1) [⟨bk, bv, tx []⟩] := own_tcs HN6.out hE7.t (fun k hk => by
         rcases hk with hk | hk
         ·omega
         ·exact hO5 k hk)
        have hll6 : (xs ++ o ++ b').length ≤ 2000000 := by have := HLl.out; rw [List.length_append]; omega
        obtain ⟨u8, w8, r8, hE8, t8⟩ := hE7'.app hN7.nodes hll6
        have hx8 := hx7.tcs hl7 t8 (fun e => ho7 _ e rfl)
        have HS8 := hide (show w8.cell? ⟨Bo, 1, none⟩ = some (.int .i64 bst) ∧ w8.cell? ⟨Bo, 2, none⟩ = some (.int .i64 bk) ∧ w8.cell? ⟨Bo, 3, none⟩ = some (.int .i64 bv) from ⟨(hx8 1 _ rfl).1, (hx8 2 _ rfl).1, (hx8 3 _ rfl).1⟩)
        have HE8 := hide hE8
        have HR8 := hide r8
        refine hK.out _ _ (fun _ => ⟨(hx7 1 _ rfl).1, (hx7 2 _ rfl).1, (hx7 3 _ rfl).1⟩) ?_
        clear hK K hE7 hE7' hx7 hl7 ho7 hN7 hll6 r8 hE8 t8 hx8
        try simp only [Act.put, tA, tB, tC]
        refine wpAnyE_one (i := 12) (by kernel_rfl) rfl (fun K hK => ?_)
        refine step_appR rfl (.tmp 27) (.tmp 33) 44 rfl u6 (.slice (some ⟨b6, 0, none⟩) 1 1) u8 w8 rfl rfl HR8.out ?_
        refine hK.out _ _ (fun _ => HS8.out) ?_
        clear hK K
        try simp only [Act.put, tA, tB, tC]
        refine wpAnyE_one (i := 13) (by kernel_rfl) rfl (fun K hK => ?_)
        go_simp
        refine hK.out _ _ (fun h => absurd rfl h) ?_
        clear hK K
        refine wpAnyE_done (by kernel_rfl) ?_ _
        go_wp2_with fail
        go_roundg k
        case measure => omega
        case rel => exact HRel.out _ _ HE8.out
       ·have HF : Hid (NdI C m w B v (xs ++ a) s' e w6) := HE6.out.die hd HDm.out
        obtain ⟨-, rfl, -⟩ := hd
        unfold flt at *
        go_wp2_with fail
        exact ⟨rfl, HF.out⟩
     ·have HF : Hid (NdI C m w B v (xs ++ a) s' e w4) := by
       have h := HE3.out.die hd ((HPe.out.dm).trans (HPn.out.dm)) (r := xs ++ a)
       exact h
      obtain ⟨-, rfl, -⟩ := hd
      unfold flt at *
      go_wp2_with fail
      exact ⟨rfl, HF.out⟩
 ·have HF : Hid (NdI C m w B v (xs ++ a) s' e w1) := HE0.out.die hd HP2.out.dm
  obtain ⟨-, rfl, -⟩ := hd
  unfold flt at *
  go_wp2_with fail
  exact ⟨rfl, HF.out⟩
end
section
open Go.RowKit
theorem nrow_none (B : Nat) (w : World) : NRow B w (.slice none 0 0) [] := World.ownsRow_nil _ _ _ _
def WiI (C : RC) (m : TV) (w : World) (r : List Nd) (s' : PS) (e : Ending) (w' : World) : Prop := NdI C m w w.heap.size (.slice none 0 0) r s' e w'
def WtI (C : RC) (n : Nat) : Prop := ∀ (w : World) (m : TV) (s : PS) (x y : List UInt8) (a : List Nd) (s' : PS), fixB x = true → fixB y = true → Pa (tokT C.l) n (.pr x y) s (.n a) s' → RSt C m w s → a.length ≤ 1000000 →
 Calls Tryz.prog 180 #[.pointer (some ⟨C.P, 0, none⟩), .string (tx x), .string (tx y)] w (WiI C m w a s')
set_option maxRecDepth 100000 in
set_option maxHeartbeats 1000000 in
theorem wtI_of {C : RC} (HN : NxI C) {n : Nat} (hE : ExI C n) : WtI C n := by
 intro w m s x y a s' hx hy hp hS hl
 have hinv := pr_inv' hp
 have HEn := hide (enter_any HN hS x hx)
 have hE0 := EB.start hS (nrow_none w.heap.size w) hS.lt (Nat.le_refl _)
 have HEx : Hid (∀ W b z1, (opS (tokT C.l) x s).er = 0 → Pa (tokT C.l) n (.e 1) (opS (tokT C.l) x s) (.n b) z1 → b.length ≤ 1000000 → EB C m w.heap.size w (.slice none 0 0) W (.slice none 0 0) [] (opS (tokT C.l) x s) → Calls Tryz.prog 195 #[.pointer (some ⟨C.P, 0, none⟩), .slice none 0 0] W (NdI C m W w.heap.size (.slice none 0 0) ([] ++ b) z1)) := fun W b z1 h0 hp hl h => hE W m w.heap.size _ _ _ _ _ hp h.st h.row h.pb h.le (by simpa using hl)
 have HLe : Hid (∀ W z, RSt C m W z → 1 ≤ z.op → Calls Tryz.prog 130 #[.pointer (some ⟨C.P, 0, none⟩), .string (tx y)] W (Go1 C m W (clS (tokT C.l) y z) (.tuple #[]))) := fun W z h ho => leave_any HN h ho y hy
 have HOp : Hid ((opS (tokT C.l) x s).op = s.op + 1) := on_op x s
 have HDm : Hid (Dm (tokT C.l) (opS (tokT C.l) x s) s') := by
  rcases hinv with ⟨-, -, rfl⟩ | ⟨-, s1, h1, rfl⟩
  ·exact dm_cl _ _
  ·exact h1.dm.trans (dm_cl _ _)
 have hso := hS.op.1
 unfold WiI
 generalize opS (tokT C.l) x s = z at *
 generalize tx x = xx at *
 generalize hty : tx y = yy at *
 clear hty hS hE HN hp hx hy
 go_enter Tryz.func180, Tryz.ntmps180
 go_wp2_with fail
 refine (HEn.out).mono (fun e w1 hg => ?_)
 rcases hg.symm with hd | ⟨-, rfl, z2, t2⟩
 ·have HF : Hid (NdI C m w w.heap.size (.slice none 0 0) a s' e w1) := hE0.die hd (HDm.out)
  obtain ⟨-, rfl, -⟩ := hd
  unfold flt at *
  go_wp2_with fail
  exact ⟨rfl, HF.out⟩
 have hE1 := hE0.go z2 t2
 clear z2 t2
 go_wp2_with fail
 rcases hinv with ⟨h0, -, -⟩ | ⟨h0, s1, hp1, rfl⟩
 ·exact absurd (al_er hE1.st.al) h0
 have HO1 := hide hp1.op
 have HD1 := hide hp1.dm
 have HC1 := hide (HEx.out w1 a s1 h0 hp1 hl hE1)
 clear hp1
 refine (HC1.out).mono (fun e w2 hg => ?_)
 rcases hg.symm with hd | ⟨-, u2, rfl, hn⟩
 ·have HF : Hid (NdI C m w w.heap.size (.slice none 0 0) a (clS (tokT C.l) y s1) e w2) := hE1.die hd (dm_cl _ _)
  obtain ⟨-, rfl, -⟩ := hd
  unfold flt at *
  go_wp2_with fail
  exact ⟨rfl, HF.out⟩
 have hE2 := hE1.then hn
 clear hn
 go_wp2_with fail
 have HL2 := hide (HLe.out w2 s1 hE2.st (by rw [HO1.out, HOp.out]; omega))
 refine (HL2.out).mono (fun e w3 hg => ?_)
 rcases hg.symm with hd | ⟨-, rfl, z2, t2⟩
 ·have HF : Hid (NdI C m w w.heap.size (.slice none 0 0) a (clS (tokT C.l) y s1) e w3) := hE2.die hd (Dm.refl _)
  obtain ⟨-, rfl, -⟩ := hd
  unfold flt at *
  go_wp2_with fail
  exact ⟨rfl, HF.out⟩
 have hE3 := hE2.go z2 t2
 clear z2 t2
 go_wp2_with fail
 have HF := hide hE3.fin
 go_ret
 exact HF.out
def EdI (C : RC) (n : Nat) : Prop := ∀ (w : World) (m : TV) (s : PS) (a : List Nd) (s1 : PS), Pa (tokT C.l) n (.e 1) s (.n a) s1 → RSt C m w s → a.length ≤ 1000000 →
 Calls Tryz.prog 178 #[.pointer (some ⟨C.P, 0, none⟩)] w (WiI C m w a (taS (tokT C.l) [59] s1))
set_option maxRecDepth 100000 in
set_option maxHeartbeats 1000000 in
theorem edI_of {C : RC} (HN : NxI C) {n : Nat} (hE : ExI C n) : EdI C n := by
 intro w m s a s1 hp hS hl
 have hE0 := EB.start hS (nrow_none w.heap.size w) hS.lt (Nat.le_refl _)
 have HEx := hide (hE w m w.heap.size s (.slice none 0 0) [] a s1 hp hS (nrow_none _ w) hS.lt (Nat.le_refl _) (by simpa using hl))
 have HTa : Hid (∀ W z, RSt C m W z → Calls Tryz.prog 92 #[.pointer (some ⟨C.P, 0, none⟩), .string (tx [59])] W (Go1 C m W (taS (tokT C.l) [59] z) (.tuple #[]))) := fun W z h => expect_any HN h [59] (by decide)
 unfold WiI
 clear hp hS hE HN
 go_enter Tryz.func178, Tryz.ntmps178
 go_wp2_with fail
 refine (HEx.out).mono (fun e w1 hg => ?_)
 rcases hg.symm with hd | ⟨-, u1, rfl, hn⟩
 ·have HF : Hid (NdI C m w w.heap.size (.slice none 0 0) a (taS (tokT C.l) [59] s1) e w1) := hE0.die hd (dm_ta _ _)
  obtain ⟨-, rfl, -⟩ := hd
  unfold flt at *
  go_wp2_with fail
  exact ⟨rfl, HF.out⟩
 have hE1 := hE0.then hn
 clear hn
 go_wp2_with fail
 have HT1 := hide (HTa.out w1 s1 hE1.st)
 refine (HT1.out).mono (fun e w2 hg => ?_)
 rcases hg.symm with hd | ⟨-, rfl, z2, t2⟩
 ·have HF : Hid (NdI C m w w.heap.size (.slice none 0 0) a (taS (tokT C.l) [59] s1) e w2) := hE1.die hd (Dm.refl _)
  obtain ⟨-, rfl, -⟩ := hd
  unfold flt at *
  go_wp2_with fail
  exact ⟨rfl, HF.out⟩
 have hE2 := hE1.go z2 t2
 clear z2 t2
 go_wp2_with fail
 have HF := hide hE2.fin
 go_ret
 exact HF.out
end
section
open Go.RowKit
set_option maxRecDepth 100000 in
set_option maxHeartbeats 4000000 in
theorem callI_step {C : RC} (HN : NxI C) {n : Nat} (hn : n ≤ 1000000) (hE : ExI C n) : CallI C (n + 1) := by
 intro w m B s x v xs a s' hP hS hr hPB hBw hl
 obtain ⟨b, kk, s1, hp, rfl, rfl⟩ : ∃ b kk s1, Pa (tokT C.l) n (.al 0 []) (opS (tokT C.l) [40] s) (.a b kk) s1 ∧ a = b ++ [⟨4, kk, x⟩] ∧ s' = clS (tokT C.l) [41] s1 := by
  cases hP using Pa_i with
  | arg n x s a k s1 h1 => exact ⟨a, k, s1, h1, rfl, rfl⟩
 simp only [List.length_append, List.length_singleton] at hl
 have hE0 := EB.start hS hr hPB hBw
 have HEn := hide (enter_any HN hS [40] (by decide))
 have HDm : Hid (Dm (tokT C.l) (opS (tokT C.l) [40] s) (clS (tokT C.l) [41] s1)) := hp.dm.trans (dm_cl _ _)
 have HOp : Hid (1 ≤ s1.op) := by show 1 ≤ s1.op; rw [hp.op, on_op]; have := hS.op; omega
 have hinv := al_inv hp
 have HSe : Hid (∀ W z x, fixB x = true → RSt C m W z → Calls Tryz.prog 94 #[.pointer (some ⟨C.P, 0, none⟩), .string (tx x)] W fun e w' => e = .returned (.bool (isS (tokT C.l) x z)) ∧ w' = W) := fun W z x hx h => sees_any h x hx
 have HLe : Hid (∀ W z y, fixB y = true → RSt C m W z → 1 ≤ z.op → Calls Tryz.prog 130 #[.pointer (some ⟨C.P, 0, none⟩), .string (tx y)] W (Go1 C m W (clS (tokT C.l) y z) (.tuple #[]))) := fun W z y hy h ho => leave_any HN h ho y hy
 have HEx : Hid (∀ W z u ys b z1, Pa (tokT C.l) n (.e 1) z (.n b) z1 → EB C m B w v W u ys z → ys.length + b.length ≤ 1000000 → Calls Tryz.prog 195 #[.pointer (some ⟨C.P, 0, none⟩), u] W (NdI C m W B u (ys ++ b) z1)) := fun W z u ys b z1 hp h hl => hE W m B z u ys b z1 hp h.st h.row h.pb h.le hl
 have HSk : Hid (∀ W z, RSt C m W z → Calls Tryz.prog 126 #[.pointer (some ⟨C.P, 0, none⟩), .string (tx [44])] W fun e w' => (isS (tokT C.l) [44] z = false ∧ e = .returned (.bool false) ∧ w' = W) ∨ (isS (tokT C.l) [44] z = true ∧ Go1 C m W z.ad (.bool true) e w')) := fun W z h => skip_any HN h [44] (by decide)
 have HLn := hide hl
 have HPp := hide hp
 generalize opS (tokT C.l) [40] s = z at *
 clear hS hr hPB hBw hP hp hE HN hl
 go_enter Tryz.func194, Tryz.ntmps194
 go_wp2_with fail
 refine (HEn.out).mono (fun e w1 hg => ?_)
 rcases hg.symm with hd | ⟨-, rfl, z2, t2⟩
 ·have HF : Hid (NdI C m w B v (xs ++ (b ++ [⟨4, kk, x⟩])) (clS (tokT C.l) [41] s1) e w1) := hE0.die hd (HDm.out)
  obtain ⟨-, rfl, -⟩ := hd
  unfold flt at *
  go_wp2_with fail
  exact ⟨rfl, HF.out⟩
 have hE1 := hE0.go z2 t2
 clear z2 t2
 go_wp2_with fail
 rcases hinv with ⟨h0, -⟩ | ⟨h0, -, hi, rfl, rfl, rfl⟩ | ⟨h0, hor, k1, b1, z1, rfl, hpe, hst⟩
 ·exact absurd (al_er hE1.st.al) h0
 ·clear HPp HEn hE0
  refine (HSe.out w1 _ [41] (by decide) hE1.st).mono ?_
  rintro e w9 ⟨rfl, hw⟩
  rw [hw, hi]
  clear hw
  go_wp2_with fail
  have hE1' : EB C m B w v w1 v (xs ++ []) s1 := by rw [List.append_nil]; exact hE1
  clear hE1
  have HL5 := hide (HLe.out w1 _ [41] (by decide) hE1'.st (by exact HOp.out))
  refine (HL5.out).mono (fun e w5 hg => ?_)
  rcases hg.symm with hd | ⟨-, rfl, z2, t2⟩
  ·have HF : Hid (NdI C m w B v (xs ++ ([] ++ [⟨4, 0, x⟩])) (clS (tokT C.l) [41] s1) e w5) := hE1'.die hd (Dm.refl _)
   obtain ⟨-, rfl, -⟩ := hd
   unfold flt at *
   go_wp2_with fail
   exact ⟨rfl, HF.out⟩
  have hE5 := hE1'.go z2 t2
  clear z2 t2
  obtain ⟨W6, eW6⟩ : ∃ W6, W6 = w5.alloc (.cells #[.int .i64 (4), .int .i64 (0), .string (x)] 48) := ⟨_, rfl⟩
  obtain ⟨B6, eB6⟩ : ∃ B6, B6 = w5.heap.size := ⟨_, rfl⟩
  obtain ⟨u6, w6, r6, f6⟩ := hE5.lit (4) (0) (x) eW6 eB6 (by have := HLn.out; simp only [List.length_append] at *; omega)
  have HW6 := hide eW6
  have HB6 := hide eB6
  have HR6 := hide r6
  have HF6 := hide f6
  clear eW6 eB6 r6 f6 hE5
  go_wp2_with (at_builtin; rw [← HW6.out, ← HB6.out]; refine wpList_appG rfl _ _ _ rfl _ _ u6 w6 rfl rfl HR6.out ?_)
  go_ret
  have hF := HF6.out
  rw [List.append_assoc] at hF
  exact hF
 ·have hi : isS (tokT C.l) [41] z = false := by
   rcases hor with h | h
   ·exact absurd h (by decide)
   ·exact h
  have hlb : (xs.length : Int) + (b1.length : Int) ≤ 1000000 := by
   have h1 := HLn.out
   rcases hst with ⟨-, rfl, -, -⟩ | ⟨-, hq⟩
   ·(try simp only [List.nil_append] at h1); omega
   ·have := hq.acc; simp only [PT.acc, PR.sz, List.nil_append] at this; omega
  have HStE : Hid ((isS (tokT C.l) [44] z1 = false ∧ b = b1 ∧ kk = 1 ∧ s1 = z1) ∨ (isS (tokT C.l) [44] z1 = true ∧ Pa (tokT C.l) k1 (.al 1 b1) z1.ad (.a b kk) s1)) := hst
  have HDz : Hid (Dm (tokT C.l) z1 (clS (tokT C.l) [41] s1)) := by
   rcases hst with ⟨-, -, -, rfl⟩ | ⟨hq, hr⟩
   ·exact dm_cl _ _
   ·exact (Dm.no (is_nd hq).1)
  have HC1 := hide (HEx.out w1 z v xs b1 z1 hpe.up hE1 (by omega))
  clear hst hpe HEn hE0 HPp hor
  refine (HSe.out w1 _ [41] (by decide) hE1.st).mono ?_
  rintro e w9 ⟨rfl, hw⟩
  rw [hw, hi]
  clear hw
  go_wp2_with fail
  refine (HC1.out).mono (fun e w2 hg => ?_)
  rcases hg.symm with hd | ⟨-, u2, rfl, hn⟩
  ·have HF : Hid (NdI C m w B v (xs ++ (b ++ [⟨4, kk, x⟩])) (clS (tokT C.l) [41] s1) e w2) := hE1.die hd (HDz.out)
   obtain ⟨-, rfl, -⟩ := hd
   unfold flt at *
   go_wp2_with fail
   exact ⟨rfl, HF.out⟩
  have hE2 := hE1.then hn
  clear hn
  go_wp2_with fail
  have HE2 := hide hE2
  clear hE2 hE1 HC1 hi hlb
  go_loopg [1, 7] k1 (fun gk u cn wr => ∃ (o : List Nd) (q : Nat) (y : PS), gk ≤ k1 ∧ 1 ≤ q ∧ q + gk ≤ k1 + 1 ∧ cn = .int .i64 (q : Int) ∧ ((isS (tokT C.l) [44] y = false ∧ b = o ∧ kk = (q : Int) ∧ s1 = y) ∨ (isS (tokT C.l) [44] y = true ∧ Pa (tokT C.l) gk (.al (q : Int) o) y.ad (.a b kk) s1)) ∧ EB C m B w v wr u (xs ++ o) y)
  case atStart => exact ⟨b1, 1, z1, Nat.le_refl _, Nat.le_refl _, by omega, rfl, HStE.out, HE2.out⟩
  case round =>
   clear HE2 HStE HDz
   obtain ⟨o, q, y, hgk, hq1, hqk, rfl, hst, hE⟩ := hrel
   have HS2 := hide (HSk.out _ _ hE.st)
   have HEe := hide hE
   clear hE
   go_wp2_with fail
   refine (HS2.out).mono (fun e w3 hg => ?_)
   rcases hst with ⟨hi, rfl, rfl, rfl⟩ | ⟨hi, hp⟩
   ·rcases hg with ⟨-, rfl, hw⟩ | ⟨hi2, -⟩
    ·have hE3 := HEe.out
     rw [← hw] at hE3
     clear HEe HS2 hw
     go_wp2_with fail
     have HL5 := hide (HLe.out w3 _ [41] (by decide) hE3.st (by exact HOp.out))
     refine (HL5.out).mono (fun e w5 hg => ?_)
     rcases hg.symm with hd | ⟨-, rfl, z2, t2⟩
     ·have HF : Hid (NdI C m w B v (xs ++ (b ++ [⟨4, (q : Int), x⟩])) (clS (tokT C.l) [41] s1) e w5) := hE3.die hd (Dm.refl _)
      obtain ⟨-, rfl, -⟩ := hd
      unfold flt at *
      go_wp2_with fail
      exact ⟨rfl, HF.out⟩
     have hE5 := hE3.go z2 t2
     clear z2 t2
     obtain ⟨W6, eW6⟩ : ∃ W6, W6 = w5.alloc (.cells #[.int .i64 (4), .int .i64 ((q : Int)), .string (x)] 48) := ⟨_, rfl⟩
     obtain ⟨B6, eB6⟩ : ∃ B6, B6 = w5.heap.size := ⟨_, rfl⟩
     obtain ⟨u6, w6, r6, f6⟩ := hE5.lit (4) ((q : Int)) (x) eW6 eB6 (by have := HLn.out; simp only [List.length_append] at *; omega)
     have HW6 := hide eW6
     have HB6 := hide eB6
     have HR6 := hide r6
     have HF6 := hide f6
     clear eW6 eB6 r6 f6 hE5
     go_wp2_with (at_builtin; rw [← HW6.out, ← HB6.out]; refine wpList_appG rfl _ _ _ rfl _ _ u6 w6 rfl rfl HR6.out ?_)
     go_ret
     have hF := HF6.out
     rw [List.append_assoc] at hF
     exact hF
    ·rw [hi] at hi2; cases hi2
   ·rcases hg with ⟨hi2, -⟩ | ⟨-, hg⟩
    ·rw [hi] at hi2; cases hi2
    ·have HPd := hide hp.dm
     rcases hg.symm with hd | ⟨-, rfl, z3, t3⟩
     ·have HF : Hid (NdI C m w B v (xs ++ (b ++ [⟨4, kk, x⟩])) (clS (tokT C.l) [41] s1) e w3) := HEe.out.die hd (HPd.out.trans (dm_cl _ _))
      obtain ⟨-, rfl, -⟩ := hd
      unfold flt at *
      go_wp2_with fail
      exact ⟨rfl, HF.out⟩
     have hE3 := HEe.out.go z3 t3
     rcases al_inv hp with ⟨h0, -⟩ | ⟨-, h0, -⟩ | ⟨-, -, k2, b2, z2, rfl, hpe, hst⟩
     ·exact absurd (al_er hE3.st.al) h0
     ·exact absurd (by omega) h0
     have hlb : (xs ++ o).length + b2.length ≤ 1000000 := by
      have h1 := HLn.out
      rw [List.length_append]
      rcases hst with ⟨-, rfl, -, -⟩ | ⟨-, hq⟩
      ·rw [List.length_append] at h1; omega
      ·have := hq.acc; simp only [PT.acc, PR.sz, List.length_append] at this; omega
     have hk2 : k2 ≤ k1 + 1 := by omega
     have HC3 := hide (HEx.out w3 _ _ (xs ++ o) b2 z2 (Pa.ups hk2 hpe) hE3 hlb)
     have HDz : Hid (Dm (tokT C.l) z2 (clS (tokT C.l) [41] s1)) := by
      rcases hst with ⟨-, -, -, rfl⟩ | ⟨hq, hr⟩
      ·exact dm_cl _ _
      ·exact (Dm.no (is_nd hq).1)
     have HRel : Hid (∀ W u, EB C m B w v W u (xs ++ o ++ b2) z2 → ∃ (o' : List Nd) (q' : Nat) (y' : PS), k2 ≤ k1 ∧ 1 ≤ q' ∧ q' + k2 ≤ k1 + 1 ∧ Value.int .i64 ((q : Int) + 1) = .int .i64 (q' : Int) ∧ ((isS (tokT C.l) [44] y' = false ∧ b = o' ∧ kk = (q' : Int) ∧ s1 = y') ∨ (isS (tokT C.l) [44] y' = true ∧ Pa (tokT C.l) k2 (.al (q' : Int) o') y'.ad (.a b kk) s1)) ∧ EB C m B w v W u (xs ++ o') y') := fun W u h => ⟨o ++ b2, q + 1, z2, by omega, by omega, by omega, by push_cast; rfl, by push_cast; exact hst, by rw [← List.append_assoc]; exact h⟩
     have hqb : (q : Int) ≤ 1000001 := by omega
     clear hst hpe hp z3 t3 hlb HS2 HEe HPd
     go_wp2_with fail
     refine (HC3.out).mono (fun e w4 hg => ?_)
     rcases hg.symm with hd | ⟨-, u4, rfl, hn⟩
     ·have HF : Hid (NdI C m w B v (xs ++ (b ++ [⟨4, kk, x⟩])) (clS (tokT C.l) [41] s1) e w4) := hE3.die hd (HDz.out)
      obtain ⟨-, rfl, -⟩ := hd
      unfold flt at *
      go_wp2_with fail
      exact ⟨rfl, HF.out⟩
     have hE4 := hE3.then hn
     clear hn
     go_wp2_with fail
     have HE4 := hide hE4
     clear hE4 hE3 HC3
     go_roundg k2
     case measure => omega
     case rel => exact HRel.out _ _ HE4.out
end
section
open Go.RowKit
def UsI (C : RC) (n : Nat) : Prop := ∀ (w : World) (m : TV) (B : Nat) (z : PS) (nm : ByteArray) (v : Value) (xs a : List Nd) (s' : PS),
 ((isS (tokT C.l) [91] z = true ∧ ∃ b, Pa (tokT C.l) n (.pr [91] [93]) z (.n b) s' ∧ a = b ++ [⟨3, 0, nm⟩]) ∨ (isS (tokT C.l) [91] z = false ∧ isS (tokT C.l) [40] z = true ∧ Pa (tokT C.l) n (.ar nm) z (.n a) s') ∨ (isS (tokT C.l) [91] z = false ∧ isS (tokT C.l) [40] z = false ∧ a = [⟨2, 0, nm⟩] ∧ s' = z)) →
 RSt C m w z → NRow B w v xs → C.P + 1 < B → B ≤ w.heap.size → xs.length + a.length ≤ 1000000 → Calls Tryz.prog 203 #[.pointer (some ⟨C.P, 0, none⟩), v, .string nm] w (NdI C m w B v (xs ++ a) s')
set_option maxRecDepth 100000 in
set_option maxHeartbeats 4000000 in
theorem usI_of {C : RC} (HN : NxI C) {n : Nat} (hE : ExI C n) (hC : CallI C n) : UsI C n := by
 intro w m B z nm v xs a s' hcs hS hr hPB hBw hl
 have hE0 := EB.start hS hr hPB hBw
 have HSe : Hid (∀ W z x, fixB x = true → RSt C m W z → Calls Tryz.prog 94 #[.pointer (some ⟨C.P, 0, none⟩), .string (tx x)] W fun e w' => e = .returned (.bool (isS (tokT C.l) x z)) ∧ w' = W) := fun W z x hx h => sees_any h x hx
 have HLe : Hid (∀ W z y, fixB y = true → RSt C m W z → 1 ≤ z.op → Calls Tryz.prog 130 #[.pointer (some ⟨C.P, 0, none⟩), .string (tx y)] W (Go1 C m W (clS (tokT C.l) y z) (.tuple #[]))) := fun W z y hy h ho => leave_any HN h ho y hy
 have HEx : Hid (∀ W z u ys b z1, Pa (tokT C.l) n (.e 1) z (.n b) z1 → EB C m B w v W u ys z → ys.length + b.length ≤ 1000000 → Calls Tryz.prog 195 #[.pointer (some ⟨C.P, 0, none⟩), u] W (NdI C m W B u (ys ++ b) z1)) := fun W z u ys b z1 hp h hl => hE W m B z u ys b z1 hp h.st h.row h.pb h.le hl
 have HEn : Hid (∀ W z y, fixB y = true → RSt C m W z → Calls Tryz.prog 128 #[.pointer (some ⟨C.P, 0, none⟩), .string (tx y)] W (Go1 C m W (opS (tokT C.l) y z) (.tuple #[]))) := fun W z y hy h => enter_any HN h y hy
 have HCa : Hid (∀ W, EB C m B w v W v xs z → Pa (tokT C.l) n (.ar nm) z (.n a) s' → Calls Tryz.prog 194 #[.pointer (some ⟨C.P, 0, none⟩), v, .string nm] W (NdI C m W B v (xs ++ a) s')) := fun W h hp => hC W m B z nm v xs a s' hp h.st h.row h.pb h.le hl
 clear hS hr hPB hBw hE HN hC
 rcases hcs with ⟨hi, b, hp, rfl⟩ | ⟨hi, hj, hp⟩ | ⟨hi, hj, rfl, rfl⟩
 ·have hinv := pr_inv' hp
  simp only [List.length_append, List.length_singleton] at hl
  clear hp
  go_enter Tryz.func203, Tryz.ntmps203
  go_wp2_with fail
  refine (HSe.out w _ [91] (by decide) hE0.st).mono ?_
  rintro e w9 ⟨rfl, hw⟩
  rw [hw, hi]
  clear hw
  go_wp2_with fail
  have HE1 := hide (HEn.out w _ [91] (by decide) hE0.st)
  have HD0 : Hid (Dm (tokT C.l) (opS (tokT C.l) [91] z) s') := by
   rcases hinv with ⟨-, -, e⟩ | ⟨-, z1, h1, e⟩
   ·rw [e]; exact dm_cl _ _
   ·rw [e]; exact h1.dm.trans (dm_cl _ _)
  have HOp : Hid ((opS (tokT C.l) [91] z).op = z.op + 1) := on_op _ _
  have hzo := hE0.st.op.1
  refine (HE1.out).mono (fun e w2 hg => ?_)
  rcases hg.symm with hd | ⟨-, rfl, z2, t2⟩
  ·have HF : Hid (NdI C m w B v (xs ++ (b ++ [⟨3, 0, nm⟩])) s' e w2) := hE0.die hd (HD0.out)
   obtain ⟨-, rfl, -⟩ := hd
   unfold flt at *
   go_wp2_with fail
   exact ⟨rfl, HF.out⟩
  have hE2 := hE0.go z2 t2
  clear z2 t2
  go_wp2_with fail
  rcases hinv with ⟨h0, -, -⟩ | ⟨h0, z1, hp1, rfl⟩
  ·exact absurd (al_er hE2.st.al) h0
  have HO1 : Hid (z1.op = z.op + 1) := hp1.op.trans HOp.out
  have HC2 := hide (HEx.out w2 _ _ _ b z1 hp1 hE2 (by omega))
  clear hp1
  refine (HC2.out).mono (fun e w3 hg => ?_)
  rcases hg.symm with hd | ⟨-, u3, rfl, hn⟩
  ·have HF : Hid (NdI C m w B v (xs ++ (b ++ [⟨3, 0, nm⟩])) (clS (tokT C.l) [93] z1) e w3) := hE2.die hd (dm_cl _ _)
   obtain ⟨-, rfl, -⟩ := hd
   unfold flt at *
   go_wp2_with fail
   exact ⟨rfl, HF.out⟩
  have hE3 := hE2.then hn
  clear hn
  go_wp2_with fail
  have HL3 := hide (HLe.out w3 _ [93] (by decide) hE3.st (by rw [HO1.out]; omega))
  refine (HL3.out).mono (fun e w4 hg => ?_)
  rcases hg.symm with hd | ⟨-, rfl, z2, t2⟩
  ·have HF : Hid (NdI C m w B v (xs ++ (b ++ [⟨3, 0, nm⟩])) (clS (tokT C.l) [93] z1) e w4) := hE3.die hd (Dm.refl _)
   obtain ⟨-, rfl, -⟩ := hd
   unfold flt at *
   go_wp2_with fail
   exact ⟨rfl, HF.out⟩
  have hE4 := hE3.go z2 t2
  clear z2 t2
  obtain ⟨W6, eW6⟩ : ∃ W6, W6 = w4.alloc (.cells #[.int .i64 (3), .int .i64 (0), .string (nm)] 48) := ⟨_, rfl⟩
  obtain ⟨B6, eB6⟩ : ∃ B6, B6 = w4.heap.size := ⟨_, rfl⟩
  obtain ⟨u6, w6, r6, f6⟩ := hE4.lit (3) (0) (nm) eW6 eB6 (by simp only [List.length_append]; omega)
  have HW6 := hide eW6
  have HB6 := hide eB6
  have HR6 := hide r6
  have HF6 := hide f6
  clear eW6 eB6 r6 f6 hE4
  go_wp2_with (at_builtin; rw [← HW6.out, ← HB6.out]; refine wpList_appG rfl _ _ _ rfl _ _ u6 w6 rfl rfl HR6.out ?_)
  go_ret
  have hF := HF6.out
  rw [List.append_assoc] at hF
  exact hF
 ·have HC := hide (HCa.out w hE0 hp)
  clear hp
  go_enter Tryz.func203, Tryz.ntmps203
  go_wp2_with fail
  refine (HSe.out w _ [91] (by decide) hE0.st).mono ?_
  rintro e w9 ⟨rfl, hw⟩
  rw [hw, hi]
  clear hw
  go_wp2_with fail
  refine (HSe.out w _ [40] (by decide) hE0.st).mono ?_
  rintro e w9 ⟨rfl, hw⟩
  rw [hw, hj]
  clear hw
  go_wp2_with fail
  refine (HC.out).mono (fun e w2 hg => ?_)
  rcases hg.symm with hd | ⟨-, u2, rfl, hn⟩
  ·have HF : Hid (NdI C m w B v (xs ++ a) s' e w2) := hE0.die hd (Dm.refl _)
   obtain ⟨-, rfl, -⟩ := hd
   unfold flt at *
   go_wp2_with fail
   exact ⟨rfl, HF.out⟩
  have hE2 := hE0.then hn
  clear hn
  go_wp2_with fail
  have HF := hide hE2.fin
  go_ret
  exact HF.out
 ·go_enter Tryz.func203, Tryz.ntmps203
  go_wp2_with fail
  refine (HSe.out w _ [91] (by decide) hE0.st).mono ?_
  rintro e w9 ⟨rfl, hw⟩
  rw [hw, hi]
  clear hw
  go_wp2_with fail
  refine (HSe.out w _ [40] (by decide) hE0.st).mono ?_
  rintro e w9 ⟨rfl, hw⟩
  rw [hw, hj]
  clear hw
  obtain ⟨W6, eW6⟩ : ∃ W6, W6 = w.alloc (.cells #[.int .i64 (2), .int .i64 (0), .string (nm)] 48) := ⟨_, rfl⟩
  obtain ⟨B6, eB6⟩ : ∃ B6, B6 = w.heap.size := ⟨_, rfl⟩
  obtain ⟨u6, w6, r6, f6⟩ := hE0.lit (2) (0) (nm) eW6 eB6 (by simp only [List.length_singleton] at hl; omega)
  have HW6 := hide eW6
  have HB6 := hide eB6
  have HR6 := hide r6
  have HF6 := hide f6
  clear eW6 eB6 r6 f6 hE0
  go_wp2_with (at_builtin; rw [← HW6.out, ← HB6.out]; refine wpList_appG rfl _ _ _ rfl _ _ u6 w6 rfl rfl HR6.out ?_)
  go_ret
  exact HF6.out
theorem ki_fix {C : RC} {m : TV} {w : World} {s : PS} (h : RSt C m w s) {x : List UInt8} (hx : fixB x = true) (hi : isS (tokT C.l) x s = true) : kiI (tokT C.l s.i) = 3 := by
 obtain ⟨tt, vl, hb, h1, -⟩ := h.bx
 have hs := sees_is (l := C.l) (s := s) (al_er h.al) hx (tt := tt) (fun h3 => h1 (.inr h3))
 rw [hi] at hs
 simp only [Bool.and_eq_true, decide_eq_true_eq] at hs
 exact hs.1
def PrI (C : RC) (n : Nat) : Prop := ∀ (w : World) (m : TV) (B : Nat) (s : PS) (v : Value) (xs a : List Nd) (s' : PS),
 ((isS (tokT C.l) [40] s = true ∧ Pa (tokT C.l) n (.pr [40] [41]) s (.n a) s') ∨
    (isS (tokT C.l) [40] s = false ∧ isS (tokT C.l) [105, 110] s = true ∧ a = [⟨5, 0, tx []⟩] ∧ s' = clS (tokT C.l) [41] (opS (tokT C.l) [40] s.ad)) ∨
    (isS (tokT C.l) [40] s = false ∧ isS (tokT C.l) [105, 110] s = false ∧ s.er = 0 ∧ (tokT C.l s.i).kind = 2 ∧ a = [⟨1, (tokT C.l s.i).num, tx []⟩] ∧ s' = s.ad) ∨
    (isS (tokT C.l) [40] s = false ∧ isS (tokT C.l) [105, 110] s = false ∧ ¬ (s.er = 0 ∧ (tokT C.l s.i).kind = 2) ∧ (
      (isS (tokT C.l) [91] (naS (tokT C.l) s).2 = true ∧ ∃ b, Pa (tokT C.l) n (.pr [91] [93]) (naS (tokT C.l) s).2 (.n b) s' ∧ a = b ++ [⟨3, 0, (naS (tokT C.l) s).1⟩]) ∨
      (isS (tokT C.l) [91] (naS (tokT C.l) s).2 = false ∧ isS (tokT C.l) [40] (naS (tokT C.l) s).2 = true ∧ Pa (tokT C.l) n (.ar (naS (tokT C.l) s).1) (naS (tokT C.l) s).2 (.n a) s') ∨
      (isS (tokT C.l) [91] (naS (tokT C.l) s).2 = false ∧ isS (tokT C.l) [40] (naS (tokT C.l) s).2 = false ∧ a = [⟨2, 0, (naS (tokT C.l) s).1⟩] ∧ s' = (naS (tokT C.l) s).2)))) →
 RSt C m w s → NRow B w v xs → C.P + 1 < B → B ≤ w.heap.size → xs.length + a.length ≤ 1000000 → Calls Tryz.prog 202 #[.pointer (some ⟨C.P, 0, none⟩), v] w (NdI C m w B v (xs ++ a) s')
set_option maxRecDepth 100000 in
set_option maxHeartbeats 4000000 in
theorem prI_of {C : RC} (HN : NxI C) {n : Nat} (hE : ExI C n) (hU : UsI C n) : PrI C n := by
 intro w m B s v xs a s' hcs hS hr hPB hBw hl
 have hE0 := EB.start hS hr hPB hBw
 have HLe : Hid (∀ W z y, fixB y = true → RSt C m W z → 1 ≤ z.op → Calls Tryz.prog 130 #[.pointer (some ⟨C.P, 0, none⟩), .string (tx y)] W (Go1 C m W (clS (tokT C.l) y z) (.tuple #[]))) := fun W z y hy h ho => leave_any HN h ho y hy
 have HEx : Hid (∀ W z u ys b z1, Pa (tokT C.l) n (.e 1) z (.n b) z1 → EB C m B w v W u ys z → ys.length + b.length ≤ 1000000 → Calls Tryz.prog 195 #[.pointer (some ⟨C.P, 0, none⟩), u] W (NdI C m W B u (ys ++ b) z1)) := fun W z u ys b z1 hp h hl => hE W m B z u ys b z1 hp h.st h.row h.pb h.le hl
 have HEn : Hid (∀ W z y, fixB y = true → RSt C m W z → Calls Tryz.prog 128 #[.pointer (some ⟨C.P, 0, none⟩), .string (tx y)] W (Go1 C m W (opS (tokT C.l) y z) (.tuple #[]))) := fun W z y hy h => enter_any HN h y hy
 have HSk := hide (skip_any HN hS [105, 110] (by decide))
 have p2 := hS.cki
 rcases hcs with ⟨hi, hp⟩ | ⟨hi, hj, rfl, rfl⟩ | ⟨hi, hj, h0, h2, rfl, rfl⟩ | ⟨hi, hj, hn, hcs⟩
 ·rw [ki_fix hS (by decide) hi] at p2
  have hj : isS (tokT C.l) [105, 110] s = false := is_two hi (by decide)
  have hinv := pr_inv' hp
  obtain ⟨b, rfl⟩ : ∃ b, b = a := ⟨_, rfl⟩
  clear hp hS hr hPB hBw hE HN hU
  go_enter Tryz.func202, Tryz.ntmps202
  go_wp2_with fail
  refine HSk.out.mono (fun e w1 hg => ?_)
  rcases hg with ⟨-, rfl, hw⟩ | ⟨hj2, -⟩
  ·rw [hw]
   clear hw HSk
   go_wp2_with fail
   have HE1 := hide (HEn.out w _ [40] (by decide) hE0.st)
   have HD0 : Hid (Dm (tokT C.l) (opS (tokT C.l) [40] s) s') := by
    rcases hinv with ⟨-, -, e⟩ | ⟨-, z1, h1, e⟩
    ·rw [e]; exact dm_cl _ _
    ·rw [e]; exact h1.dm.trans (dm_cl _ _)
   have HOp : Hid ((opS (tokT C.l) [40] s).op = s.op + 1) := on_op _ _
   have hzo := hE0.st.op.1
   refine (HE1.out).mono (fun e w2 hg => ?_)
   rcases hg.symm with hd | ⟨-, rfl, z2, t2⟩
   ·have HF : Hid (NdI C m w B v (xs ++ b) s' e w2) := hE0.die hd (HD0.out)
    obtain ⟨-, rfl, -⟩ := hd
    unfold flt at *
    go_wp2_with fail
    exact ⟨rfl, HF.out⟩
   have hE2 := hE0.go z2 t2
   clear z2 t2
   go_wp2_with fail
   rcases hinv with ⟨h0, -, -⟩ | ⟨h0, z1, hp1, rfl⟩
   ·exact absurd (al_er hE2.st.al) h0
   have HO1 : Hid (z1.op = s.op + 1) := hp1.op.trans HOp.out
   have HC2 := hide (HEx.out w2 _ _ _ b z1 hp1 hE2 (by omega))
   clear hp1
   refine (HC2.out).mono (fun e w3 hg => ?_)
   rcases hg.symm with hd | ⟨-, u3, rfl, hn⟩
   ·have HF : Hid (NdI C m w B v (xs ++ b) (clS (tokT C.l) [41] z1) e w3) := hE2.die hd (dm_cl _ _)
    obtain ⟨-, rfl, -⟩ := hd
    unfold flt at *
    go_wp2_with fail
    exact ⟨rfl, HF.out⟩
   have hE3 := hE2.then hn
   clear hn
   go_wp2_with fail
   have HL3 := hide (HLe.out w3 _ [41] (by decide) hE3.st (by rw [HO1.out]; omega))
   refine (HL3.out).mono (fun e w4 hg => ?_)
   rcases hg.symm with hd | ⟨-, rfl, z2, t2⟩
   ·have HF : Hid (NdI C m w B v (xs ++ b) (clS (tokT C.l) [41] z1) e w4) := hE3.die hd (Dm.refl _)
    obtain ⟨-, rfl, -⟩ := hd
    unfold flt at *
    go_wp2_with fail
    exact ⟨rfl, HF.out⟩
   have hE4 := hE3.go z2 t2
   clear z2 t2
   go_wp2_with fail
   have HF := hide hE4.fin
   go_ret
   exact HF.out
  ·rw [hj] at hj2; cases hj2
 ·rw [ki_fix hS (by decide) hj] at p2
  have hso := hS.op.1
  have HOp : Hid ((opS (tokT C.l) [40] s.ad).op = s.op + 1) := (on_op _ _).trans rfl
  clear hS hr hPB hBw hE HN hU HEx
  go_enter Tryz.func202, Tryz.ntmps202
  go_wp2_with fail
  refine HSk.out.mono (fun e w1 hg => ?_)
  rcases hg with ⟨hj2, -⟩ | ⟨-, hg⟩
  ·rw [hj] at hj2; cases hj2
  rcases hg.symm with hd | ⟨-, rfl, z2, t2⟩
  ·have HF : Hid (NdI C m w B v (xs ++ [⟨5, 0, tx []⟩]) (clS (tokT C.l) [41] (opS (tokT C.l) [40] s.ad)) e w1) := hE0.die hd ((dm_on _ _).trans (dm_cl _ _))
   obtain ⟨-, rfl, -⟩ := hd
   unfold flt at *
   go_wp2_with fail
   exact ⟨rfl, HF.out⟩
  have hE1 := hE0.go z2 t2
  clear z2 t2 HSk
  have HE1 := hide (HEn.out w1 _ [40] (by decide) hE1.st)
  go_wp2_with fail
  refine (HE1.out).mono (fun e w2 hg => ?_)
  rcases hg.symm with hd | ⟨-, rfl, z2, t2⟩
  ·have HF : Hid (NdI C m w B v (xs ++ [⟨5, 0, tx []⟩]) (clS (tokT C.l) [41] (opS (tokT C.l) [40] s.ad)) e w2) := hE1.die hd (dm_cl _ _)
   obtain ⟨-, rfl, -⟩ := hd
   unfold flt at *
   go_wp2_with fail
   exact ⟨rfl, HF.out⟩
  have hE2 := hE1.go z2 t2
  clear z2 t2
  go_wp2_with fail
  have HL3 := hide (HLe.out w2 _ [41] (by decide) hE2.st (by rw [HOp.out]; omega))
  refine (HL3.out).mono (fun e w4 hg => ?_)
  rcases hg.symm with hd | ⟨-, rfl, z2, t2⟩
  ·have HF : Hid (NdI C m w B v (xs ++ [⟨5, 0, tx []⟩]) (clS (tokT C.l) [41] (opS (tokT C.l) [40] s.ad)) e w4) := hE2.die hd (Dm.refl _)
   obtain ⟨-, rfl, -⟩ := hd
   unfold flt at *
   go_wp2_with fail
   exact ⟨rfl, HF.out⟩
  have hE4 := hE2.go z2 t2
  clear z2 t2
  obtain ⟨W6, eW6⟩ : ∃ W6, W6 = w4.alloc (.cells #[.int .i64 (5), .int .i64 (0), .string (⟨#[]⟩)] 48) := ⟨_, rfl⟩
  obtain ⟨B6, eB6⟩ : ∃ B6, B6 = w4.heap.size := ⟨_, rfl⟩
  obtain ⟨u6, w6, r6, f6⟩ := hE4.lit (5) (0) (⟨#[]⟩) eW6 eB6 (by simp only [List.length_singleton] at hl; omega)
  have HW6 := hide eW6
  have HB6 := hide eB6
  have HR6 := hide r6
  have HF6 := hide f6
  clear eW6 eB6 r6 f6 hE4
  go_wp2_with (at_builtin; rw [← HW6.out, ← HB6.out]; refine wpList_appG rfl _ _ _ rfl _ _ u6 w6 rfl rfl HR6.out ?_)
  go_ret
  exact HF6.out
 ·have hki : kiI (tokT C.l s.i) = 2 := (ki_num (tokT_kind C.l s.i).1).2 h2
  rw [hki] at p2
  have HNu := hide (numI_any HN hS)
  rw [nu_yes h0 h2] at HNu
  generalize (tokT C.l s.i).num = nv at *
  clear hS hr hPB hBw hE HN hU HEx HSk
  go_enter Tryz.func202, Tryz.ntmps202
  go_wp2_with fail
  refine (HNu.out).mono (fun e w1 hg => ?_)
  rcases hg.symm with hd | ⟨-, rfl, z2, t2⟩
  ·have HF : Hid (NdI C m w B v (xs ++ [⟨1, nv, tx []⟩]) s.ad e w1) := hE0.die hd (Dm.refl _)
   obtain ⟨-, rfl, -⟩ := hd
   unfold flt at *
   go_wp2_with fail
   exact ⟨rfl, HF.out⟩
  have hE1 := hE0.go z2 t2
  clear z2 t2
  obtain ⟨W6, eW6⟩ : ∃ W6, W6 = w1.alloc (.cells #[.int .i64 (1), .int .i64 (nv), .string (⟨#[]⟩)] 48) := ⟨_, rfl⟩
  obtain ⟨B6, eB6⟩ : ∃ B6, B6 = w1.heap.size := ⟨_, rfl⟩
  obtain ⟨u6, w6, r6, f6⟩ := hE1.lit (1) (nv) (⟨#[]⟩) eW6 eB6 (by simp only [List.length_singleton] at hl; omega)
  have HW6 := hide eW6
  have HB6 := hide eB6
  have HR6 := hide r6
  have HF6 := hide f6
  clear eW6 eB6 r6 f6 hE1
  go_wp2_with (at_builtin; rw [← HW6.out, ← HB6.out]; refine wpList_appG rfl _ _ _ rfl _ _ u6 w6 rfl rfl HR6.out ?_)
  go_ret
  exact HF6.out
 ·have hn2 : kiI (tokT C.l s.i) ≠ 2 := fun e => hn ⟨al_er hS.al, (ki_num (tokT_kind C.l s.i).1).1 e⟩
  have e2 : (kiI (tokT C.l s.i) == 2) = false := by simpa using hn2
  by_cases h1 : kiI (tokT C.l s.i) = 1
  ·rw [h1] at p2
   have HNa := hide (nameI_any HN hS)
   have HUs : Hid (∀ W, EB C m B w v W v xs (naS (tokT C.l) s).2 → Calls Tryz.prog 203 #[.pointer (some ⟨C.P, 0, none⟩), v, .string (naS (tokT C.l) s).1] W (NdI C m W B v (xs ++ a) s')) := fun W h => hU W m B _ _ v xs a s' hcs h.st h.row h.pb h.le hl
   have HDm : Hid (Dm (tokT C.l) (naS (tokT C.l) s).2 s') := by
    rcases hcs with ⟨-, b, hp, -⟩ | ⟨-, -, hp⟩ | ⟨-, -, -, rfl⟩
    ·exact hp.dm
    ·exact hp.dm
    ·exact Dm.refl _
   clear hcs hS hr hPB hBw hE HN hU HEx HSk hn hn2 e2 h1
   generalize naS (tokT C.l) s = nz at *
   obtain ⟨nm, z⟩ := nz
   dsimp only at *
   go_enter Tryz.func202, Tryz.ntmps202
   go_wp2_with fail
   refine (HNa.out).mono (fun e w1 hg => ?_)
   rcases hg.symm with hd | ⟨-, rfl, z2, t2⟩
   ·have HF : Hid (NdI C m w B v (xs ++ a) s' e w1) := hE0.die hd (HDm.out)
    obtain ⟨-, rfl, -⟩ := hd
    unfold flt at *
    go_wp2_with fail
    exact ⟨rfl, HF.out⟩
   have hE1 := hE0.go z2 t2
   clear z2 t2
   go_wp2_with fail
   have HU1 := hide (HUs.out w1 hE1)
   refine (HU1.out).mono (fun e w2 hg => ?_)
   rcases hg.symm with hd | ⟨-, u2, rfl, hn⟩
   ·have HF : Hid (NdI C m w B v (xs ++ a) s' e w2) := hE1.die hd (Dm.refl _)
    obtain ⟨-, rfl, -⟩ := hd
    unfold flt at *
    go_wp2_with fail
    exact ⟨rfl, HF.out⟩
   have hE2 := hE1.then hn
   clear hn
   go_wp2_with fail
   have HF := hide hE2.fin
   go_ret
   exact HF.out
  ·have e1 : (kiI (tokT C.l s.i) == 1) = false := by simpa using h1
   have hnm := nm_is (l := C.l) (s := s) (al_er hS.al)
   rw [decide_eq_false h1] at hnm
   obtain ⟨d1, d2⟩ := na_no hS.al hnm
   obtain ⟨d3, d4⟩ := on_no hS.al hi
   have HDm : Hid (Dm (tokT C.l) (opS (tokT C.l) [40] s) s') := fun _ => by
    have hx : Dm (tokT C.l) (naS (tokT C.l) s).2 s' := by
     rcases hcs with ⟨-, b, hp, -⟩ | ⟨-, -, hp⟩ | ⟨-, -, -, rfl⟩
     ·exact hp.dm
     ·exact hp.dm
     ·exact Dm.refl _
    obtain ⟨q1, q2⟩ := hx d1
    exact ⟨q1, by rw [q2, d2, d4]⟩
   have HE1 := hide (HEn.out w _ [40] (by decide) hS)
   have HNo := hide d3
   generalize kiI (tokT C.l s.i) = ki at *
   clear hcs hS hr hPB hBw hE HN hU HEx hn hn2 h1 hnm d1 d2 d3 d4
   go_enter Tryz.func202, Tryz.ntmps202
   go_wp2_with fail
   refine HSk.out.mono (fun e w1 hg => ?_)
   rcases hg with ⟨-, rfl, hw⟩ | ⟨hj2, -⟩
   ·rw [hw]
    clear hw HSk
    go_wp2_with fail
    refine HE1.out.mono (fun e w2 hg => ?_)
    rcases hg.symm with hd | ⟨hal, -⟩
    ·have HF : Hid (NdI C m w B v (xs ++ a) s' e w2) := hE0.die hd (HDm.out)
     obtain ⟨-, rfl, -⟩ := hd
     unfold flt at *
     go_wp2_with fail
     exact ⟨rfl, HF.out⟩
    ·exact absurd HNo.out hal
   ·rw [hj] at hj2; cases hj2
end
end Go.Proofs.YtlamjfhhefcohaaGreatDoor
