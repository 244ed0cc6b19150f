import Derived.Test.YtlamjfhhefcohaaGreatDoorM44
import Derived.Test.YtlamjfhhefcohaaGreatDoorM23
namespace Go.Proofs.YtlamjfhhefcohaaGreatDoor
set_option linter.unusedVariables false
set_option linter.unusedSimpArgs false
set_option maxRecDepth 100000
set_option maxHeartbeats 16000000
section
open Go.RowKit
set_option maxRecDepth 100000 in
set_option maxHeartbeats 4000000 in
theorem st_if {G : GT} (hL : Las G.T G.K) {n : Nat} (hC : CoC G n) (hB : BlC G n) {w : World} {s : PS} {a : List Nd} {b : List St} {s1 s2 : PS} (hS : PSt G w s) (hop : OpB n s) (hi : isS G.T [105, 102] s = true) (hp : Pa G.T n (.pr [40] [41]) s.ad (.n a) s1) (hb : Pa G.T n .bl s1 (.s b) s2) (hsz : szS (⟨4, tx [], a, [], (b.length : Int), 0⟩ :: b) ≤ 1000000) (he : isS G.T [101, 108, 115, 101] s2 = false) :
  Calls Tryz.prog 83 #[.pointer (some ⟨G.P, 0, none⟩)] w (StA G w (⟨4, tx [], a, [], (b.length : Int), 0⟩ :: b) s2) := by
 have HL := hide hL
 have HPw := hide hS.lt
 have hT := Tcs.refl (fun k => k = G.P) w
 have h1 : isS G.T [105, 110, 116] s = false := is_two hi (by decide)
 have h2 : isS G.T [119, 104, 105, 108, 101] s = false := is_two hi (by decide)
 have hll := szS_len b
 have HCo : Hid (∀ W, PSt G W s.ad → Calls Tryz.prog 118 #[.pointer (some ⟨G.P, 0, none⟩)] W (NdA G W a s1)) := fun W hW => hC W s.ad a s1 hp (by simp only [szS_cons, szS_app] at hsz; omega) hop hW
 have HBl : Hid (∀ W, PSt G W s1 → Calls Tryz.prog 53 #[.pointer (some ⟨G.P, 0, none⟩)] W (StA G W b s2)) := fun W hW => hB W s1 b s2 hb (by simp only [szS_cons, szS_app] at hsz; omega) (OpB.of hop hp.op) hW
 simp only [szS_cons, szS_app] at hsz
 clear hC hB hp hb hop
 go_enter Tryz.func83, Tryz.ntmps83
 go_wp2_with fail
 refine (is_any hS [105, 110, 116]).mono ?_
 rintro e w1 ⟨rfl, hbw1⟩
 rw [h1]
 have hZw1 := PSt.below hS hbw1
 have hTw1 := Tcs.of_below hT hbw1
 clear hbw1
 go_wp2_with fail
 refine (is_any hZw1 [105, 102]).mono ?_
 rintro e w2 ⟨rfl, hbw2⟩
 rw [hi]
 have hZw2 := PSt.below hZw1 hbw2
 have hTw2 := Tcs.of_below hTw1 hbw2
 clear hbw2
 obtain ⟨W3, hW3⟩ : ∃ W3, W3 = w2.alloc (.cells #[.int .i64 4, .string ⟨#[]⟩, .slice none 0 0, .slice none 0 0, .int .i64 0, .int .i64 0] 46) := ⟨_, rfl⟩
 obtain ⟨M, hM⟩ : ∃ M, M = w2.heap.size := ⟨_, rfl⟩
 have h3 := box_new hZw2 hTw2 HPw.out 4 hW3 hM
 have HW3 := hide hW3
 have HM := hide hM
 clear hW3 hM hZw2 hTw2
 go_upto_region 7 with fail
 rw [← HW3.out, ← HM.out]
 go_wp2_with fail
 refine (is_any h3.st [119, 104, 105, 108, 101]).mono ?_
 rintro e w4 ⟨rfl, hbw4⟩
 rw [h2]
 have h4 := h3.below hbw4
 clear hbw4
 obtain ⟨⟨zW5, tW5⟩, q1, f1, hii⟩ := h4.st.adv (is_lt HL.out h4.st.wf hi)
 obtain ⟨W5, eW5⟩ : ∃ W5, W5 = w4.setCell ⟨G.P, 1, none⟩ (.int .i64 ((s.i : Int) + 1)) := ⟨_, rfl⟩
 rw [← eW5] at zW5 tW5
 have h5 := h4.step zW5 tW5
 have HW5 := hide eW5
 clear eW5 zW5 tW5
 go_upto_region 10 with fail
 rw [← HW5.out]
 clear q1 f1 hii
 go_wp2_with fail
 refine (HCo.out W5 h5.st).mono ?_
 rintro e w7 ⟨u7, rfl, hr7, z7, t7⟩
 obtain ⟨ad, cp, rfl, -⟩ := own_shape hr7
 have h7 := h5.step z7 t7
 clear z7 t7
 obtain ⟨X8, eX8⟩ : ∃ X8, X8 = w7.setCell ⟨M, 2, none⟩ (.slice ad a.length cp) := ⟨_, rfl⟩
 obtain ⟨h8, tX⟩ := h7.put 2 (.slice ad a.length cp) eX8
 have c1 := (h7.q (j := 2) rfl).1
 have f1 := (h7.q (j := 2) rfl).2
 simp only [List.set_cons_zero, List.set_cons_succ] at h8
 have HX8 := hide eX8
 clear eX8
 go_upto_region 11 with fail
 rw [← HX8.out]
 clear c1 f1
 have hr8 := h5.row (i := 0) (v := .bool true) hr7 tX
 have hMB := h5.m
 have hPB := h5.t.size
 clear hr7 tX
 go_wp2_with fail
 refine (HBl.out X8 h8.st).mono ?_
 rintro e w11 ⟨u11, rfl, q11, z11, t11⟩
 obtain ⟨ab, cb, rfl⟩ := q11.shape
 have h11 := h8.step z11 t11
 obtain ⟨W12, eW12⟩ : ∃ W12, W12 = w11.alloc (.cells #[] 46) := ⟨_, rfl⟩
 obtain ⟨B12, eB12⟩ : ∃ B12, B12 = w11.heap.size := ⟨_, rfl⟩
 have b12 : Below w11.heap.size w11 W12 := by rw [eW12]; exact (Below.refl _ _).alloc (Nat.le_refl _) _
 have q12 : SQ w11.heap.size W12 (.slice (some ⟨B12, 0, none⟩) 0 0) [] := by rw [eW12, eB12]; exact sq_nil w11 _ (Nat.le_refl _)
 have h12 := h11.below b12
 have HW12 := hide eW12
 have HB12 := hide eB12
 clear z11 eW12 eB12
 have c0 := (h12.q (j := 0) rfl).1
 go_upto_region 13 with fail
 rw [← HW12.out, ← HB12.out]
 go_wp2_with fail
 refine (is_any h12.st [101, 108, 115, 101]).mono ?_
 rintro e w13 ⟨rfl, hbw13⟩
 rw [he]
 have h13 := h12.below hbw13
 have c12 : Tcs (fun k => k = G.P ∨ k = M) W12 w13 := Tcs.of_below (Tcs.refl _ _) hbw13
 obtain ⟨X16, eX16⟩ : ∃ X16, X16 = w13.setCell ⟨M, 4, none⟩ (.int .i64 (b.length : Int)) := ⟨_, rfl⟩
 obtain ⟨h16, t16⟩ := h13.put 4 (.int .i64 (b.length : Int)) eX16
 have c1 := (h13.q (j := 4) rfl).1
 have f1 := (h13.q (j := 4) rfl).2
 simp only [List.set_cons_zero, List.set_cons_succ] at h16
 have HX16 := hide eX16
 clear eX16
 go_upto_region 17 with fail
 rw [← HX16.out]
 clear c1 f1
 obtain ⟨X17, eX17⟩ : ∃ X17, X17 = X16.setCell ⟨M, 5, none⟩ (.int .i64 0) := ⟨_, rfl⟩
 obtain ⟨h17, t17⟩ := h16.put 5 (.int .i64 0) eX17
 have c1 := (h16.q (j := 5) rfl).1
 have f1 := (h16.q (j := 5) rfl).2
 simp only [List.set_cons_zero, List.set_cons_succ] at h17
 have HX17 := hide eX17
 clear eX17
 go_upto_region 18 with fail
 rw [← HX17.out]
 clear c1 f1
 replace c12 := (c12.trans t16.pm2).trans t17.pm2
 obtain ⟨W18, eW18⟩ : ∃ W18, W18 = X17.alloc (.cells #[.int .i64 4, .string ⟨#[]⟩, .slice ad a.length cp, .slice none 0 0, .int .i64 (b.length : Int), .int .i64 (0)] 46) := ⟨_, rfl⟩
 obtain ⟨B18, eB18⟩ : ∃ B18, B18 = X17.heap.size := ⟨_, rfl⟩
 obtain ⟨v1, w1', v2, w2', r1, r2, hF⟩ := if_end _ _ h17 h8 hMB hPB hr8 q11 t11 q12 (Tcs.refl _ _) b12.tcs c12 eW18 (by first | omega | (simp only [List.length_nil]; omega))
 rw [← eB18] at r1
 have HR1 := hide r1
 have HR2 := hide r2
 have HF := hide hF
 have HW18 := hide eW18
 have HB18 := hide eB18
 have q0 := (h17.q (j := 0) rfl).1
 have q1 := (h17.q (j := 1) rfl).1
 have q2 := (h17.q (j := 2) rfl).1
 have q3 := (h17.q (j := 3) rfl).1
 have q4 := (h17.q (j := 4) rfl).1
 have q5 := (h17.q (j := 5) rfl).1
 clear r1 r2 hF eW18 eB18 h17 h8 hr8 q11 t11 c12
 go_wp2_with (at_builtin; first | (refine wpList_appG rfl (.tmp 74) (.tmp 75) _ rfl _ _ v1 w1' rfl rfl (by rw [← HW18.out, ← HB18.out]; exact HR1.out) ?_) | (refine wpList_appG rfl (.tmp 76) (.tmp 77) _ rfl _ _ v2 w2' rfl rfl HR2.out ?_))
 go_ret
 have hF := HF.out
 rw [List.append_nil] at hF
 exact hF
end
section
open Go.RowKit
theorem sg_sz {T : Nat → To} {n : Nat} {t : St} {s : PS} {r : List St} {s' : PS} (h : Pa T n (.sg t) s (.s r) s') (hk : t.kind = 3) : t.e.length ≤ szS r := by
 cases h using Pa_i with
 | sgd n t s h1 => unfold sgE; rw [if_pos hk, szS_cons]; simp only; omega
 | sge n t s a s1 h1 h2 => unfold sgE; rw [if_pos hk, szS_cons]; simp only; omega
theorem stC_step {G : GT} (hL : Las G.T G.K) {n : Nat} (hE : ExC2 G n) (hC : CoC G n) (hBr : BrC G n) (hAr : ArC2 G n) (hB : BlC G n) (hA : AsC G n) : StC2 G (n + 1) := by
 intro w s r s' hP hsz hop hS
 have hop' : OpB n s := hop.le (Nat.le_succ n)
 rcases st_inv hP with ⟨hi, hp⟩ | ⟨hi, a, s1, b, s2, hp, hb, ⟨he, rfl, rfl⟩ | ⟨he, c, hc, rfl⟩⟩ | ⟨hi, a, s1, b, hp, hb, rfl⟩ | ⟨hi, a, s1, hp, rfl, rfl⟩ | ⟨hi, a, s1, hp, rfl, rfl⟩ | ⟨hq, ⟨hc, a, s1, hb, hp⟩ | ⟨hc, hd, a, s1, hp, rfl, rfl⟩ | ⟨hc, hd, hp⟩⟩
 ·exact st_int hL hA hS hop' hsz hi hp
 ·exact st_if hL hC hB hS hop' hi hp hb hsz he
 ·exact st_ifel hL hC hB hS hop' hi hp hb hsz he hc
 ·exact st_while hL hC hB hS hop' hi hp hb hsz
 ·exact st_ret hL hE hS hop' (by rw [szS_cons] at hsz; simp only at hsz; omega) hi hp
 ·exact st_out hL hC hS hop' (by rw [szS_cons] at hsz; simp only at hsz; omega) hi hp
 ·exact st_store hL hBr hA hS hop' hq (Nat.le_trans (sg_sz hp rfl) hsz) hsz hc hb hp
 ·exact st_call hL hAr hS hop' hq (by rw [szS_cons] at hsz; simp only at hsz; omega) hc hd hp
 ·exact st_set hL hA hS hop' hq hsz hc hd hp
theorem all_st {G : GT} (hL : Las G.T G.K) : ∀ n : Nat, StC2 G n ∧ BlC G n ∧ AsC G n
 | 0 => ⟨fun _ _ _ _ h => (by cases h using Pa_i), fun _ _ _ _ h => (by cases h using Pa_i), fun _ _ _ _ _ _ _ _ h => (by cases h using Pa_i)⟩
 | n + 1 => by
  obtain ⟨h1, h2, h3⟩ := all_st hL n
  obtain ⟨-, e2, e3, e4, e5⟩ := all_px hL n
  exact ⟨stC_step hL e2 e3 e4 e5 h2 h3, blC_step hL h1, asC_step hL e2⟩
end
section
open Go.RowKit
def PRow (B : Nat) (w : World) (v : Value) (ps : List ByteArray) : Prop := w.ownsRow B 9 1 v ps.length (ps.map Value.string)
theorem prow_nil (w : World) (B : Nat) (hB : B ≤ w.heap.size) : PRow B (w.alloc (.cells #[] 9)) (.slice (some ⟨w.heap.size, 0, none⟩) 0 0) [] := World.ownsRow_lit w #[] 0 hB (by decide) rfl
theorem prow_app {w W : World} {B b : Nat} {v : Value} {ps : List ByteArray} (x : ByteArray) (h : PRow B w v ps) (hB : B ≤ w.heap.size) (hl : ps.length ≤ 2000000) (hW : W = w.alloc (.cells #[.string x] 9)) (hb : b = w.heap.size) :
  ∃ v' w', (Builtin.append_ #[40, 40] 40 #[v, .slice (some ⟨b, 0, none⟩) 1 1]).run Tryz.prog W = .ok v' w' ∧ PRow B w' v' (ps ++ [x]) ∧ Tcs (fun k => v.ownBlock = some k) w w' ∧ ∀ k, v'.ownBlock = some k → v.ownBlock = some k ∨ w.heap.size ≤ k := by
 obtain ⟨i0, hi, hz0, hz1, hz2⟩ := info_parts info_str
 have hb1 : Below w.heap.size w W := by rw [hW]; exact (Below.refl _ _).alloc (Nat.le_refl _) _
 have hlit : W.ownsRow w.heap.size 9 1 (.slice (some ⟨b, 0, none⟩) 1 1) 1 [.string x] := by rw [hW, hb]; exact World.ownsRow_lit w #[.string x] 1 (Nat.le_refl _) (by decide) rfl
 obtain ⟨v', w', r1, r2, r3, r4⟩ := run_appG (P := Tryz.prog) (w := W) B 40 40 9 i0 _ 1 16 Tryz.underlying40 hi hz0 hz1 hz2 rfl (by decide) v ps.length (ps.map Value.string) (ownB h hb1) (some ⟨b, 0, none⟩) 1 1 [.string x] (fun e => by cases e) rfl (fun ad had j u hu => by cases had; exact World.ownsRow.cells hlit (g := b) rfl j u hu) (fun u hu => by simp at hu; subst hu; rfl) (by omega) (by decide) (Nat.le_trans hB hb1.size)
 refine ⟨v', w', r1, ?_, hb1.tcs.trans (Tcs.of_grown r3 (fun k h => h)), fun k hk => ?_⟩
 ·show World.ownsRow _ _ _ _ _ _ _
  rw [List.length_append, List.map_append]
  exact r2
 ·rcases r4 k hk with h1 | h1
  ·exact .inl h1
  ·exact .inr (Nat.le_trans hb1.size h1)
theorem pl_inv {T : Nat → To} {n : Nat} {o : List ByteArray} {s : PS} {a : List ByteArray} {s' : PS} (h : Pa T n (.pl o) s (.p a) s') :
  (s.er ≠ 0 ∧ a = o ∧ s' = s) ∨ (s.er = 0 ∧ o = [] ∧ isS T [41] s = true ∧ a = o ∧ s' = s) ∨
  (s.er = 0 ∧ (o ≠ [] ∨ isS T [41] s = false) ∧ ((isS T [44] (hdS T s).2 = false ∧ a = o ++ [(hdS T s).1] ∧ s' = (hdS T s).2) ∨ (isS T [44] (hdS T s).2 = true ∧ ∃ m, n = m + 1 ∧ Pa T m (.pl (o ++ [(hdS T s).1])) (hdS T s).2.ad (.p a) s'))) := by
 cases h using Pa_i with
 | pld n o s h1 =>
  by_cases h0 : s.er = 0
  ·rcases h1 with h1 | ⟨h1, h2⟩
   ·exact absurd h0 h1
   ·exact .inr (.inl ⟨h0, h1, h2, rfl, rfl⟩)
  ·exact .inl ⟨h0, rfl, rfl⟩
 | ple n o s h1 h2 h3 => exact .inr (.inr ⟨h1, h2, .inl ⟨h3, rfl, rfl⟩⟩)
 | plm n o s r s' h1 h2 h3 h4 => exact .inr (.inr ⟨h1, h2, .inr ⟨h3, _, rfl, h4⟩⟩)
def PaA (G : GT) (w : World) (ps : List ByteArray) (s' : PS) (e : Ending) (w' : World) : Prop := ∃ u, e = .returned u ∧ PRow w.heap.size w' u ps ∧ PSt G w' s' ∧ Tcs (fun k => k = G.P) w w'
theorem hd_op {T : Nat → To} (s : PS) : (hdS T s).2.op = s.op := (na_op _).trans (ta_op _ _)
theorem pl_len {o : List ByteArray} (h : o ≠ []) : (0 : Int) < (o.length : Int) := by
 have : o.length ≠ 0 := fun e => h (List.eq_nil_of_length_eq_zero e)
 omega
set_option maxRecDepth 100000 in
set_option maxHeartbeats 4000000 in
theorem params_any {G : GT} (hL : Las G.T G.K) {n : Nat} {w : World} {s : PS} {ps : List ByteArray} {s1 : PS} (hp : Pa G.T n (.pl []) (opS G.T [40] s) (.p ps) s1) (hal : ps.length ≤ 1000000) (hop : OpB (n + 1) s) (hS : PSt G w s) :
  Calls Tryz.prog 52 #[.pointer (some ⟨G.P, 0, none⟩)] w (PaA G w ps (clS G.T [41] s1)) := by
 obtain ⟨W1, hW1⟩ : ∃ W1, W1 = w.alloc (.cells #[] 9) := ⟨_, rfl⟩
 obtain ⟨B1, hB1⟩ : ∃ B1, B1 = w.heap.size := ⟨_, rfl⟩
 have hb1 : Below w.heap.size w W1 := by rw [hW1]; exact (Below.refl _ _).alloc (Nat.le_refl _) _
 have hr1 : PRow w.heap.size W1 (.slice (some ⟨B1, 0, none⟩) 0 0) [] := by rw [hW1, hB1]; exact prow_nil w _ (Nat.le_refl _)
 have HO := hide (open_any hL (hS.below hb1) hop.bd [40])
 have HOp := hide (hop.on (T := G.T) [40])
 generalize opS G.T [40] s = s0 at *
 have HL := hide hL
 have HPp := hide hp
 have HPw := hide hS.lt
 have HR1 := hide hr1
 have HB1 := hide hb1
 have HW1 := hide hW1
 have HBe := hide hB1
 have HAl := hide hal
 have HCl : Hid (∀ W z, PSt G W z → z.op = s0.op → Calls Tryz.prog 56 #[.pointer (some ⟨G.P, 0, none⟩), .string (tx [41])] W fun e w' => e = .returned (.tuple #[]) ∧ PSt G w' (clS G.T [41] z) ∧ Tcs (fun k => k = G.P) W w') := fun W z hW hb => close_any HL.out hW (HOp.out.of hb).bd [41]
 clear hp hop hS hL hr1 hb1 hW1 hal hB1
 go_enter Tryz.func52, Tryz.ntmps52
 go_upto_region 2 with fail
 rw [← HW1.out, ← HBe.out]
 go_wp2_with fail
 refine HO.out.mono ?_
 rintro e w2 ⟨rfl, h2, t2⟩
 have HR2 : Hid (PRow w.heap.size w2 (.slice (some ⟨B1, 0, none⟩) 0 0) []) := own_tcs HR1.out t2 (fun k hk => by rw [hk]; exact HPw.out.1)
 have HT2 := hide ((HB1.out.tcs (S := fun k => k = G.P)).trans t2)
 have H2 := hide h2
 clear h2 t2 HO HR1 HB1 HW1 HBe
 go_wp2_with fail
 go_loopg [3] n (fun gk u wr => ∃ (o : List ByteArray) (z : PS), gk ≤ n ∧ Pa G.T gk (.pl o) z (.p ps) s1 ∧ z.op = s0.op ∧ PRow w.heap.size wr u o ∧ PSt G wr z ∧ Tcs (fun k => k = G.P) w wr)
 case atStart => exact ⟨[], s0, Nat.le_refl _, HPp.out, rfl, HR2.out, H2.out, HT2.out⟩
 case round =>
  clear HR2 H2 HT2 HPp
  obtain ⟨o, z, hgk, hp, hzo, hR, hZ, hT⟩ := hrel
  have p3 : wr.cell? ⟨G.P, 3, none⟩ = some (.int .i64 z.er) := (hZ.box 3 _ rfl).1
  obtain ⟨ua, uc, rfl, -⟩ := own_shape hR
  have hol : o.length ≤ 1000000 := Nat.le_trans hp.acc HAl.out
  rcases pl_inv hp with ⟨h0, rfl, rfl⟩ | ⟨h0, hoe, his, hpe, rfl⟩ | ⟨h0, hor, hcs⟩
  ·have HIn := hide (And.intro hZ (And.intro hR hT))
   have HZo := hide hzo
   clear hp hgk hZ hR hT hzo
   go_wp2_with fail
   have hZ := HIn.out.1
   have hzo := HZo.out
   refine (HCl.out _ _ hZ hzo).mono ?_
   rintro e w8 ⟨rfl, h8, t8⟩
   have HF : Hid (PaA G w ps (clS G.T [41] s1) (.returned _) w8) := ⟨_, rfl, own_tcs HIn.out.2.1 t8 (fun k hk => by rw [hk]; exact HPw.out.1), h8, HIn.out.2.2.trans t8⟩
   clear h8 t8
   go_wp2_with fail
   go_ret
   exact HF.out
  ·subst hoe
   have HPe := hide hpe
   rw [h0] at p3
   have HI := hide (is_any hZ [41])
   rw [his] at HI
   clear hpe his
   have HIn := hide (And.intro hZ (And.intro hR hT))
   have HZo := hide hzo
   clear hp hgk hZ hR hT hzo
   go_wp2_with fail
   refine HI.out.mono ?_
   rintro e wq ⟨rfl, hbq⟩
   have hZ := HIn.out.1.below hbq
   have hR : PRow w.heap.size wq (.slice ua 0 uc) ps := by rw [HPe.out]; exact ownB HIn.out.2.1 hbq
   have hT := HIn.out.2.2.of_below hbq
   have hzo := HZo.out
   clear hbq
   go_wp2_with fail
   refine (HCl.out _ _ hZ hzo).mono ?_
   rintro e w8 ⟨rfl, h8, t8⟩
   have HF : Hid (PaA G w ps (clS G.T [41] s1) (.returned _) w8) := ⟨_, rfl, own_tcs hR t8 (fun k hk => by rw [hk]; exact HPw.out.1), h8, hT.trans t8⟩
   clear h8 t8
   go_wp2_with fail
   go_ret
   exact HF.out
  ·rw [h0] at p3
   have HI := hide (is_any hZ [41])
   have hzop : (hdS G.T z).2.op = s0.op := (hd_op z).trans hzo
   have HTa : Hid (∀ W, PSt G W z → Calls Tryz.prog 49 #[.pointer (some ⟨G.P, 0, none⟩), .string (tx [105, 110, 116])] W fun e w' => e = .returned (.tuple #[]) ∧ PSt G w' (taS G.T [105, 110, 116] z) ∧ Tcs (fun k => k = G.P) W w') := fun W hW => ta_any HL.out hW _
   have HNa : Hid (∀ W, PSt G W (taS G.T [105, 110, 116] z) → Calls Tryz.prog 50 #[.pointer (some ⟨G.P, 0, none⟩)] W fun e w' => e = .returned (.string (hdS G.T z).1) ∧ PSt G w' (hdS G.T z).2 ∧ Tcs (fun k => k = G.P) W w') := fun W hW => name0_any HL.out hW
   have HIn := hide (And.intro hZ (And.intro hR hT))
   have HZo := hide hzop
   have HCs := hide hcs
   clear hp hZ hR hT hzo hzop hcs
   generalize hdS G.T z = hz at *
   obtain ⟨nm, y⟩ := hz
   dsimp only at *
   obtain ⟨wq, hbq, hgo⟩ : ∃ wq, Below wr.heap.size wr wq ∧ (o ≠ [] ∨ isS G.T [41] z = false) := ⟨wr, Below.refl _ _, hor⟩
   by_cases hoe : o = []
   ·have hni : isS G.T [41] z = false := hor.resolve_left (fun h => h hoe)
    rw [hni] at HI
    clear hor hgo hni
    clear hbq wq
    subst hoe
    go_wp2_with fail
    refine HI.out.mono ?_
    rintro e wq ⟨rfl, hbq⟩
    have hZ := HIn.out.1.below hbq
    have hR : PRow w.heap.size wq (.slice ua 0 uc) [] := ownB HIn.out.2.1 hbq
    have hT := HIn.out.2.2.of_below hbq
    clear hbq HI HIn
    go_wp2_with fail
    refine (HTa.out _ hZ).mono ?_
    rintro e w3 ⟨rfl, h3, t3⟩
    have hR3 : PRow w.heap.size w3 (.slice ua 0 uc) [] := own_tcs hR t3 (fun k hk => by rw [hk]; exact HPw.out.1)
    have hT3 := hT.trans t3
    clear t3 hZ hR hT
    go_wp2_with fail
    refine (HNa.out _ h3).mono ?_
    rintro e w4 ⟨rfl, h4, t4⟩
    have hR4 : PRow w.heap.size w4 (.slice ua 0 uc) [] := own_tcs hR3 t4 (fun k hk => by rw [hk]; exact HPw.out.1)
    have hT4 := hT3.trans t4
    clear t4 h3 hR3 hT3
    obtain ⟨W5, eW5⟩ : ∃ W5, W5 = w4.alloc (.cells #[.string nm] 9) := ⟨_, rfl⟩
    obtain ⟨B5, eB5⟩ : ∃ B5, B5 = w4.heap.size := ⟨_, rfl⟩
    obtain ⟨u5, w5, r5, hR5, t5, -⟩ := prow_app nm hR4 hT4.size (by decide) eW5 eB5
    have hj : ∀ k, (Value.slice ua 0 uc).ownBlock = some k → w.heap.size ≤ k := fun k hk => (World.ownsRow.lt hR4 k hk).1
    have h5 := h4.tcs t5 (fun e => by have := hj _ e; have := HPw.out.1; omega) (fun e => by have := hj _ e; have := HPw.out.2; omega)
    have hT5 : Tcs (fun k => k = G.P) w w5 := hT4.next t5 (fun x hx => .inr (hj x hx))
    have HW5 := hide eW5
    have HB5 := hide eB5
    have HR5 := hide r5
    clear eW5 eB5 r5 t5 hj h4 hR4 hT4
    go_wp2_with (at_builtin; rw [← HW5.out, ← HB5.out]; refine wpList_appG rfl _ _ _ rfl _ _ u5 w5 rfl rfl HR5.out ?_)
    have HI5 := hide (is_any h5 [44])
    rcases HCs.out with ⟨hi, hps, rfl⟩ | ⟨hi, k, rfl, hpn⟩
    ·rw [hi] at HI5
     refine HI5.out.mono ?_
     rintro e w6 ⟨rfl, hb6⟩
     have h6 := h5.below hb6
     have hR6 : PRow w.heap.size w6 u5 ps := by rw [hps]; exact ownB hR5 hb6
     have hT6 := hT5.of_below hb6
     clear hb6 h5 hR5 hT5 HI5 hps
     go_wp2_with fail
     refine (HCl.out _ _ h6 HZo.out).mono ?_
     rintro e w8 ⟨rfl, h8, t8⟩
     have HF : Hid (PaA G w ps (clS G.T [41] s1) (.returned _) w8) := ⟨_, rfl, own_tcs hR6 t8 (fun k hk => by rw [hk]; exact HPw.out.1), h8, hT6.trans t8⟩
     clear h8 t8
     go_wp2_with fail
     go_ret
     exact HF.out
    ·rw [hi] at HI5
     refine HI5.out.mono ?_
     rintro e w6 ⟨rfl, hb6⟩
     have h6 := h5.below hb6
     have hR6 : PRow w.heap.size w6 u5 ([] ++ [nm]) := ownB hR5 hb6
     have hT6 := hT5.of_below hb6
     obtain ⟨⟨h7, t7⟩, q1, f1, hii⟩ := h6.adv (is_lt HL.out h6.wf hi)
     have hR7 : PRow w.heap.size (w6.setCell ⟨G.P, 1, none⟩ (.int .i64 ((y.i : Int) + 1))) u5 ([] ++ [nm]) := own_tcs hR6 t7 (fun k hk => by rw [hk]; exact HPw.out.1)
     have HRel : Hid (∃ (o' : List ByteArray) (z' : PS), k ≤ n ∧ Pa G.T k (.pl o') z' (.p ps) s1 ∧ z'.op = s0.op ∧ PRow w.heap.size (w6.setCell ⟨G.P, 1, none⟩ (.int .i64 ((y.i : Int) + 1))) u5 o' ∧ PSt G (w6.setCell ⟨G.P, 1, none⟩ (.int .i64 ((y.i : Int) + 1))) z' ∧ Tcs (fun k => k = G.P) w (w6.setCell ⟨G.P, 1, none⟩ (.int .i64 ((y.i : Int) + 1)))) := ⟨[] ++ [nm], y.ad, by omega, hpn, HZo.out, hR7, h7, hT6.trans t7⟩
     clear hb6 h5 hR5 hT5 HI5 h6 hR6 hT6 h7 t7 hR7 hpn hi HCs
     go_wp2_with fail
     go_roundg k
     case measure => omega
     case rel => exact HRel.out
   ·have hpl := pl_len hoe
    have hpn : 0 < o.length := by omega
    have hpz : ¬ o.length = 0 := by omega
    clear hbq hor hgo hoe
    clear wq
    have hZ := HIn.out.1
    have hR := HIn.out.2.1
    have hT := HIn.out.2.2
    clear HI HIn
    go_wp2_with fail
    refine (HTa.out _ hZ).mono ?_
    rintro e w3 ⟨rfl, h3, t3⟩
    have hR3 : PRow w.heap.size w3 (.slice ua o.length uc) o := own_tcs hR t3 (fun k hk => by rw [hk]; exact HPw.out.1)
    have hT3 := hT.trans t3
    clear t3 hZ hR hT
    go_wp2_with fail
    refine (HNa.out _ h3).mono ?_
    rintro e w4 ⟨rfl, h4, t4⟩
    have hR4 : PRow w.heap.size w4 (.slice ua o.length uc) o := own_tcs hR3 t4 (fun k hk => by rw [hk]; exact HPw.out.1)
    have hT4 := hT3.trans t4
    clear t4 h3 hR3 hT3
    obtain ⟨W5, eW5⟩ : ∃ W5, W5 = w4.alloc (.cells #[.string nm] 9) := ⟨_, rfl⟩
    obtain ⟨B5, eB5⟩ : ∃ B5, B5 = w4.heap.size := ⟨_, rfl⟩
    obtain ⟨u5, w5, r5, hR5, t5, -⟩ := prow_app nm hR4 hT4.size (by omega) eW5 eB5
    have hj : ∀ k, (Value.slice ua o.length uc).ownBlock = some k → w.heap.size ≤ k := fun k hk => (World.ownsRow.lt hR4 k hk).1
    have h5 := h4.tcs t5 (fun e => by have := hj _ e; have := HPw.out.1; omega) (fun e => by have := hj _ e; have := HPw.out.2; omega)
    have hT5 : Tcs (fun k => k = G.P) w w5 := hT4.next t5 (fun x hx => .inr (hj x hx))
    have HW5 := hide eW5
    have HB5 := hide eB5
    have HR5 := hide r5
    clear eW5 eB5 r5 t5 hj h4 hR4 hT4
    go_wp2_with (at_builtin; rw [← HW5.out, ← HB5.out]; refine wpList_appG rfl _ _ _ rfl _ _ u5 w5 rfl rfl HR5.out ?_)
    have HI5 := hide (is_any h5 [44])
    rcases HCs.out with ⟨hi, hps, rfl⟩ | ⟨hi, k, rfl, hpn⟩
    ·rw [hi] at HI5
     refine HI5.out.mono ?_
     rintro e w6 ⟨rfl, hb6⟩
     have h6 := h5.below hb6
     have hR6 : PRow w.heap.size w6 u5 ps := by rw [hps]; exact ownB hR5 hb6
     have hT6 := hT5.of_below hb6
     clear hb6 h5 hR5 hT5 HI5 hps
     go_wp2_with fail
     refine (HCl.out _ _ h6 HZo.out).mono ?_
     rintro e w8 ⟨rfl, h8, t8⟩
     have HF : Hid (PaA G w ps (clS G.T [41] s1) (.returned _) w8) := ⟨_, rfl, own_tcs hR6 t8 (fun k hk => by rw [hk]; exact HPw.out.1), h8, hT6.trans t8⟩
     clear h8 t8
     go_wp2_with fail
     go_ret
     exact HF.out
    ·rw [hi] at HI5
     refine HI5.out.mono ?_
     rintro e w6 ⟨rfl, hb6⟩
     have h6 := h5.below hb6
     have hR6 : PRow w.heap.size w6 u5 (o ++ [nm]) := ownB hR5 hb6
     have hT6 := hT5.of_below hb6
     obtain ⟨⟨h7, t7⟩, q1, f1, hii⟩ := h6.adv (is_lt HL.out h6.wf hi)
     have hR7 : PRow w.heap.size (w6.setCell ⟨G.P, 1, none⟩ (.int .i64 ((y.i : Int) + 1))) u5 (o ++ [nm]) := own_tcs hR6 t7 (fun k hk => by rw [hk]; exact HPw.out.1)
     have HRel : Hid (∃ (o' : List ByteArray) (z' : PS), k ≤ n ∧ Pa G.T k (.pl o') z' (.p ps) s1 ∧ z'.op = s0.op ∧ PRow w.heap.size (w6.setCell ⟨G.P, 1, none⟩ (.int .i64 ((y.i : Int) + 1))) u5 o' ∧ PSt G (w6.setCell ⟨G.P, 1, none⟩ (.int .i64 ((y.i : Int) + 1))) z' ∧ Tcs (fun k => k = G.P) w (w6.setCell ⟨G.P, 1, none⟩ (.int .i64 ((y.i : Int) + 1)))) := ⟨o ++ [nm], y.ad, by omega, hpn, HZo.out, hR7, h7, hT6.trans t7⟩
     clear hb6 h5 hR5 hT5 HI5 h6 hR6 hT6 h7 t7 hR7 hpn hi HCs
     go_wp2_with fail
     go_roundg k
     case measure => omega
     case rel => exact HRel.out
end
section
open Go.RowKit
def PtQ (Q : List FV) (W : World) : Prop := ∀ x ∈ Q, Strs W x.vp x.f.params ∧ Stmts W x.vb x.f.body
structure TQ (B : Nat) (w : World) (vg vf : Value) (t : Tr) : Prop where
 gs : GR B w vg t.globals
 fs : ∃ Q : List FV, Q.map FV.f = t.funcs ∧ DRow 43 3 (fun k => k < B ∨ vg.ownBlock = some k) B w vf Q.length (flatF Q) (PtQ Q)
 sep : ∀ k, vg.ownBlock = some k → ¬ vf.ownBlock = some k
theorem funcsQ {W : World} {B : Nat} {v : Value} {Q : List FV} (h0 : W.ownsRow B 43 3 v Q.length (flatF Q)) (hp : PtQ Q W) : Funcs W v (Q.map FV.f) := by
 rcases h0.2 with ⟨rfl, hz⟩ | ⟨g, cap, cur, rfl, h3, h4, h5⟩
 ·exact ⟨none, 0, by rw [List.length_map, hz], by rw [List.length_map, hz]; exact Nat.le_refl _, by omega, fun h => by rw [List.length_map] at h; omega⟩
 ·have hc : Q.length ≤ cap ∧ cap ≤ 9223372036854775807 := by
   obtain ⟨q1, q2, -⟩ := h5
   unfold maxLen at q2
   exact ⟨q1, q2⟩
  refine ⟨some ⟨g, 0, none⟩, cap, by rw [List.length_map], by rw [List.length_map]; exact hc.1, hc.2, fun hp' => ⟨g, 0, rfl, fun j hj => ?_⟩⟩
  rw [List.length_map] at hj
  have key : ∀ i, i < 3 → W.cell? ⟨g, 0 + j * 3 + i, none⟩ = (cellsF Q[j])[i]? := fun i hi => by
   have hl : (flatF Q).length = Q.length * 3 := flatF_len Q
   rw [Nat.zero_add, World.ownsRow.cellAt h0 (j * 3 + i) (by omega), flatF_get Q j i hj hi]
  obtain ⟨e1, e2⟩ := hp Q[j] (List.getElem_mem hj)
  refine ⟨Q[j].vp, Q[j].vb, ?_, ?_, ?_⟩
  ·simp only [List.getElem_map]
   exact ⟨key 0 (by omega), key 1 (by omega), key 2 (by omega)⟩
  ·simp only [List.getElem_map]; exact e1
  ·simp only [List.getElem_map]; exact e2
theorem TQ.read {B : Nat} {w : World} {vg vf : Value} {t : Tr} (h : TQ B w vg vf t) : Globs w vg t.globals ∧ Funcs w vf t.funcs := by
 obtain ⟨Q, h1, h2⟩ := h.fs
 exact ⟨globs_of h.gs, by rw [← h1]; exact funcsQ h2.row h2.now⟩
theorem TQ.tcs {B : Nat} {S : Nat → Prop} {w w' : World} {vg vf : Value} {t : Tr} (h : TQ B w vg vf t) (ht : Tcs S w w') (hS : ∀ k, S k → k < B) : TQ B w' vg vf t := by
 obtain ⟨Q, h1, h2⟩ := h.fs
 exact ⟨own_tcs h.gs ht hS, ⟨Q, h1, own_tcs h2.row ht hS, fun W hW => h2.st W ((ht.mono fun k hk => .inl (.inl (hS k hk))).trans hW)⟩, h.sep⟩
theorem TQ.below {B : Nat} {w w' : World} {vg vf : Value} {t : Tr} (h : TQ B w vg vf t) (hb : Below w.heap.size w w') : TQ B w' vg vf t := by
 obtain ⟨Q, h1, h2⟩ := h.fs
 exact ⟨ownB h.gs hb, ⟨Q, h1, h2.below hb⟩, h.sep⟩
theorem tq_nil (B : Nat) (w : World) : TQ B w (.slice none 0 0) (.slice none 0 0) ⟨[], []⟩ :=
 ⟨World.ownsRow_nil _ _ _ _, ⟨[], rfl, DRow.nil (fun W x hx => by cases hx)⟩, fun k hk => by cases hk⟩
theorem TQ.rg {B : Nat} {w : World} {vg vf : Value} {t : Tr} (h : TQ B w vg vf t) : ∀ k, vg.ownBlock = some k → B ≤ k ∧ k < w.heap.size := fun k hk => World.ownsRow.lt h.gs k hk
theorem TQ.rf {B : Nat} {w : World} {vg vf : Value} {t : Tr} (h : TQ B w vg vf t) : ∀ k, vf.ownBlock = some k → B ≤ k ∧ k < w.heap.size := fun k hk => by
 obtain ⟨Q, h1, h2⟩ := h.fs
 exact World.ownsRow.lt h2.row k hk
theorem TQ.addF {B B1 : Nat} {w w2 W : World} {vg vf vp vb : Value} {b : Nat} {t : Tr} (h : TQ B w vg vf t) (f : Fu) {S : Nat → Prop} (ht : Tcs S w w2) (hS : ∀ k, S k → k < B) (hB : B ≤ w.heap.size) (hB1 : w.heap.size ≤ B1) (hB2 : B1 ≤ w2.heap.size)
  (hp : ∀ W, Tcs (fun k => k < B1) w2 W → Strs W vp f.params) (hb : ∀ W, Tcs (fun k => k < B1) w2 W → Stmts W vb f.body) (hW : W = w2.alloc (.cells #[.string f.name, vp, vb] 43)) (hbe : b = w2.heap.size) (hl : t.funcs.length ≤ 100000) :
  ∃ v' W', (Builtin.append_ #[24, 24] 24 #[vf, .slice (some ⟨b, 0, none⟩) 1 1]).run Tryz.prog W = .ok v' W' ∧ Tcs (fun k => vf.ownBlock = some k) w2 W' ∧ (∀ k, v'.ownBlock = some k → vf.ownBlock = some k ∨ w2.heap.size < k) ∧
   ∀ We, Tcs (fun k => w.heap.size ≤ k ∧ k < B1) W' We → TQ B We vg v' ⟨t.globals, t.funcs ++ [f]⟩ := by
 obtain ⟨Q, hQ, hD⟩ := h.fs
 have hb1 : Below w2.heap.size w2 W := by rw [hW]; exact (Below.refl _ _).alloc (Nat.le_refl _) _
 have hs1 : W.heap.size = w2.heap.size + 1 := by rw [hW]; simp
 have hlit : W.ownsRow w2.heap.size 43 3 (.slice (some ⟨b, 0, none⟩) 1 1) 1 [.string f.name, vp, vb] := by rw [hW, hbe]; exact World.ownsRow_lit w2 #[.string f.name, vp, vb] 1 (Nat.le_refl _) (by decide) rfl
 have h2 := h.tcs ht hS
 obtain ⟨i0, hi, hz0, hz1, hz2⟩ := info_parts info_func
 have htw : Tcs S w W := ht.of_below hb1
 have hQl : Q.length = t.funcs.length := by rw [← hQ, List.length_map]
 have hsh : ∀ v, (∃ ps, Strs W v ps) → v.oneCell' = true := fun v hv => by obtain ⟨ps, a, c, rfl, -⟩ := hv; rfl
 have hsb : ∀ v, (∃ ps, Stmts W v ps) → v.oneCell' = true := fun v hv => by obtain ⟨ps, a, c, rfl, -⟩ := hv; rfl
 have tW : Tcs (fun k => k < B1) w2 W := hb1.tcs
 obtain ⟨v', W', r1, r2, r3, r4⟩ := run_appG (P := Tryz.prog) (w := W) B 24 24 43 i0 _ 3 64 Tryz.underlying24 hi hz0 hz1 hz2 rfl (by decide) vf Q.length (flatF Q) (own_tcs hD.row htw hS) (some ⟨b, 0, none⟩) 1 1 [.string f.name, vp, vb] (fun e => by cases e) rfl (fun ad had j u hu => by cases had; exact World.ownsRow.cells hlit (g := b) rfl j u hu) (fun u hu => by
  simp only [List.mem_cons, List.not_mem_nil, or_false] at hu
  rcases hu with rfl | rfl | rfl
  ·rfl
  ·exact hsh _ ⟨_, hp W tW⟩
  ·exact hsb _ ⟨_, hb W tW⟩) (by omega) (by decide) (Nat.le_trans hB (Nat.le_trans ht.size hb1.size))
 have hT : Tcs (fun k => vf.ownBlock = some k) W W' := Tcs.of_grown r3 (fun k hk => hk)
 have hvf := h.rf
 have hvg := h.rg
 have hsz := ht.size
 have hown : ∀ k, v'.ownBlock = some k → vf.ownBlock = some k ∨ w2.heap.size < k := fun k hk => by
  rcases r4 k hk with h1 | h1
  ·exact .inl h1
  ·exact .inr (by omega)
 refine ⟨v', W', r1, (hb1.tcs).trans hT, hown, fun We hWe => ?_⟩
 have hn1 : ∀ k, vg.ownBlock = some k → ¬ (vf.ownBlock = some k) := h.sep
 have tA : Tcs (fun k => k < B ∨ vf.ownBlock = some k) w W' := (htw.mono fun k hk => .inl (hS k hk)).trans (hT.mono fun k hk => .inr hk)
 have tB : Tcs (fun k => k < B ∨ vf.ownBlock = some k) w We := tA.next hWe fun k hk => .inr hk.1
 have hgs : GR B We vg t.globals := own_notU h.gs tB (fun k hk e => by
  rcases e with e | e
  ·have := (hvg k hk).1; omega
  ·exact hn1 k hk e)
 refine ⟨hgs, ⟨Q ++ [⟨f, vp, vb, [], [], []⟩], by rw [List.map_append, hQ]; rfl, ?_, fun V hV x hx => ?_⟩, fun k hk e => ?_⟩
 ·have e1 : flatF (Q ++ [⟨f, vp, vb, [], [], []⟩]) = flatF Q ++ [.string f.name, vp, vb] := by rw [flatF_append]; rfl
  rw [List.length_append, e1]
  refine own_notU r2 hWe (fun k hk e => ?_)
  rcases hown k hk with h1 | h1
  ·have := (hvf k h1).2; omega
  ·omega
 ·rcases List.mem_append.1 hx with hx | hx
  ·exact hD.st V ((tB.mono fun k hk => hk.elim (fun e => .inl (.inl e)) .inr).next hV fun k hk => by
    rcases hk with hk | hk
    ·exact .inl (.inl hk)
    ·rcases hown k hk with h1 | h1
     ·exact .inl (.inr h1)
     ·exact .inr (by omega)) x hx
  ·have tV : Tcs (fun k => k < B1) w2 V := ((tW.trans (hT.mono fun k hk => by have := (hvf k hk).2; omega)).trans (hWe.mono fun k hk => hk.2)).next hV fun k hk => by
    rcases hk with (hk | hk) | hk
    ·exact .inl (by omega)
    ·have := (hvg k hk).2; exact .inl (by omega)
    ·rcases hown k hk with h1 | h1
     ·have := (hvf k h1).2; exact .inl (by omega)
     ·exact .inr (by omega)
   simp only [List.mem_singleton] at hx
   subst hx
   exact ⟨hp V tV, hb V tV⟩
 ·rcases hown k e with h1 | h1
  ·exact h.sep k hk h1
  ·have := (hvg k hk).2; omega
theorem TQ.addG {B : Nat} {w w2 W : World} {vg vf : Value} {b : Nat} {t : Tr} (h : TQ B w vg vf t) (g : Gl) {S : Nat → Prop} (ht : Tcs S w w2) (hS : ∀ k, S k → k < B) (hB : B ≤ w.heap.size)
  (hW : W = w2.alloc (.cells #[.string g.name, .int .i64 g.size] 74)) (hbe : b = w2.heap.size) (hl : t.globals.length ≤ 100000) :
  ∃ v' W', (Builtin.append_ #[23, 23] 23 #[vg, .slice (some ⟨b, 0, none⟩) 1 1]).run Tryz.prog W = .ok v' W' ∧ Tcs (fun k => vg.ownBlock = some k) w2 W' ∧ (∀ k, v'.ownBlock = some k → vg.ownBlock = some k ∨ w2.heap.size < k) ∧
   ∀ We, Tcs (fun k => w.heap.size ≤ k ∧ k ≤ w2.heap.size) W' We → TQ B We v' vf ⟨t.globals ++ [g], t.funcs⟩ := by
 obtain ⟨Q, hQ, hD⟩ := h.fs
 have hb1 : Below w2.heap.size w2 W := by rw [hW]; exact (Below.refl _ _).alloc (Nat.le_refl _) _
 have hs1 : W.heap.size = w2.heap.size + 1 := by rw [hW]; simp
 have hlit : W.ownsRow w2.heap.size 74 2 (.slice (some ⟨b, 0, none⟩) 1 1) 1 [.string g.name, .int .i64 g.size] := by rw [hW, hbe]; exact World.ownsRow_lit w2 #[.string g.name, .int .i64 g.size] 1 (Nat.le_refl _) (by decide) rfl
 obtain ⟨i0, hi, hz0, hz1, hz2⟩ := info_parts info_glob
 have htw : Tcs S w W := ht.of_below hb1
 obtain ⟨v', W', r1, r2, r3, r4⟩ := run_appG (P := Tryz.prog) (w := W) B 23 23 74 i0 _ 2 24 Tryz.underlying23 hi hz0 hz1 hz2 rfl (by decide) vg t.globals.length (gflat t.globals) (own_tcs h.gs htw hS) (some ⟨b, 0, none⟩) 1 1 [.string g.name, .int .i64 g.size] (fun e => by cases e) rfl (fun ad had j u hu => by cases had; exact World.ownsRow.cells hlit (g := b) rfl j u hu) (fun u hu => by
  simp only [List.mem_cons, List.not_mem_nil, or_false] at hu
  rcases hu with rfl | rfl
  ·rfl
  ·rfl) (by omega) (by decide) (Nat.le_trans hB (Nat.le_trans ht.size hb1.size))
 have hT : Tcs (fun k => vg.ownBlock = some k) W W' := Tcs.of_grown r3 (fun k hk => hk)
 have hvf := h.rf
 have hvg := h.rg
 have hsz := ht.size
 have hown : ∀ k, v'.ownBlock = some k → vg.ownBlock = some k ∨ w2.heap.size < k := fun k hk => by
  rcases r4 k hk with h1 | h1
  ·exact .inl h1
  ·exact .inr (by omega)
 refine ⟨v', W', r1, (hb1.tcs).trans hT, hown, fun We hWe => ?_⟩
 have tA : Tcs (fun k => k < B ∨ vg.ownBlock = some k) w W' := (htw.mono fun k hk => .inl (hS k hk)).trans (hT.mono fun k hk => .inr hk)
 have tB : Tcs (fun k => k < B ∨ vg.ownBlock = some k) w We := tA.next hWe fun k hk => .inr hk.1
 refine ⟨?_, ⟨Q, hQ, own_notU hD.row tB (fun k hk e => ?_), fun V hV => ?_⟩, fun k hk e => ?_⟩
 ·have e1 : gflat (t.globals ++ [g]) = gflat t.globals ++ [.string g.name, .int .i64 g.size] := by simp [gflat, gcl]
  show World.ownsRow _ _ _ _ _ _ _
  rw [List.length_append, e1]
  refine own_notU r2 hWe (fun k hk e => ?_)
  rcases hown k hk with h1 | h1
  ·have := (hvg k h1).2; omega
  ·omega
 ·rcases e with e | e
  ·have := (hvf k hk).1; omega
  ·exact h.sep k e hk
 ·exact hD.st V ((tB.mono fun k hk => .inl hk).next hV fun k hk => by
   rcases hk with (hk | hk) | hk
   ·exact .inl (.inl (.inl hk))
   ·rcases hown k hk with h1 | h1
    ·exact .inl (.inl (.inr h1))
    ·exact .inr (by omega)
   ·exact .inl (.inr hk))
 ·rcases hown k hk with h1 | h1
  ·exact h.sep k h1 e
  ·have := (hvf k e).2; omega
end
section
open Go.RowKit
theorem SQ.stmts {B : Nat} {w : World} {v : Value} {l : List St} (h : SQ B w v l) : ∀ W, Tcs (fun k => k < B) w W → Stmts W v l := fun W hW => by
 obtain ⟨R, rfl, h2⟩ := h.ex
 exact stmts_of (own_tcs h2.row hW (fun k hk => hk)) (h2.st W (hW.mono fun k hk => .inl hk))
structure TB (G : GT) (w0 : World) (M R : Nat) (vg vf : Value) (W : World) (z : PS) : Prop where
 st : PSt G W z
 bx : FrC W M [vg, vf]
 rs : FrC W R [.slice none 0 0, .slice none 0 0]
 t : Tcs (fun k => k = G.P) w0 W
 m : w0.heap.size ≤ M ∧ M < W.heap.size ∧ w0.heap.size ≤ R ∧ R < W.heap.size ∧ M ≠ R
 hl : G.P < w0.heap.size ∧ G.bT < w0.heap.size
theorem TB.below {G : GT} {w0 W W' : World} {M R : Nat} {vg vf : Value} {z : PS} (h : TB G w0 M R vg vf W z) (hb : Below W.heap.size W W') : TB G w0 M R vg vf W' z :=
 ⟨h.st.below hb, h.bx.below hb, h.rs.below hb, h.t.of_below hb, by have := h.m; have := hb.size; omega, h.hl⟩
theorem TB.step {G : GT} {w0 W W' : World} {M R : Nat} {vg vf : Value} {z z' : PS} (h : TB G w0 M R vg vf W z) (hz : PSt G W' z') (ht : Tcs (fun k => k = G.P) W W') : TB G w0 M R vg vf W' z' :=
 ⟨hz, h.bx.tcs h.m.2.1 ht (fun e => by have := h.m; have := h.hl; omega), h.rs.tcs h.m.2.2.2.1 ht (fun e => by have := h.m; have := h.hl; omega), h.t.trans ht, by have := h.m; have := ht.size; omega, h.hl⟩
theorem tb_new {G : GT} {w W : World} {z : PS} {vg vf : Value} (hZ : PSt G w z) (hW : W = (w.alloc (.cells #[vg, vf] 26)).alloc (.cells #[.slice none 0 0, .slice none 0 0] 26)) {M R : Nat} (hM : M = w.heap.size) (hR : R = w.heap.size + 1) : TB G w M R vg vf W z := by
 have hb1 : Below w.heap.size w (w.alloc (.cells #[vg, vf] 26)) := (Below.refl _ _).alloc (Nat.le_refl _) _
 have hb2 : Below (w.alloc (.cells #[vg, vf] 26)).heap.size (w.alloc (.cells #[vg, vf] 26)) W := by rw [hW]; exact (Below.refl _ _).alloc (Nat.le_refl _) _
 have hx : FrC (w.alloc (.cells #[vg, vf] 26)) M [vg, vf] := by rw [hM]; exact box_fr w #[vg, vf] _ (by show 2 ≤ 1000; omega)
 have hy : FrC W R [.slice none 0 0, .slice none 0 0] := by
  have e : R = (w.alloc (.cells #[vg, vf] 26)).heap.size := by rw [hR]; simp
  rw [hW, e]; exact box_fr _ #[.slice none 0 0, .slice none 0 0] _ (by show 2 ≤ 1000; omega)
 have hs : W.heap.size = w.heap.size + 2 := by rw [hW]; simp
 exact ⟨(hZ.below hb1).below hb2, hx.below hb2, hy, ((Tcs.refl _ _).of_below hb1).of_below hb2, by omega, hZ.lt⟩
def TopA (G : GT) (B : Nat) (w : World) (t' : Tr) (s' : PS) (e : Ending) (w' : World) : Prop := ∃ vg' vf', e = .returned (.agg #[vg', vf']) ∧ TQ B w' vg' vf' t' ∧ PSt G w' s' ∧ Tcs (fun k => k = G.P ∨ B ≤ k) w w'
theorem TB.fin {G : GT} {B : Nat} {w0 W W' We : World} {M R : Nat} {vg vf vg' vf' : Value} {t' : Tr} {z : PS} {S : Nat → Prop} (h : TB G w0 M R vg vf W z) (hB : B ≤ w0.heap.size) (hPB : G.P < B ∧ G.bT < B) (ht : Tcs S W W') (hS : ∀ k, S k → B ≤ k) (hq : ∀ We, Tcs (fun k => k = M ∨ k = R) W' We → TQ B We vg' vf' t') (hE : Tcs (fun k => k = M ∨ k = R) W' We) :
  TopA G B w0 t' z (.returned (.agg #[vg', vf'])) We := by
 have hm := h.m
 have hsz := ht.size
 refine ⟨_, _, rfl, hq _ hE, (h.st.tcs ht (fun e => by have := hS _ e; omega) (fun e => by have := hS _ e; omega)).tcs hE (fun e => by omega) (fun e => by omega), ?_⟩
 exact ((h.t.mono (fun k hk => .inl hk)).trans (ht.mono fun k hk => .inr (hS k hk))).trans (hE.mono fun k hk => .inr (by omega))
structure GlB (G : GT) (w0 : World) (M R N : Nat) (vg vf : Value) (nm : ByteArray) (k : Int) (W : World) (z : PS) : Prop where
 tb : TB G w0 M R vg vf W z
 nx : FrC W N [.string nm, .int .i64 k]
 n : w0.heap.size ≤ N ∧ N < W.heap.size ∧ N ≠ M ∧ N ≠ R
theorem glb_new {G : GT} {w0 w W : World} {M R N : Nat} {vg vf : Value} {nm : ByteArray} {z : PS} (h : TB G w0 M R vg vf w z) (hW : W = w.alloc (.cells #[.string nm, .int .i64 0] 74)) (hN : N = w.heap.size) : GlB G w0 M R N vg vf nm 0 W z := by
 have hb : Below w.heap.size w W := by rw [hW]; exact (Below.refl _ _).alloc (Nat.le_refl _) _
 have hx : FrC W N [.string nm, .int .i64 0] := by rw [hW, hN]; exact box_fr w #[.string nm, .int .i64 0] _ (by show 2 ≤ 1000; omega)
 have hs : W.heap.size = w.heap.size + 1 := by rw [hW]; simp
 exact ⟨h.below hb, hx, by have := h.m; have := h.t.size; omega⟩
theorem GlB.below {G : GT} {w0 W W' : World} {M R N : Nat} {vg vf : Value} {nm : ByteArray} {k : Int} {z : PS} (h : GlB G w0 M R N vg vf nm k W z) (hb : Below W.heap.size W W') : GlB G w0 M R N vg vf nm k W' z :=
 ⟨h.tb.below hb, h.nx.below hb, by have := h.n; have := hb.size; omega⟩
theorem GlB.step {G : GT} {w0 W W' : World} {M R N : Nat} {vg vf : Value} {nm : ByteArray} {k : Int} {z z' : PS} (h : GlB G w0 M R N vg vf nm k W z) (hz : PSt G W' z') (ht : Tcs (fun k => k = G.P) W W') : GlB G w0 M R N vg vf nm k W' z' :=
 ⟨h.tb.step hz ht, h.nx.tcs h.n.2.1 ht (fun e => by have := h.n; have := h.tb.hl; omega), by have := h.n; have := ht.size; omega⟩
theorem GlB.put {G : GT} {w0 W W' : World} {M R N : Nat} {vg vf : Value} {nm : ByteArray} {k : Int} {z : PS} (h : GlB G w0 M R N vg vf nm k W z) (k' : Int) (hW : W' = W.setCell ⟨N, 1, none⟩ (.int .i64 k')) : GlB G w0 M R N vg vf nm k' W' z := by
 have ht : Tcs (fun k => k = N) W W' := by rw [hW]; exact (Tcs.refl (fun k => k = N) W).setCell (p := ⟨N, 1, none⟩) rfl _
 have hn := h.n
 have hm := h.tb.m
 have hl := h.tb.hl
 have hs := ht.size
 have hst := h.tb.st
 exact ⟨⟨hst.tcs ht (fun e => by omega) (fun e => by omega), h.tb.bx.tcs hm.2.1 ht (fun e => by omega), h.tb.rs.tcs hm.2.2.2.1 ht (fun e => by omega), h.tb.t.next ht (fun k hk => .inr (by omega)), by omega, hl⟩, by rw [hW]; exact h.nx.set 1 _ , by omega⟩
set_option maxRecDepth 100000 in
set_option maxHeartbeats 4000000 in
theorem top_fn {G : GT} (hL : Las G.T G.K) {n : Nat} {w : World} {s : PS} {B : Nat} {vg vf : Value} {t : Tr} {ps : List ByteArray} {s1 : PS} {b : List St} {s2 : PS} (hi : isS G.T [40] (hdS G.T s).2 = true) (hp : Pa G.T n (.pl []) (opS G.T [40] (hdS G.T s).2) (.p ps) s1) (hb : Pa G.T n .bl (clS G.T [41] s1) (.s b) s2) (hsz : ps.length ≤ 1000000 ∧ szS b ≤ 1000000) (hop : OpB (n + 1) s) (hS : PSt G w s) (hq : TQ B w vg vf t) (hB : B ≤ w.heap.size) (hPB : G.P < B ∧ G.bT < B) (htl : t.globals.length ≤ 100000 ∧ t.funcs.length ≤ 100000) :
  Calls Tryz.prog 24 #[.pointer (some ⟨G.P, 0, none⟩), .agg #[vg, vf]] w (TopA G B w (addT t (.inr ⟨(hdS G.T s).1, ps, b⟩)) s2) := by
 obtain ⟨ga, gc, hge, -⟩ := own_shape hq.gs
 obtain ⟨fa, fn, fc, hfe⟩ : ∃ fa fn fc, vf = .slice fa fn fc := by
  obtain ⟨Q, h1, h2⟩ := hq.fs
  obtain ⟨a, c, e, -⟩ := own_shape h2.row
  exact ⟨_, _, _, e⟩
 obtain ⟨gn, hgn⟩ : ∃ gn, gn = t.globals.length := ⟨_, rfl⟩
 rw [← hgn] at hge
 subst hge hfe
 clear hgn
 obtain ⟨W1, hW1⟩ : ∃ W1, W1 = (w.alloc (.cells #[.slice ga gn gc, .slice fa fn fc] 26)).alloc (.cells #[.slice none 0 0, .slice none 0 0] 26) := ⟨_, rfl⟩
 obtain ⟨M, hM⟩ : ∃ M, M = w.heap.size := ⟨_, rfl⟩
 obtain ⟨R, hR⟩ : ∃ R, R = w.heap.size + 1 := ⟨_, rfl⟩
 have h1 := tb_new hS hW1 hM hR
 have HTa : Hid (∀ W, PSt G W s → Calls Tryz.prog 49 #[.pointer (some ⟨G.P, 0, none⟩), .string (tx [105, 110, 116])] W fun e w' => e = .returned (.tuple #[]) ∧ PSt G w' (taS G.T [105, 110, 116] s) ∧ Tcs (fun k => k = G.P) W w') := fun W hW => ta_any hL hW _
 have HNa : Hid (∀ W, PSt G W (taS G.T [105, 110, 116] s) → Calls Tryz.prog 50 #[.pointer (some ⟨G.P, 0, none⟩)] W fun e w' => e = .returned (.string (hdS G.T s).1) ∧ PSt G w' (hdS G.T s).2 ∧ Tcs (fun k => k = G.P) W w') := fun W hW => name0_any hL hW
 have hyo : OpB (n + 1) (hdS G.T s).2 := hop.of (hd_op s)
 have HL := hide hL
 have HQ := hide hq
 have HB := hide (And.intro hB (And.intro hPB htl))
 generalize hdS G.T s = hz at *
 obtain ⟨nm, y⟩ := hz
 dsimp only at *
 have hyp : (clS G.T [41] s1).op = y.op := by rw [cl_op, hp.op, on_op]; omega
 have HPa : Hid (∀ W, PSt G W y → Calls Tryz.prog 52 #[.pointer (some ⟨G.P, 0, none⟩)] W (PaA G W ps (clS G.T [41] s1))) := fun W hW => params_any HL.out hp hsz.1 hyo hW
 have HBl : Hid (∀ W, PSt G W (clS G.T [41] s1) → Calls Tryz.prog 53 #[.pointer (some ⟨G.P, 0, none⟩)] W (StA G W b s2)) := fun W hW => (all_st HL.out n).2.1 W _ b s2 hb hsz.2 ((hyo.of hyp).le (Nat.le_succ n)) hW
 clear hyp
 have HW1 := hide hW1
 have HM := hide hM
 have HR := hide hR
 clear hW1 hM hR hL hq hB hPB htl hop hS hyo hp hb hsz
 go_enter Tryz.func24, Tryz.ntmps24
 go_upto_region 1 with fail
 rw [← HW1.out, ← HR.out, ← HM.out]
 go_wp2_with fail
 refine (HTa.out _ h1.st).mono ?_
 rintro e w2 ⟨rfl, z2, t2⟩
 have h2 := h1.step z2 t2
 clear z2 t2 h1
 go_wp2_with fail
 refine (HNa.out _ h2.st).mono ?_
 rintro e w3 ⟨rfl, z3, t3⟩
 have h3 := h2.step z3 t3
 clear z3 t3 h2
 go_wp2_with fail
 refine (is_any h3.st [40]).mono ?_
 rintro e w4 ⟨rfl, b4⟩
 rw [hi]
 have h4 := h3.below b4
 clear b4 h3
 go_wp2_with fail
 refine (HPa.out _ h4.st).mono ?_
 rintro e w5 ⟨vp, rfl, hr5, z5, t5⟩
 have hm4 := h4.m
 have h5 := h4.step z5 t5
 have hsp : ∃ pa pn pc, vp = .slice pa pn pc := by
  obtain ⟨a, c, e, -⟩ := own_shape hr5
  exact ⟨_, _, _, e⟩
 obtain ⟨pa, pn, pc, rfl⟩ := hsp
 have HT5 := hide t5
 clear z5 t5 HPa
 have HR5 := hide hr5
 have HM4 := hide hm4
 clear hr5 hm4
 go_wp2_with fail
 refine (HBl.out _ h5.st).mono ?_
 rintro e w6 ⟨vb, rfl, hr6, z6, t6⟩
 have h6 := h5.step z6 t6
 obtain ⟨ba, bc, rfl⟩ := hr6.shape
 obtain ⟨bn, hbn⟩ : ∃ bn, bn = b.length := ⟨_, rfl⟩
 rw [← hbn] at hr6 ⊢
 have HBn := hide hbn
 clear hbn
 obtain ⟨W7, eW7⟩ : ∃ W7, W7 = w6.alloc (.cells #[.string nm, .slice pa pn pc, .slice ba bn bc] 43) := ⟨_, rfl⟩
 obtain ⟨B7, eB7⟩ : ∃ B7, B7 = w6.heap.size := ⟨_, rfl⟩
 have hPB := HB.out.2.1
 have hB := HB.out.1
 have h4s := h4.t.size
 have h45 := HT5.out.size
 have h56 := t6.size
 obtain ⟨v8, W8, r8, t8, o8, q8⟩ := HQ.out.addF (f := ⟨nm, ps, b⟩) (B1 := w4.heap.size) (vp := .slice pa pn pc) (vb := .slice ba bn bc) h6.t (fun k hk => by rw [hk]; exact hPB.1) hB h4s (Nat.le_trans h45 h56)
  (fun W hW => own_strs (own_tcs HR5.out (((t6.mono (fun k hk => by rw [hk]; exact Nat.lt_of_lt_of_le hPB.1 (Nat.le_trans hB h4s))).trans hW) : Tcs (fun k => k < w4.heap.size) w5 W) (fun k hk => hk)))
  (fun W hW => hr6.stmts W (hW.mono fun k hk => Nat.lt_of_lt_of_le hk h45)) eW7 eB7 HB.out.2.2.2
 have hvf := HQ.out.rf
 have HFin : Hid (∀ We, Tcs (fun k => k = M ∨ k = R) W8 We → TopA G B w (addT t (.inr ⟨nm, ps, b⟩)) s2 (.returned (.agg #[.slice ga gn gc, v8])) We) := fun We hE => h6.fin hB hPB t8 (fun k hk => (hvf k hk).1) (fun We hE => q8 We (hE.mono fun k hk => by have := HM4.out; omega)) hE
 have hx8 : FrC W8 M [.slice ga gn gc, .slice fa fn fc] := h6.bx.tcs h6.m.2.1 t8 (fun e => by have := (hvf _ e).2; have := HM4.out; omega)
 have hy8 : FrC W8 R [.slice none 0 0, .slice none 0 0] := h6.rs.tcs h6.m.2.2.2.1 t8 (fun e => by have := (hvf _ e).2; have := HM4.out; omega)
 obtain ⟨ua, un, uc, rfl⟩ : ∃ ua un uc, v8 = .slice ua un uc := by
  obtain ⟨Q, -, h2⟩ := (q8 W8 (Tcs.refl _ _)).fs
  obtain ⟨a, c, e, -⟩ := own_shape h2.row
  exact ⟨_, _, _, e⟩
 have hMR : M ≠ R := h6.m.2.2.2.2
 have x80 := hx8 0 _ rfl
 have x81 := hx8 1 _ rfl
 have y80 := hy8 0 _ rfl
 have y81 := hy8 1 _ rfl
 have m0 := h6.bx 0 _ rfl
 have m1 := h6.bx 1 _ rfl
 have HW7 := hide eW7
 have HB7 := hide eB7
 have HR8 := hide r8
 clear eW7 eB7 r8 t8 o8 q8 hvf h45 h56 h4s hB hPB h6 h5 h4 z6 t6 hr6 hx8 hy8
 go_wp2_with (at_builtin; rw [← HW7.out, ← HB7.out]; refine wpList_appG rfl _ _ _ rfl _ _ (.slice ua un uc) W8 rfl rfl HR8.out ?_)
 have HEn := hide (HFin.out _ ((((Tcs.refl (fun k => k = M ∨ k = R) W8).setCell (p := ⟨M, 1, none⟩) (.inl rfl) (.slice ua un uc)).setCell (p := ⟨R, 0, none⟩) (.inr rfl) (.slice ga gn gc)).setCell (p := ⟨R, 1, none⟩) (.inr rfl) (.slice ua un uc)))
 clear HFin
 have hRM : ¬ R = M := fun e => hMR e.symm
 refine bodyPost_ret (v := .agg #[.slice ga gn gc, .slice ua un uc]) (by simp [results, Tryz.results24, go_sem, x80, x81, y80, y81, hRM, hMR]) rfl HEn.out
end
section
open Go.RowKit
set_option maxRecDepth 100000 in
set_option maxHeartbeats 4000000 in
theorem top_ga {G : GT} (hL : Las G.T G.K) {n : Nat} {w : World} {s : PS} {B : Nat} {vg vf : Value} {t : Tr} (hi : isS G.T [40] (hdS G.T s).2 = false) (h9 : isS G.T [91] (hdS G.T s).2 = true) (hop : OpB (n + 1) s) (hS : PSt G w s) (hq : TQ B w vg vf t) (hB : B ≤ w.heap.size) (hPB : G.P < B ∧ G.bT < B) (htl : t.globals.length ≤ 100000 ∧ t.funcs.length ≤ 100000) :
  Calls Tryz.prog 24 #[.pointer (some ⟨G.P, 0, none⟩), .agg #[vg, vf]] w (TopA G B w (addT t (.inl ⟨(hdS G.T s).1, szO (nuS G.T (opS G.T [91] (hdS G.T s).2)).1⟩)) (taS G.T [59] (clS G.T [93] (nuS G.T (opS G.T [91] (hdS G.T s).2)).2))) := by
 obtain ⟨ga, gc, hge, -⟩ := own_shape hq.gs
 obtain ⟨fa, fn, fc, hfe⟩ : ∃ fa fn fc, vf = .slice fa fn fc := by
  obtain ⟨Q, h1, h2⟩ := hq.fs
  obtain ⟨a, c, e, -⟩ := own_shape h2.row
  exact ⟨_, _, _, e⟩
 obtain ⟨gn, hgn⟩ : ∃ gn, gn = t.globals.length := ⟨_, rfl⟩
 rw [← hgn] at hge
 subst hge hfe
 clear hgn
 obtain ⟨W1, hW1⟩ : ∃ W1, W1 = (w.alloc (.cells #[.slice ga gn gc, .slice fa fn fc] 26)).alloc (.cells #[.slice none 0 0, .slice none 0 0] 26) := ⟨_, rfl⟩
 obtain ⟨M, hM⟩ : ∃ M, M = w.heap.size := ⟨_, rfl⟩
 obtain ⟨R, hR⟩ : ∃ R, R = w.heap.size + 1 := ⟨_, rfl⟩
 have h1 := tb_new hS hW1 hM hR
 have HTa : Hid (∀ W, PSt G W s → Calls Tryz.prog 49 #[.pointer (some ⟨G.P, 0, none⟩), .string (tx [105, 110, 116])] W fun e w' => e = .returned (.tuple #[]) ∧ PSt G w' (taS G.T [105, 110, 116] s) ∧ Tcs (fun k => k = G.P) W w') := fun W hW => ta_any hL hW _
 have HNa : Hid (∀ W, PSt G W (taS G.T [105, 110, 116] s) → Calls Tryz.prog 50 #[.pointer (some ⟨G.P, 0, none⟩)] W fun e w' => e = .returned (.string (hdS G.T s).1) ∧ PSt G w' (hdS G.T s).2 ∧ Tcs (fun k => k = G.P) W w') := fun W hW => name0_any hL hW
 have hyo : OpB (n + 1) (hdS G.T s).2 := hop.of (hd_op s)
 have HL := hide hL
 have HQ := hide hq
 have HB := hide (And.intro hB (And.intro hPB htl))
 generalize hdS G.T s = hz at *
 obtain ⟨nm, y⟩ := hz
 dsimp only at *
 have hyo1 : OpB n (opS G.T [91] y) := hyo.on [91]
 have HOn : Hid (∀ W, PSt G W y → Calls Tryz.prog 54 #[.pointer (some ⟨G.P, 0, none⟩), .string (tx [91])] W fun e w' => e = .returned (.tuple #[]) ∧ PSt G w' (opS G.T [91] y) ∧ Tcs (fun k => k = G.P) W w') := fun W hW => open_any HL.out hW hyo.bd _
 have HNu : Hid (∀ W, PSt G W (opS G.T [91] y) → Calls Tryz.prog 55 #[.pointer (some ⟨G.P, 0, none⟩)] W fun e w' => e = .returned (.int .i64 (nuS G.T (opS G.T [91] y)).1) ∧ PSt G w' (nuS G.T (opS G.T [91] y)).2 ∧ Tcs (fun k => k = G.P) W w') := fun W hW => num0_any HL.out hW
 have HCl : Hid (∀ W, PSt G W (nuS G.T (opS G.T [91] y)).2 → Calls Tryz.prog 56 #[.pointer (some ⟨G.P, 0, none⟩), .string (tx [93])] W fun e w' => e = .returned (.tuple #[]) ∧ PSt G w' (clS G.T [93] (nuS G.T (opS G.T [91] y)).2) ∧ Tcs (fun k => k = G.P) W w') := fun W hW => close_any HL.out hW (hyo1.of (nu_op _)).bd _
 generalize opS G.T [91] y = y1 at *
 generalize nuS G.T y1 = uz at *
 obtain ⟨u, y2⟩ := uz
 dsimp only at *
 have HTk : Hid (∀ W, PSt G W (clS G.T [93] y2) → Calls Tryz.prog 49 #[.pointer (some ⟨G.P, 0, none⟩), .string (tx [59])] W fun e w' => e = .returned (.tuple #[]) ∧ PSt G w' (taS G.T [59] (clS G.T [93] y2)) ∧ Tcs (fun k => k = G.P) W w') := fun W hW => ta_any HL.out hW _
 clear hyo1
 have HW1 := hide hW1
 have HM := hide hM
 have HR := hide hR
 clear hW1 hM hR hL hq hB hPB htl hop hS hyo
 go_enter Tryz.func24, Tryz.ntmps24
 go_upto_region 1 with fail
 rw [← HW1.out, ← HR.out, ← HM.out]
 go_wp2_with fail
 refine (HTa.out _ h1.st).mono ?_
 rintro e w2 ⟨rfl, z2, t2⟩
 have h2 := h1.step z2 t2
 clear z2 t2 h1
 go_wp2_with fail
 refine (HNa.out _ h2.st).mono ?_
 rintro e w3 ⟨rfl, z3, t3⟩
 have h3 := h2.step z3 t3
 clear z3 t3 h2
 go_wp2_with fail
 refine (is_any h3.st [40]).mono ?_
 rintro e w4 ⟨rfl, b4⟩
 rw [hi]
 have h4 := h3.below b4
 clear b4 h3
 obtain ⟨W5, eW5⟩ : ∃ W5, W5 = w4.alloc (.cells #[.string nm, .int .i64 0] 74) := ⟨_, rfl⟩
 obtain ⟨N, eN⟩ : ∃ N, N = w4.heap.size := ⟨_, rfl⟩
 have h5 := glb_new h4 eW5 eN
 have HW5 := hide eW5
 have HN := hide eN
 clear eW5 eN h4
 go_upto_region 9 with fail
 rw [← HW5.out, ← HN.out]
 go_wp2_with fail
 refine (is_any h5.tb.st [91]).mono ?_
 rintro e w6 ⟨rfl, b6⟩
 rw [h9]
 have h6 := h5.below b6
 clear b6 h5
 go_wp2_with fail
 refine (HOn.out _ h6.tb.st).mono ?_
 rintro e w7 ⟨rfl, z7, t7⟩
 have h7 := h6.step z7 t7
 clear z7 t7 h6
 go_wp2_with fail
 refine (HNu.out _ h7.tb.st).mono ?_
 rintro e w8 ⟨rfl, z8, t8⟩
 have h8 := h7.step z8 t8
 clear z8 t8 h7
 obtain ⟨X9, eX9⟩ : ∃ X9, X9 = w8.setCell ⟨N, 1, none⟩ (.int .i64 u) := ⟨_, rfl⟩
 have h10 := h8.put u eX9
 have n81 := h8.nx 1 _ rfl
 have HX9 := hide eX9
 clear eX9 h8
 go_upto_region 12 with fail
 rw [← HX9.out]
 clear n81
 have n91 := h10.nx 1 _ rfl
 by_cases hu0 : u = 0
 ·subst hu0
  obtain ⟨X11, eX11⟩ : ∃ X11, X11 = X9.setCell ⟨N, 1, none⟩ (.int .i64 (-1)) := ⟨_, rfl⟩
  have h11 := h10.put (-1) eX11
  have HX11 := hide eX11
  clear eX11 h10
  go_upto_region 14 with fail
  rw [← HX11.out]
  clear n91
  go_wp2_with fail
  refine (HCl.out _ h11.tb.st).mono ?_
  rintro e w12 ⟨rfl, z12, t12⟩
  have h12 := h11.step z12 t12
  clear z12 t12 h11
  go_wp2_with fail
  refine (HTk.out _ h12.tb.st).mono ?_
  rintro e w13 ⟨rfl, z13, t13⟩
  have h13 := h12.step z13 t13
  clear z13 t13 h12
  obtain ⟨W7, eW7⟩ : ∃ W7, W7 = w13.alloc (.cells #[.string nm, .int .i64 (-1)] 74) := ⟨_, rfl⟩
  obtain ⟨B7, eB7⟩ : ∃ B7, B7 = w13.heap.size := ⟨_, rfl⟩
  have hPB := HB.out.2.1
  have hB := HB.out.1
  obtain ⟨v8, W8, r8, t8, o8, q8⟩ := HQ.out.addG (g := ⟨nm, (-1)⟩) h13.tb.t (fun k hk => by rw [hk]; exact hPB.1) hB eW7 eB7 HB.out.2.2.1
  have hvg := HQ.out.rg
  have hm := h13.tb.m
  have HFin : Hid (∀ We, Tcs (fun k => k = M ∨ k = R) W8 We → TopA G B w (addT t (.inl ⟨nm, (-1)⟩)) (taS G.T [59] (clS G.T [93] y2)) (.returned (.agg #[v8, .slice fa fn fc])) We) := fun We hE => h13.tb.fin hB hPB t8 (fun k hk => (hvg k hk).1) (fun We hE => q8 We (hE.mono fun k hk => by omega)) hE
  have hx8 : FrC W8 M [.slice ga gn gc, .slice fa fn fc] := h13.tb.bx.tcs hm.2.1 t8 (fun e => by have := (hvg _ e).2; omega)
  have hy8 : FrC W8 R [.slice none 0 0, .slice none 0 0] := h13.tb.rs.tcs hm.2.2.2.1 t8 (fun e => by have := (hvg _ e).2; omega)
  obtain ⟨ua, un, uc, rfl⟩ : ∃ ua un uc, v8 = .slice ua un uc := by
   obtain ⟨a, c, e, -⟩ := own_shape (q8 W8 (Tcs.refl _ _)).gs
   exact ⟨_, _, _, e⟩
  have hMR : M ≠ R := hm.2.2.2.2
  have x80 := hx8 0 _ rfl
  have x81 := hx8 1 _ rfl
  have y80 := hy8 0 _ rfl
  have y81 := hy8 1 _ rfl
  have m0 := h13.tb.bx 0 _ rfl
  have n0 := h13.nx 0 _ rfl
  have n1 := h13.nx 1 _ rfl
  have HW7 := hide eW7
  have HB7 := hide eB7
  have HR8 := hide r8
  clear eW7 eB7 r8 t8 o8 q8 hvg hm hB hPB h13 hx8 hy8
  go_wp2_with (at_builtin; rw [← HW7.out, ← HB7.out]; refine wpList_appG rfl _ _ _ rfl _ _ (.slice ua un uc) W8 rfl rfl HR8.out ?_)
  have HEn := hide (HFin.out _ ((((Tcs.refl (fun k => k = M ∨ k = R) W8).setCell (p := ⟨M, 0, none⟩) (.inl rfl) (.slice ua un uc)).setCell (p := ⟨R, 0, none⟩) (.inr rfl) (.slice ua un uc)).setCell (p := ⟨R, 1, none⟩) (.inr rfl) (.slice fa fn fc)))
  clear HFin
  have hRM : ¬ R = M := fun e => hMR e.symm
  refine bodyPost_ret (v := .agg #[.slice ua un uc, .slice fa fn fc]) (by simp [results, Tryz.results24, go_sem, x80, x81, y80, y81, hRM, hMR]) rfl (by rw [show szO 0 = -1 from rfl]; exact HEn.out)
 ·clear HX9
  go_upto_region 14 with fail
  clear n91
  have h11 := h10
  clear h10
  go_wp2_with fail
  refine (HCl.out _ h11.tb.st).mono ?_
  rintro e w12 ⟨rfl, z12, t12⟩
  have h12 := h11.step z12 t12
  clear z12 t12 h11
  go_wp2_with fail
  refine (HTk.out _ h12.tb.st).mono ?_
  rintro e w13 ⟨rfl, z13, t13⟩
  have h13 := h12.step z13 t13
  clear z13 t13 h12
  obtain ⟨W7, eW7⟩ : ∃ W7, W7 = w13.alloc (.cells #[.string nm, .int .i64 u] 74) := ⟨_, rfl⟩
  obtain ⟨B7, eB7⟩ : ∃ B7, B7 = w13.heap.size := ⟨_, rfl⟩
  have hPB := HB.out.2.1
  have hB := HB.out.1
  obtain ⟨v8, W8, r8, t8, o8, q8⟩ := HQ.out.addG (g := ⟨nm, u⟩) h13.tb.t (fun k hk => by rw [hk]; exact hPB.1) hB eW7 eB7 HB.out.2.2.1
  have hvg := HQ.out.rg
  have hm := h13.tb.m
  have HFin : Hid (∀ We, Tcs (fun k => k = M ∨ k = R) W8 We → TopA G B w (addT t (.inl ⟨nm, u⟩)) (taS G.T [59] (clS G.T [93] y2)) (.returned (.agg #[v8, .slice fa fn fc])) We) := fun We hE => h13.tb.fin hB hPB t8 (fun k hk => (hvg k hk).1) (fun We hE => q8 We (hE.mono fun k hk => by omega)) hE
  have hx8 : FrC W8 M [.slice ga gn gc, .slice fa fn fc] := h13.tb.bx.tcs hm.2.1 t8 (fun e => by have := (hvg _ e).2; omega)
  have hy8 : FrC W8 R [.slice none 0 0, .slice none 0 0] := h13.tb.rs.tcs hm.2.2.2.1 t8 (fun e => by have := (hvg _ e).2; omega)
  obtain ⟨ua, un, uc, rfl⟩ : ∃ ua un uc, v8 = .slice ua un uc := by
   obtain ⟨a, c, e, -⟩ := own_shape (q8 W8 (Tcs.refl _ _)).gs
   exact ⟨_, _, _, e⟩
  have hMR : M ≠ R := hm.2.2.2.2
  have x80 := hx8 0 _ rfl
  have x81 := hx8 1 _ rfl
  have y80 := hy8 0 _ rfl
  have y81 := hy8 1 _ rfl
  have m0 := h13.tb.bx 0 _ rfl
  have n0 := h13.nx 0 _ rfl
  have n1 := h13.nx 1 _ rfl
  have HW7 := hide eW7
  have HB7 := hide eB7
  have HR8 := hide r8
  clear eW7 eB7 r8 t8 o8 q8 hvg hm hB hPB h13 hx8 hy8
  go_wp2_with (at_builtin; rw [← HW7.out, ← HB7.out]; refine wpList_appG rfl _ _ _ rfl _ _ (.slice ua un uc) W8 rfl rfl HR8.out ?_)
  have HEn := hide (HFin.out _ ((((Tcs.refl (fun k => k = M ∨ k = R) W8).setCell (p := ⟨M, 0, none⟩) (.inl rfl) (.slice ua un uc)).setCell (p := ⟨R, 0, none⟩) (.inr rfl) (.slice ua un uc)).setCell (p := ⟨R, 1, none⟩) (.inr rfl) (.slice fa fn fc)))
  clear HFin
  have hRM : ¬ R = M := fun e => hMR e.symm
  refine bodyPost_ret (v := .agg #[.slice ua un uc, .slice fa fn fc]) (by simp [results, Tryz.results24, go_sem, x80, x81, y80, y81, hRM, hMR]) rfl (by rw [show szO u = u from if_neg hu0]; exact HEn.out)
end
section
open Go.RowKit
set_option maxRecDepth 100000 in
set_option maxHeartbeats 4000000 in
theorem top_gv {G : GT} (hL : Las G.T G.K) {n : Nat} {w : World} {s : PS} {B : Nat} {vg vf : Value} {t : Tr} (hi : isS G.T [40] (hdS G.T s).2 = false) (h9 : isS G.T [91] (hdS G.T s).2 = false) (hop : OpB (n + 1) s) (hS : PSt G w s) (hq : TQ B w vg vf t) (hB : B ≤ w.heap.size) (hPB : G.P < B ∧ G.bT < B) (htl : t.globals.length ≤ 100000 ∧ t.funcs.length ≤ 100000) :
  Calls Tryz.prog 24 #[.pointer (some ⟨G.P, 0, none⟩), .agg #[vg, vf]] w (TopA G B w (addT t (.inl ⟨(hdS G.T s).1, 0⟩)) (taS G.T [59] (hdS G.T s).2)) := by
 obtain ⟨ga, gc, hge, -⟩ := own_shape hq.gs
 obtain ⟨fa, fn, fc, hfe⟩ : ∃ fa fn fc, vf = .slice fa fn fc := by
  obtain ⟨Q, h1, h2⟩ := hq.fs
  obtain ⟨a, c, e, -⟩ := own_shape h2.row
  exact ⟨_, _, _, e⟩
 obtain ⟨gn, hgn⟩ : ∃ gn, gn = t.globals.length := ⟨_, rfl⟩
 rw [← hgn] at hge
 subst hge hfe
 clear hgn
 obtain ⟨W1, hW1⟩ : ∃ W1, W1 = (w.alloc (.cells #[.slice ga gn gc, .slice fa fn fc] 26)).alloc (.cells #[.slice none 0 0, .slice none 0 0] 26) := ⟨_, rfl⟩
 obtain ⟨M, hM⟩ : ∃ M, M = w.heap.size := ⟨_, rfl⟩
 obtain ⟨R, hR⟩ : ∃ R, R = w.heap.size + 1 := ⟨_, rfl⟩
 have h1 := tb_new hS hW1 hM hR
 have HTa : Hid (∀ W, PSt G W s → Calls Tryz.prog 49 #[.pointer (some ⟨G.P, 0, none⟩), .string (tx [105, 110, 116])] W fun e w' => e = .returned (.tuple #[]) ∧ PSt G w' (taS G.T [105, 110, 116] s) ∧ Tcs (fun k => k = G.P) W w') := fun W hW => ta_any hL hW _
 have HNa : Hid (∀ W, PSt G W (taS G.T [105, 110, 116] s) → Calls Tryz.prog 50 #[.pointer (some ⟨G.P, 0, none⟩)] W fun e w' => e = .returned (.string (hdS G.T s).1) ∧ PSt G w' (hdS G.T s).2 ∧ Tcs (fun k => k = G.P) W w') := fun W hW => name0_any hL hW
 have hyo : OpB (n + 1) (hdS G.T s).2 := hop.of (hd_op s)
 have HL := hide hL
 have HQ := hide hq
 have HB := hide (And.intro hB (And.intro hPB htl))
 generalize hdS G.T s = hz at *
 obtain ⟨nm, y⟩ := hz
 dsimp only at *
 have HTk : Hid (∀ W, PSt G W y → Calls Tryz.prog 49 #[.pointer (some ⟨G.P, 0, none⟩), .string (tx [59])] W fun e w' => e = .returned (.tuple #[]) ∧ PSt G w' (taS G.T [59] y) ∧ Tcs (fun k => k = G.P) W w') := fun W hW => ta_any HL.out hW _
 have HW1 := hide hW1
 have HM := hide hM
 have HR := hide hR
 clear hW1 hM hR hL hq hB hPB htl hop hS hyo
 go_enter Tryz.func24, Tryz.ntmps24
 go_upto_region 1 with fail
 rw [← HW1.out, ← HR.out, ← HM.out]
 go_wp2_with fail
 refine (HTa.out _ h1.st).mono ?_
 rintro e w2 ⟨rfl, z2, t2⟩
 have h2 := h1.step z2 t2
 clear z2 t2 h1
 go_wp2_with fail
 refine (HNa.out _ h2.st).mono ?_
 rintro e w3 ⟨rfl, z3, t3⟩
 have h3 := h2.step z3 t3
 clear z3 t3 h2
 go_wp2_with fail
 refine (is_any h3.st [40]).mono ?_
 rintro e w4 ⟨rfl, b4⟩
 rw [hi]
 have h4 := h3.below b4
 clear b4 h3
 obtain ⟨W5, eW5⟩ : ∃ W5, W5 = w4.alloc (.cells #[.string nm, .int .i64 0] 74) := ⟨_, rfl⟩
 obtain ⟨N, eN⟩ : ∃ N, N = w4.heap.size := ⟨_, rfl⟩
 have h5 := glb_new h4 eW5 eN
 have HW5 := hide eW5
 have HN := hide eN
 clear eW5 eN h4
 go_upto_region 9 with fail
 rw [← HW5.out, ← HN.out]
 go_wp2_with fail
 refine (is_any h5.tb.st [91]).mono ?_
 rintro e w6 ⟨rfl, b6⟩
 rw [h9]
 have h6 := h5.below b6
 clear b6 h5
 go_wp2_with fail
 refine (HTk.out _ h6.tb.st).mono ?_
 rintro e w9 ⟨rfl, z9, t9⟩
 have h9' := h6.step z9 t9
 clear z9 t9 h6
 obtain ⟨W7, eW7⟩ : ∃ W7, W7 = w9.alloc (.cells #[.string nm, .int .i64 0] 74) := ⟨_, rfl⟩
 obtain ⟨B7, eB7⟩ : ∃ B7, B7 = w9.heap.size := ⟨_, rfl⟩
 have hPB := HB.out.2.1
 have hB := HB.out.1
 obtain ⟨v8, W8, r8, t8, o8, q8⟩ := HQ.out.addG (g := ⟨nm, 0⟩) h9'.tb.t (fun k hk => by rw [hk]; exact hPB.1) hB eW7 eB7 HB.out.2.2.1
 have hvg := HQ.out.rg
 have hm := h9'.tb.m
 have HFin : Hid (∀ We, Tcs (fun k => k = M ∨ k = R) W8 We → TopA G B w (addT t (.inl ⟨nm, 0⟩)) (taS G.T [59] y) (.returned (.agg #[v8, .slice fa fn fc])) We) := fun We hE => h9'.tb.fin hB hPB t8 (fun k hk => (hvg k hk).1) (fun We hE => q8 We (hE.mono fun k hk => by omega)) hE
 have hx8 : FrC W8 M [.slice ga gn gc, .slice fa fn fc] := h9'.tb.bx.tcs hm.2.1 t8 (fun e => by have := (hvg _ e).2; omega)
 have hy8 : FrC W8 R [.slice none 0 0, .slice none 0 0] := h9'.tb.rs.tcs hm.2.2.2.1 t8 (fun e => by have := (hvg _ e).2; omega)
 obtain ⟨ua, un, uc, rfl⟩ : ∃ ua un uc, v8 = .slice ua un uc := by
  obtain ⟨a, c, e, -⟩ := own_shape (q8 W8 (Tcs.refl _ _)).gs
  exact ⟨_, _, _, e⟩
 have hMR : M ≠ R := hm.2.2.2.2
 have x80 := hx8 0 _ rfl
 have x81 := hx8 1 _ rfl
 have y80 := hy8 0 _ rfl
 have y81 := hy8 1 _ rfl
 have m0 := h9'.tb.bx 0 _ rfl
 have n0 := h9'.nx 0 _ rfl
 have n1 := h9'.nx 1 _ rfl
 have HW7 := hide eW7
 have HB7 := hide eB7
 have HR8 := hide r8
 clear eW7 eB7 r8 t8 o8 q8 hvg hm hB hPB h9' hx8 hy8
 go_wp2_with (at_builtin; rw [← HW7.out, ← HB7.out]; refine wpList_appG rfl _ _ _ rfl _ _ (.slice ua un uc) W8 rfl rfl HR8.out ?_)
 have HEn := hide (HFin.out _ ((((Tcs.refl (fun k => k = M ∨ k = R) W8).setCell (p := ⟨M, 0, none⟩) (.inl rfl) (.slice ua un uc)).setCell (p := ⟨R, 0, none⟩) (.inr rfl) (.slice ua un uc)).setCell (p := ⟨R, 1, none⟩) (.inr rfl) (.slice fa fn fc)))
 clear HFin
 have hRM : ¬ R = M := fun e => hMR e.symm
 refine bodyPost_ret (v := .agg #[.slice ua un uc, .slice fa fn fc]) (by simp [results, Tryz.results24, go_sem, x80, x81, y80, y81, hRM, hMR]) rfl HEn.out
end
section
open Go.RowKit
theorem top_any {G : GT} (hL : Las G.T G.K) {n : Nat} {w : World} {s : PS} {x : Gl ⊕ Fu} {s' : PS} {B : Nat} {vg vf : Value} {t : Tr} (hp : Tp G.T n s x s') (hx : ∀ f, x = .inr f → f.params.length ≤ 1000000 ∧ szS f.body ≤ 1000000) (hop : OpB (n + 1) s) (hS : PSt G w s) (hq : TQ B w vg vf t) (hB : B ≤ w.heap.size) (hPB : G.P < B ∧ G.bT < B) (htl : t.globals.length ≤ 100000 ∧ t.funcs.length ≤ 100000) :
  Calls Tryz.prog 24 #[.pointer (some ⟨G.P, 0, none⟩), .agg #[vg, vf]] w (TopA G B w (addT t x) s') := by
 cases hp using Tp_i with
 | fn ps s1 b _ h1 h2 h3 => exact top_fn hL h1 h2 h3 (hx _ rfl) hop hS hq hB hPB htl
 | ga h1 h2 => exact top_ga hL h1 h2 hop hS hq hB hPB htl
 | gv h1 h2 => exact top_gv hL h1 h2 hop hS hq hB hPB htl
theorem Tp.op {T : Nat → To} {n : Nat} {s : PS} {x : Gl ⊕ Fu} {s' : PS} (h : Tp T n s x s') : s'.op = s.op := by
 cases h using Tp_i with
 | fn ps s1 b _ h1 h2 h3 => rw [h3.op, cl_op, h2.op, on_op, hd_op]; omega
 | ga h1 h2 => rw [ta_op, cl_op, nu_op, on_op, hd_op]; omega
 | gv h1 h2 => rw [ta_op, hd_op]
end
section
open Go.RowKit
structure PB (G : GT) (B : Nat) (w0 : World) (R N : Nat) (vg vf : Value) (t : Tr) (W : World) (z : PS) : Prop where
 st : PSt G W z
 tq : TQ B W vg vf t
 bx : FrC W N [vg, vf]
 rs : FrC W R [.int .i64 0, .int .i64 0, .slice none 0 0, .slice none 0 0]
 bb : Below w0.heap.size w0 W
 lt : G.P < B ∧ G.bT < B ∧ R < B ∧ N < B ∧ B ≤ W.heap.size
 ge : w0.heap.size ≤ G.P ∧ w0.heap.size ≤ G.bT ∧ w0.heap.size ≤ R ∧ w0.heap.size ≤ N
 ne : R ≠ N ∧ G.P ≠ N ∧ G.bT ≠ N ∧ G.P ≠ R
section
variable {G : GT} {B : Nat} {w0 W W' : World} {R N : Nat} {vg vf : Value} {t : Tr} {z z' : PS}
theorem PB.below (h : PB G B w0 R N vg vf t W z) (hb : Below W.heap.size W W') : PB G B w0 R N vg vf t W' z :=
 ⟨h.st.below hb, h.tq.below hb, h.bx.below hb, h.rs.below hb, h.bb.trans (hb.mono h.bb.size), by have := h.lt; have := hb.size; omega, h.ge, h.ne⟩
theorem PB.next {t' : Tr} {vg' vf' : Value} {X : World} (h : PB G B w0 R N vg vf t W z) (hz : PSt G W' z') (hq : TQ B W' vg' vf' t') (ht : Tcs (fun k => k = G.P ∨ B ≤ k) W W') (hX : X = (W'.setCell ⟨N, 0, none⟩ vg').setCell ⟨N, 1, none⟩ vf') :
  (W'.cell? ⟨N, 0, none⟩ = some vg ∧ W'.frozen? ⟨N, 0, none⟩ = false ∧ W'.cell? ⟨N, 1, none⟩ = some vf ∧ W'.frozen? ⟨N, 1, none⟩ = false) ∧ PB G B w0 R N vg' vf' t' X z' := by
 have hl := h.lt
 have hg := h.ge
 have hn := h.ne
 have hs := ht.size
 have hbx : FrC W' N [vg, vf] := h.bx.tcs (by omega) ht (fun e => by omega)
 have hrs : FrC W' R [.int .i64 0, .int .i64 0, .slice none 0 0, .slice none 0 0] := h.rs.tcs (by omega) ht (fun e => by omega)
 have tX : Tcs (fun k => k = N) W' X := by rw [hX]; exact ((Tcs.refl (fun k => k = N) W').setCell (p := ⟨N, 0, none⟩) rfl _).setCell (p := ⟨N, 1, none⟩) rfl _
 have hsx := tX.size
 have tb : Below w0.heap.size w0 W' := ht.below h.bb h.bb.size (fun k hk => by omega)
 refine ⟨⟨(hbx 0 _ rfl).1, (hbx 0 _ rfl).2, (hbx 1 _ rfl).1, (hbx 1 _ rfl).2⟩, hz.tcs tX (fun e => by omega) (fun e => by omega), hq.tcs tX (fun k hk => by omega), ?_, hrs.tcs (by omega) tX (fun e => by omega), tX.below tb tb.size (fun k hk => by omega), by omega, hg, hn⟩
 rw [hX]
 exact (hbx.set 0 vg').set 1 vf'
end
theorem las_uniq {T : Nat → To} {K J : Nat} (h : Las T K) (h' : Las T J) : J = K := by
 rcases Nat.lt_trichotomy J K with e | e | e
 ·have := h.lt J e; have := h'.at4; omega
 ·exact e
 ·have := h'.lt K e; have := h.at4; omega
theorem pb_new {w W1 w2 W3 W4 : World} {R bT cT K P N : Nat} {T : Nat → To} (hb1 : Below w.heap.size w W1) (hx1 : FrC W1 R [.int .i64 0, .int .i64 0, .slice none 0 0, .slice none 0 0]) (hR : w.heap.size ≤ R) (hb2 : Below W1.heap.size W1 w2) (h1 : W1.heap.size ≤ bT) (h2 : bT < w2.heap.size) (htk : ∀ P, TkS w2 ⟨P, bT, cT, K, T⟩) (hK : K ≤ 20000)
  (hP : P = w2.heap.size) (hN : N = w2.heap.size + 1) (hW3 : W3 = w2.alloc (.cells #[.slice (some ⟨bT, 0, none⟩) (K + 1) cT, .int .i64 0, .int .i64 0, .int .i64 0, .int .i64 0] 53)) (hW4 : W4 = W3.alloc (.cells #[.slice none 0 0, .slice none 0 0] 26)) :
  PB ⟨P, bT, cT, K, T⟩ (w2.heap.size + 2) w R N (.slice none 0 0) (.slice none 0 0) t00 W4 s00 := by
 have hb3 : Below w2.heap.size w2 W3 := by rw [hW3]; exact (Below.refl _ _).alloc (Nat.le_refl _) _
 have hb4 : Below W3.heap.size W3 W4 := by rw [hW4]; exact (Below.refl _ _).alloc (Nat.le_refl _) _
 have s3 : W3.heap.size = w2.heap.size + 1 := by rw [hW3]; simp
 have s4 : W4.heap.size = W3.heap.size + 1 := by rw [hW4]; simp
 have s1 := hb1.size
 have s2 := hb2.size
 have hRl : R < W1.heap.size := World.block_lt_of_cell? _ _ (hx1 0 _ rfl).1
 have hx3 : FrC W3 P (GT.box ⟨P, bT, cT, K, T⟩ s00) := by rw [hW3, hP]; exact box_fr w2 #[.slice (some ⟨bT, 0, none⟩) (K + 1) cT, .int .i64 0, .int .i64 0, .int .i64 0, .int .i64 0] _ (by show 5 ≤ 1000; omega)
 have hx4 : FrC W4 N [.slice none 0 0, .slice none 0 0] := by
  have e : N = W3.heap.size := by omega
  rw [hW4, e]; exact box_fr W3 #[.slice none 0 0, .slice none 0 0] _ (by show 2 ≤ 1000; omega)
 have hst : PSt ⟨P, bT, cT, K, T⟩ W3 s00 := ⟨hx3, (htk P).tcs (S := fun _ => False) hb3.tcs (fun h => h), by show bT ≠ P; omega, Nat.zero_le _, by show K ≤ 1000000; omega, by show (-9000000 : Int) ≤ 0 ∧ (0 : Int) ≤ 9000000; omega⟩
 exact ⟨hst.below hb4, tq_nil _ _, hx4, ((hx1.below hb2).below hb3).below hb4, ((hb1.trans (hb2.mono s1)).trans (hb3.mono (by omega))).trans (hb4.mono (by omega)), by show P < _ ∧ bT < _ ∧ R < _ ∧ N < _ ∧ _ ≤ _; omega, by show _ ≤ P ∧ _ ≤ bT ∧ _ ≤ R ∧ _ ≤ N; omega, by show R ≠ N ∧ P ≠ N ∧ bT ≠ N ∧ P ≠ R; omega⟩
def PcA (l : List UInt8) (r : Int × Int × Tr) (w : World) (e : Ending) (w' : World) : Prop := ∃ vg vf, e = .returned (.agg #[.int .i64 r.1, .int .i64 r.2.1, vg, vf]) ∧ Globs w' vg r.2.2.globals ∧ Funcs w' vf r.2.2.funcs ∧ Below w.heap.size w w'
theorem nog (w : World) : Globs w (.slice none 0 0) [] := ⟨none, 0, rfl, Nat.le_refl _, by omega, fun h => absurd h (by simp)⟩
theorem nof (w : World) : Funcs w (.slice none 0 0) [] := ⟨none, 0, rfl, Nat.le_refl _, by omega, fun h => absurd h (by simp)⟩
theorem PB.ans {G : GT} {B : Nat} {w0 W X : World} {R N : Nat} {vg vf ug uf : Value} {t t' : Tr} {z : PS} {a b : Int} (l : List UInt8) (h : PB G B w0 R N vg vf t W z) (hX : Tcs (fun k => k = R) W X) (hg : Globs X ug t'.globals ∧ Funcs X uf t'.funcs) {r : Int × Int × Tr} (hr : (a, b, t') = r) : PcA l r w0 (.returned (.agg #[.int .i64 a, .int .i64 b, ug, uf])) X := by
 subst hr
 exact ⟨ug, uf, rfl, hg.1, hg.2, hX.below h.bb h.bb.size (fun k hk => by rw [hk]; exact h.ge.2.2.1)⟩
set_option maxRecDepth 100000 in
set_option maxHeartbeats 4000000 in
theorem parseG_big (w : World) (b c : Nat) (l : List UInt8) (hl : 20000 < l.length) (hm : l.length ≤ 9223372036854775807) :
  Calls Tryz.prog 6 #[.slice (some ⟨b, 0, none⟩) l.length c] w (PcA l (1, 0, t00) w) := by
 go_enter Tryz.func6, Tryz.ntmps6
 go_wp2_with fail
 refine bodyPost_ret (v := .agg #[.int .i64 1, .int .i64 0, .slice none 0 0, .slice none 0 0]) (by simp [results, Tryz.results6, go_sem]) rfl ⟨_, _, rfl, nog _, nof _, ?_⟩
 first | exact (Below.refl _ _).alloc (Nat.le_refl _) _ | exact (((((Below.refl _ _).alloc (Nat.le_refl _) _).setCell (Nat.le_refl _) _).setCell (Nat.le_refl _) _).setCell (Nat.le_refl _) _).setCell (Nat.le_refl _) _
set_option maxRecDepth 100000 in
set_option maxHeartbeats 4000000 in
theorem parseG_any (w : World) (b c : Nat) (l : List UInt8) (hT : Txt w b l) (hb : b < w.heap.size) (hl : l.length ≤ 20000) (hc : l.length ≤ c) {K k : Nat} {t : Tr} {s : PS} (hR : Rn l (tokT l) K k t s) :
  Calls Tryz.prog 6 #[.slice (some ⟨b, 0, none⟩) l.length c] w (PcA l (ansR l t s) w) := by
 obtain ⟨W1, eW1⟩ : ∃ W1, W1 = w.alloc (.cells #[.int .i64 0, .int .i64 0, .slice none 0 0, .slice none 0 0] 28) := ⟨_, rfl⟩
 obtain ⟨R, eR⟩ : ∃ R, R = w.heap.size := ⟨_, rfl⟩
 have hb1 : Below w.heap.size w W1 := by rw [eW1]; exact (Below.refl _ _).alloc (Nat.le_refl _) _
 have hx1 : FrC W1 R [.int .i64 0, .int .i64 0, .slice none 0 0, .slice none 0 0] := by rw [eW1, eR]; exact box_fr w #[.int .i64 0, .int .i64 0, .slice none 0 0, .slice none 0 0] _ (by show 4 ≤ 1000; omega)
 have HX : Hid (Calls Tryz.prog 22 #[.slice (some ⟨b, 0, none⟩) l.length c] W1 (LexA W1 l)) := lex_any W1 b c l (hT.below hb1 hb) (Nat.lt_of_lt_of_le hb hb1.size) hl hc
 have HW1 := hide eW1
 have HR := hide eR
 have HRn := hide hR
 have HI := hide (And.intro hb1 hx1)
 clear eW1 eR hb1 hx1 hT hb hR
 go_enter Tryz.func6, Tryz.ntmps6
 go_upto_region 1 with fail
 rw [← HW1.out, ← HR.out]
 go_wp2_with fail
 refine HX.out.mono ?_
 rintro e w2 ⟨v2, K2, rfl, hr2, hL2, hK2, hb2⟩
 obtain ⟨bT, cT, rfl, hbT1, hbT2, htk⟩ := hr2.tks
 have hKe := las_uniq HRn.out.las hL2
 subst hKe
 clear hL2 hr2
 obtain ⟨P, eP⟩ : ∃ P, P = w2.heap.size := ⟨_, rfl⟩
 obtain ⟨N, eN⟩ : ∃ N, N = w2.heap.size + 1 := ⟨_, rfl⟩
 obtain ⟨W3, eW3⟩ : ∃ W3, W3 = w2.alloc (.cells #[.slice (some ⟨bT, 0, none⟩) (K2 + 1) cT, .int .i64 0, .int .i64 0, .int .i64 0, .int .i64 0] 53) := ⟨_, rfl⟩
 obtain ⟨W4, eW4⟩ : ∃ W4, W4 = W3.alloc (.cells #[.slice none 0 0, .slice none 0 0] 26) := ⟨_, rfl⟩
 have hK2' : K2 ≤ 20000 := by omega
 have h4 := pb_new HI.out.1 HI.out.2 (by rw [HR.out]; exact Nat.le_refl _) hb2 hbT1 hbT2 htk hK2' eP eN eW3 eW4
 obtain ⟨B, eB⟩ : ∃ B, B = w2.heap.size + 2 := ⟨_, rfl⟩
 rw [← eB] at h4
 have hGK : (⟨P, bT, cT, K2, tokT l⟩ : GT).K = K2 := rfl
 obtain ⟨G, eG⟩ : ∃ G : GT, G = ⟨P, bT, cT, K2, tokT l⟩ := ⟨_, rfl⟩
 have HG : Hid (G.T = tokT l ∧ G.K = K2) := by rw [eG]; exact ⟨rfl, rfl⟩
 have hGP : P = G.P := by rw [eG]
 rw [← eG] at h4
 have HP := hide eP
 have HN := hide eN
 have HW3 := hide eW3
 have HW4 := hide eW4
 have HK2 := hide hK2'
 have H4 := hide h4
 have HGP := hide hGP
 clear eP eN eW3 eW4 eB eG hGK hGP hbT1 hbT2 htk hb2 hK2 hK2' h4 HI HX
 go_wp2_with fail
 rw [← HW3.out]
 rw [← HN.out, ← HP.out]
 rw [← HW4.out, HGP.out]
 have HKk : Hid (∃ (vg vf : Value) (t0 : Tr) (z : PS), PgL (tokT l) (20 * K2 + 40) k z t0 t s ∧ z.op = 0 ∧ PB G B w R N vg vf t0 W4 z) := ⟨_, _, _, _, HRn.out.pg, rfl, H4.out⟩
 clear HP HN HW3 HW4 H4 HGP
 go_loopg [] k (fun gk wr => ∃ (vg vf : Value) (t0 : Tr) (z : PS), PgL (tokT l) (20 * K2 + 40) gk z t0 t s ∧ z.op = 0 ∧ PB G B w R N vg vf t0 wr z)
 case atStart => exact HKk.out
 case round =>
  clear HKk
  obtain ⟨vg, vf, t0, z, hp, hzo, h⟩ := hrel
  have p3 := h.st.box 3 _ rfl
  have p4 := h.st.box 4 _ rfl
  have n0 := h.bx 0 _ rfl
  have n1 := h.bx 1 _ rfl
  have r0 := h.rs 0 _ rfl
  have r1 := h.rs 1 _ rfl
  have r2 := h.rs 2 _ rfl
  have r3 := h.rs 3 _ rfl
  by_cases h0 : z.er = 0
  case neg =>
   obtain ⟨rfl, rfl⟩ := hp.end' (.inl h0)
   have HE : Hid (∀ X, Tcs (fun k => k = R) wr X → PcA l (ansR l t s) w (.returned (.agg #[.int .i64 s.er, .int .i64 s.pl, .slice none 0 0, .slice none 0 0])) X) := fun X hX => h.ans l hX (t' := t00) ⟨nog _, nof _⟩ (by unfold ansR; rw [if_pos h0])
   have hne := h.ne
   clear h hp hzo HRn HG n0 n1
   generalize s.er = er at *
   generalize s.pl = pl at *
   go_upto_region 8 with fail
   go_region
   go_wp2_with fail
   refine bodyPost_ret (v := .agg #[.int .i64 er, .int .i64 pl, .slice none 0 0, .slice none 0 0]) (by simp [results, Tryz.results6, go_sem, r0, r1, r2, r3]) rfl (HE.out _ (((((Tcs.refl (fun k => k = R) wr).setCell (p := ⟨R, 0, none⟩) rfl _).setCell (p := ⟨R, 1, none⟩) rfl _).setCell (p := ⟨R, 2, none⟩) rfl _).setCell (p := ⟨R, 3, none⟩) rfl _).drew)
  case pos =>
   rw [h0] at p3
   have HTk := hide (tok0_any h.st)
   have hfl := fun W => fld_to ((tokT l) z.i) 0 _ rfl (by decide) W
   rw [HG.out.1] at HTk
   unfold toV at HTk hfl
   by_cases h4 : ((tokT l) z.i).kind = 4
   case pos =>
    obtain ⟨rfl, rfl⟩ := hp.end' (.inr h4)
    rw [h4] at HTk hfl
    generalize ((tokT l) s.i).text = tt at *
    generalize ((tokT l) s.i).num = tn at *
    generalize (((tokT l) s.i).pl : Int) = tp at *
    have HH := hide h
    have HSm := hide (HRn.out.sm.small HK2.out)
    clear h hp hzo p4 h4 n0 n1 r0 r1 r2 r3
    go_wp2_with fail
    refine HTk.out.mono ?_
    rintro e w5 ⟨rfl, b5⟩
    have h5 := HH.out.below b5
    clear b5 HH
    have p3' := h5.st.box 3 _ rfl
    rw [h0] at p3'
    have n0 := h5.bx 0 _ rfl
    have n1 := h5.bx 1 _ rfl
    go_wp2_with fail
    refine (gtree_any t vg vf w5 HSm.out h5.tq.read.1 h5.tq.read.2).mono ?_
    rintro e w6 ⟨rfl, b6⟩
    have h6 := h5.below b6
    clear b6 h5 p3' n0 n1
    have n0 := h6.bx 0 _ rfl
    have n1 := h6.bx 1 _ rfl
    have r0 := h6.rs 0 _ rfl
    have r1 := h6.rs 1 _ rfl
    have r2 := h6.rs 2 _ rfl
    have r3 := h6.rs 3 _ rfl
    have hne := h6.ne
    have hqr := h6.tq.read
    obtain ⟨ga, gn, gc, rfl⟩ : ∃ ga gn gc, vg = .slice ga gn gc := by
     obtain ⟨a, c, e, -⟩ := hqr.1
     exact ⟨_, _, _, e⟩
    obtain ⟨fa, fn, fc, rfl⟩ : ∃ fa fn fc, vf = .slice fa fn fc := by
     obtain ⟨a, c, e, -⟩ := hqr.2
     exact ⟨_, _, _, e⟩
    have HRl := hide (World.block_lt_of_cell? _ _ r0.1)
    cases hv : treeB t
    ·have HE : Hid (∀ X, Tcs (fun k => k = R) w6 X → PcA l (ansR l t s) w (.returned (.agg #[.int .i64 5, .int .i64 (l.length : Int), .slice none 0 0, .slice none 0 0])) X) := fun X hX => h6.ans l hX (t' := t00) ⟨nog _, nof _⟩ (by unfold ansR; rw [if_neg (by simp [h0]), if_neg (by simp [hv])])
     clear h6 hqr
     go_wp2_with fail
     refine bodyPost_ret (v := .agg #[.int .i64 5, .int .i64 (l.length : Int), .slice none 0 0, .slice none 0 0]) (by simp [results, Tryz.results6, go_sem, r0, r1, r2, r3]) rfl (HE.out _ (((((Tcs.refl (fun k => k = R) w6).setCell (p := ⟨R, 0, none⟩) rfl _).setCell (p := ⟨R, 1, none⟩) rfl _).setCell (p := ⟨R, 2, none⟩) rfl _).setCell (p := ⟨R, 3, none⟩) rfl _))
    ·have HE : Hid (∀ X, Tcs (fun k => k = R) w6 X → PcA l (ansR l t s) w (.returned (.agg #[.int .i64 0, .int .i64 0, .slice ga gn gc, .slice fa fn fc])) X) := fun X hX => h6.ans l hX (t' := t) ((h6.tq.tcs hX (fun k hk => by rw [hk]; exact h6.lt.2.2.1)).read) (by unfold ansR; rw [if_neg (by simp [h0]), if_pos hv])
     clear h6 hqr
     go_wp2_with fail
     refine bodyPost_ret (v := .agg #[.int .i64 0, .int .i64 0, .slice ga gn gc, .slice fa fn fc]) (by simp [results, Tryz.results6, go_sem, r0, r1, r2, r3]) rfl (HE.out _ (((((Tcs.refl (fun k => k = R) w6).setCell (p := ⟨R, 0, none⟩) rfl _).setCell (p := ⟨R, 1, none⟩) rfl _).setCell (p := ⟨R, 2, none⟩) rfl _).setCell (p := ⟨R, 3, none⟩) rfl _))
   case neg =>
    obtain ⟨m, x, s1, rfl, hx, hp1⟩ := hp.more' h0 h4
    obtain ⟨hsz1, hsz2⟩ := hp1.sizes HRn.out.sm HK2.out
    have HTp : Hid (∀ W vg vf, PB G B w R N vg vf t0 W z → Calls Tryz.prog 24 #[.pointer (some ⟨G.P, 0, none⟩), .agg #[vg, vf]] W (TopA G B W (addT t0 x) s1)) := fun W vg vf hW => top_any (n := 20 * K2 + 40) (by rw [HG.out.1, HG.out.2]; exact HRn.out.las) (by rw [HG.out.1]; exact hx) hsz1 (by unfold OpB; rw [hzo]; have := HK2.out; omega) hW.st hW.tq hW.lt.2.2.2.2 ⟨hW.lt.1, hW.lt.2.1⟩ hsz2
    have HO1 : Hid (s1.op = 0) := hx.op.trans hzo
    have HP1 := hide hp1
    have HH := hide h
    generalize ((tokT l) z.i).kind = kd at *
    generalize ((tokT l) z.i).text = tt at *
    generalize ((tokT l) z.i).num = tn at *
    generalize (((tokT l) z.i).pl : Int) = tp at *
    clear h hp hp1 hx hsz1 hsz2 p4 n0 n1 r0 r1 r2 r3 HG hzo
    go_wp2_with fail
    refine HTk.out.mono ?_
    rintro e w5 ⟨rfl, b5⟩
    have h5 := HH.out.below b5
    clear b5 HH HTk
    have n0 := h5.bx 0 _ rfl
    have n1 := h5.bx 1 _ rfl
    go_wp2_with fail
    refine (HTp.out w5 vg vf h5).mono ?_
    rintro e w6 ⟨ug, uf, rfl, q6, z6, t6⟩
    obtain ⟨ga, gc, hge, -⟩ := own_shape q6.gs
    generalize (addT t0 x).globals.length = gn at hge
    subst hge
    obtain ⟨fa, fn, fc, rfl⟩ : ∃ fa fn fc, uf = .slice fa fn fc := by
     obtain ⟨Q, -, h2⟩ := q6.fs
     obtain ⟨a, c, e, -⟩ := own_shape h2.row
     exact ⟨_, _, _, e⟩
    obtain ⟨X7, eX7⟩ : ∃ X7, X7 = (w6.setCell ⟨N, 0, none⟩ (.slice ga gn gc)).setCell ⟨N, 1, none⟩ (.slice fa fn fc) := ⟨_, rfl⟩
    obtain ⟨⟨c0, f0, c1, f1⟩, h7⟩ := h5.next z6 q6 t6 eX7
    have HX7 := hide eX7
    have HRel : Hid (∃ (vg vf : Value) (t0 : Tr) (z : PS), PgL (tokT l) (20 * K2 + 40) m z t0 t s ∧ z.op = 0 ∧ PB G B w R N vg vf t0 X7 z) := ⟨_, _, _, _, HP1.out, HO1.out, h7⟩
    clear h7 eX7 q6 z6 t6 h5 n0 n1 HTp
    go_wp2_with fail
    go_roundg m
    case measure => omega
    case rel => rw [← HX7.out]; exact HRel.out
end
end Go.Proofs.YtlamjfhhefcohaaGreatDoor
