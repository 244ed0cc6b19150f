import Derived.Test.YtlamjfhhefcohaaGreatDoorM43
namespace Go.Proofs.YtlamjfhhefcohaaGreatDoor
set_option linter.unusedVariables false
set_option linter.unusedSimpArgs false
set_option maxRecDepth 100000
set_option maxHeartbeats 16000000
section
open Go.RowKit
theorem AsA.st {G : GT} {w w1 : World} {r : List St} {s' : PS} {e : Ending} {w' : World} (h : AsA G w1 w.heap.size r s' e w') (ht : Tcs (fun k => k = G.P) w w1) : StA G w r s' e w' := by
 obtain ⟨u, h1, h2, h3, h4⟩ := h
 exact ⟨u, h1, h2, h3, ht.trans h4⟩
set_option maxRecDepth 100000 in
set_option maxHeartbeats 4000000 in
theorem st_int {G : GT} (hL : Las G.T G.K) {n : Nat} (hA : AsC G n) {w : World} {s : PS} {r : List St} {s' : PS} (hS : PSt G w s) (hop : OpB n s) (hsz : szS r ≤ 1000000) (hi : isS G.T [105, 110, 116] s = true) (hp : Pa G.T n (.sg (st0 1 (naS G.T s.ad).1)) (naS G.T s.ad).2 (.s r) s') :
  Calls Tryz.prog 83 #[.pointer (some ⟨G.P, 0, none⟩)] w (StA G w r s') := by
 have HL := hide hL
 have HPw := hide hS.lt
 have HA : Hid (∀ W, PSt G W (naS G.T s.ad).2 → w.heap.size ≤ W.heap.size → Calls Tryz.prog 117 #[.pointer (some ⟨G.P, 0, none⟩), .agg #[.int .i64 1, .string (naS G.T s.ad).1, .slice none 0 0, .slice none 0 0, .int .i64 0, .int .i64 0]] W (AsA G W w.heap.size r s')) := fun W hW hB => by
  have h := hA W w.heap.size (st0 1 (naS G.T s.ad).1) (.slice none 0 0) (.slice none 0 0) _ r s' hp hsz (OpB.of hop (na_op s.ad)) hW hB hS.lt.1 (fun W _ => nodes_none W) (fun W _ => nodes_none W)
  unfold st0 at h
  dsimp only at h
  exact h
 have hT := Tcs.refl (fun k => k = G.P) w
 have HNm : Hid (∀ W, PSt G W s.ad → Calls Tryz.prog 50 #[.pointer (some ⟨G.P, 0, none⟩)] W fun e w' => e = .returned (.string (naS G.T s.ad).1) ∧ PSt G w' (naS G.T s.ad).2 ∧ Tcs (fun k => k = G.P) W w') := fun W hW => name0_any HL.out hW
 clear hp hsz hop hA
 generalize naS G.T s.ad = nz at *
 obtain ⟨nm, z⟩ := nz
 dsimp only at HA HNm
 go_enter Tryz.func83, Tryz.ntmps83
 go_wp2_with fail
 refine (is_any hS [105, 110, 116]).mono ?_
 rintro e w1 ⟨rfl, hbw1⟩
 rw [hi]
 have hZw1 := PSt.below hS hbw1
 have hTw1 := Tcs.of_below hT hbw1
 clear hbw1
 obtain ⟨⟨hW2, tW2⟩, q1, f1, hii⟩ := hZw1.adv (is_lt HL.out hZw1.wf hi)
 obtain ⟨W2, hW2e⟩ : ∃ W2, W2 = w1.setCell ⟨G.P, 1, none⟩ (.int .i64 ((s.i : Int) + 1)) := ⟨_, rfl⟩
 rw [← hW2e] at hW2 tW2
 have hTW2 := hTw1.trans tW2
 have HW2 := hide hW2e
 clear hW2e tW2
 go_upto_region 3 with fail
 rw [← HW2.out]
 go_wp2_with fail
 refine (HNm.out _ hW2).mono ?_
 rintro e w3 ⟨rfl, h3, t3⟩
 have hT3 := hTW2.trans t3
 have HC := hide (HA.out w3 h3 hT3.size)
 clear t3 HA
 go_wp2_with fail
 refine HC.out.mono ?_
 rintro e w4 h4
 have HF := hide (h4.st hT3)
 obtain ⟨u4, rfl, -⟩ := h4
 go_wp2_with fail
 go_ret
 exact HF.out
end
section
open Go.RowKit
structure BS (G : GT) (w0 : World) (M : Nat) (xs : List Value) (W : World) (z : PS) : Prop where
 st : PSt G W z
 bx : FrC W M xs
 t : Tcs (fun k => k = G.P) w0 W
 m : M < W.heap.size
 mw : w0.heap.size ≤ M
 hl : G.P < w0.heap.size ∧ G.bT < w0.heap.size
theorem BS.below {G : GT} {w0 W W' : World} {M : Nat} {xs : List Value} {z : PS} (h : BS G w0 M xs W z) (hb : Below W.heap.size W W') : BS G w0 M xs W' z :=
 ⟨h.st.below hb, h.bx.below hb, h.t.of_below hb, Nat.lt_of_lt_of_le h.m hb.size, h.mw, h.hl⟩
theorem BS.step {G : GT} {w0 W W' : World} {M : Nat} {xs : List Value} {z z' : PS} (h : BS G w0 M xs W z) (hz : PSt G W' z') (ht : Tcs (fun k => k = G.P) W W') : BS G w0 M xs W' z' :=
 ⟨hz, h.bx.tcs h.m ht (fun e => by have := h.mw; have := h.hl; omega), h.t.trans ht, Nat.lt_of_lt_of_le h.m ht.size, h.mw, h.hl⟩
theorem BS.put {G : GT} {w0 W X : World} {M : Nat} {xs : List Value} {z : PS} (h : BS G w0 M xs W z) (i : Nat) (u : Value) (hX : X = W.setCell ⟨M, i, none⟩ u) : BS G w0 M (xs.set i u) X z ∧ Tcs (fun k => k = M) W X := by
 obtain ⟨h1, h2, h3, h4⟩ := box_w h.bx h.mw h.hl h.st h.t i u
 rw [← hX] at h1 h2 h3 h4
 exact ⟨⟨h2, h1, h3, Nat.lt_of_lt_of_le h.m h4.size, h.mw, h.hl⟩, h4⟩
theorem box_new {G : GT} {w0 w W : World} {M : Nat} {z : PS} (hZ : PSt G w z) (hT : Tcs (fun k => k = G.P) w0 w) (hl : G.P < w0.heap.size ∧ G.bT < w0.heap.size) (k : Int) (hW : W = w.alloc (.cells #[.int .i64 k, .string ⟨#[]⟩, .slice none 0 0, .slice none 0 0, .int .i64 0, .int .i64 0] 46)) (hM : M = w.heap.size) :
  BS G w0 M [.int .i64 k, .string ⟨#[]⟩, .slice none 0 0, .slice none 0 0, .int .i64 0, .int .i64 0] W z := by
 have hb : Below w.heap.size w W := by rw [hW]; exact (Below.refl _ _).alloc (Nat.le_refl _) _
 have hx : FrC W M [.int .i64 k, .string ⟨#[]⟩, .slice none 0 0, .slice none 0 0, .int .i64 0, .int .i64 0] := by rw [hW, hM]; exact box_fr w #[.int .i64 k, .string ⟨#[]⟩, .slice none 0 0, .slice none 0 0, .int .i64 0, .int .i64 0] _ (by show 6 ≤ 1000; omega)
 exact ⟨hZ.below hb, hx, hT.of_below hb, World.block_lt_of_cell? _ _ (hx 0 _ rfl).1, by rw [hM]; exact hT.size, hl⟩
theorem BS.row {G : GT} {w0 W W7 X : World} {M i : Nat} {xs : List Value} {z : PS} {u v : Value} {a : List Nd} (h : BS G w0 M xs W z) (hr : NRow W.heap.size W7 u a) (t : Tcs (fun k => k = M) W7 X) : NRow W.heap.size X u a :=
 own_notU hr t (fun k hk e => by have := (World.ownsRow.lt hr k hk).1; have := h.m; omega)
theorem BS.row2 {G : GT} {w0 W X W9 : World} {M : Nat} {xs : List Value} {z : PS} {u : Value} {a : List Nd} (h : BS G w0 M xs W z) (hr : NRow W.heap.size X u a) (t : Tcs (fun k => k = G.P) X W9) : NRow W.heap.size W9 u a ∧ ∀ W', Tcs (fun k => k < w0.heap.size) W9 W' → Nodes W' u a := by
 have h1 : NRow W.heap.size W9 u a := own_tcs hr t (fun k hk => by rw [hk]; exact h.st.lt.1)
 exact ⟨h1, nrow_st h1 h.t.size⟩
theorem BS.fin {G : GT} {w0 W : World} {M : Nat} {z : PS} {kd th el : Int} {nm : ByteArray} {ve vf : Value} {a f : List Nd} (h : BS G w0 M [.int .i64 kd, .string nm, ve, vf, .int .i64 th, .int .i64 el] W z) (hE : ∀ W', Tcs (fun k => k < w0.heap.size) W W' → Nodes W' ve a) (hF : ∀ W', Tcs (fun k => k < w0.heap.size) W W' → Nodes W' vf f) :
  StA G w0 [⟨kd, nm, a, f, th, el⟩] z (.returned (.slice (some ⟨W.heap.size, 0, none⟩) 1 1)) (W.alloc (.cells #[.int .i64 kd, .string nm, ve, vf, .int .i64 th, .int .i64 el] 46)) :=
 st_end (t := ⟨kd, nm, a, f, th, el⟩) h.t.size hE hF h.st h.t
theorem BS.q {G : GT} {w0 W : World} {M : Nat} {xs : List Value} {z : PS} (h : BS G w0 M xs W z) {j : Nat} {v : Value} (hj : xs[j]? = some v) : W.cell? ⟨M, j, none⟩ = some v ∧ W.frozen? ⟨M, j, none⟩ = false := h.bx j v hj
end
section
open Go.RowKit
set_option maxRecDepth 100000 in
set_option maxHeartbeats 4000000 in
theorem st_out {G : GT} (hL : Las G.T G.K) {n : Nat} (hC : CoC G n) {w : World} {s : PS} {a : List Nd} {s1 : PS} (hS : PSt G w s) (hop : OpB n s) (hal : a.length ≤ 1000000) (hi : isS G.T [111, 117, 116] s = true) (hp : Pa G.T n (.pr [40] [41]) s.ad (.n a) s1) :
  Calls Tryz.prog 83 #[.pointer (some ⟨G.P, 0, none⟩)] w (StA G w [⟨7, tx [], a, [], 0, 0⟩] (taS G.T [59] s1)) := by
 have HL := hide hL
 have HPw := hide hS.lt
 have hT := Tcs.refl (fun k => k = G.P) w
 have h1 : isS G.T [105, 110, 116] s = false := is_two hi (by decide)
 have h2 : isS G.T [105, 102] s = false := is_two hi (by decide)
 have h3 : isS G.T [119, 104, 105, 108, 101] s = false := is_two hi (by decide)
 have h4r : isS G.T [114, 101, 116, 117, 114, 110] s = false := is_two hi (by decide)
 have HE : Hid (∀ W, PSt G W s.ad → Calls Tryz.prog 118 #[.pointer (some ⟨G.P, 0, none⟩)] W (NdA G W a s1)) := fun W hW => hC W s.ad a s1 hp hal hop hW
 clear hC hp hop
 go_enter Tryz.func83, Tryz.ntmps83
 go_wp2_with fail
 refine (is_any hS [105, 110, 116]).mono ?_
 rintro e w1 ⟨rfl, hbw1⟩
 rw [h1]
 have hZw1 := PSt.below hS hbw1
 have hTw1 := Tcs.of_below hT hbw1
 clear hbw1
 go_wp2_with fail
 refine (is_any hZw1 [105, 102]).mono ?_
 rintro e w2 ⟨rfl, hbw2⟩
 rw [h2]
 have hZw2 := PSt.below hZw1 hbw2
 have hTw2 := Tcs.of_below hTw1 hbw2
 clear hbw2
 go_wp2_with fail
 refine (is_any hZw2 [119, 104, 105, 108, 101]).mono ?_
 rintro e w3 ⟨rfl, hbw3⟩
 rw [h3]
 have hZw3 := PSt.below hZw2 hbw3
 have hTw3 := Tcs.of_below hTw2 hbw3
 clear hbw3
 obtain ⟨W4, hW4⟩ : ∃ W4, W4 = w3.alloc (.cells #[.int .i64 6, .string ⟨#[]⟩, .slice none 0 0, .slice none 0 0, .int .i64 0, .int .i64 0] 46) := ⟨_, rfl⟩
 obtain ⟨M, hM⟩ : ∃ M, M = w3.heap.size := ⟨_, rfl⟩
 have h4 := box_new hZw3 hTw3 HPw.out 6 hW4 hM
 have HW4 := hide hW4
 have HM := hide hM
 clear hW4 hM hZw3 hTw3
 go_upto_region 20 with fail
 rw [← HW4.out, ← HM.out]
 go_wp2_with fail
 refine (is_any h4.st [114, 101, 116, 117, 114, 110]).mono ?_
 rintro e w5 ⟨rfl, hbw5⟩
 rw [h4r]
 have h5 := h4.below hbw5
 clear hbw5
 go_wp2_with fail
 refine (is_any h5.st [111, 117, 116]).mono ?_
 rintro e w6 ⟨rfl, hbw6⟩
 rw [hi]
 have h6 := h5.below hbw6
 clear hbw6
 obtain ⟨⟨zW6, tW6⟩, q1, f1, hii⟩ := h6.st.adv (is_lt HL.out h6.st.wf hi)
 obtain ⟨W6, eW6⟩ : ∃ W6, W6 = w6.setCell ⟨G.P, 1, none⟩ (.int .i64 ((s.i : Int) + 1)) := ⟨_, rfl⟩
 rw [← eW6] at zW6 tW6
 have h60 := h6.step zW6 tW6
 have HW6 := hide eW6
 clear eW6 zW6 tW6
 go_upto_region 27 with fail
 rw [← HW6.out]
 clear q1 f1 hii
 obtain ⟨X61, eX61⟩ : ∃ X61, X61 = W6.setCell ⟨M, 0, none⟩ (.int .i64 7) := ⟨_, rfl⟩
 obtain ⟨h61, t61⟩ := h60.put 0 (.int .i64 7) eX61
 have c1 := (h60.q (j := 0) rfl).1
 have f1 := (h60.q (j := 0) rfl).2
 simp only [List.set_cons_zero, List.set_cons_succ] at h61
 have HX61 := hide eX61
 clear eX61
 go_upto_region 28 with fail
 rw [← HX61.out]
 clear c1 f1
 go_wp2_with fail
 refine (HE.out X61 h61.st).mono ?_
 rintro e w7 ⟨u7, rfl, hr7, z7, t7⟩
 obtain ⟨ad, cp, rfl, -⟩ := own_shape hr7
 have h7 := h61.step z7 t7
 have hB := h61
 clear z7 t7
 obtain ⟨X8, eX8⟩ : ∃ X8, X8 = w7.setCell ⟨M, 2, none⟩ (.slice ad a.length cp) := ⟨_, rfl⟩
 obtain ⟨h8, tX⟩ := h7.put 2 (.slice ad a.length cp) eX8
 have c1 := (h7.q (j := 2) rfl).1
 have f1 := (h7.q (j := 2) rfl).2
 simp only [List.set_cons_zero, List.set_cons_succ] at h8
 have HX8 := hide eX8
 clear eX8
 go_upto_region 29 with fail
 rw [← HX8.out]
 clear c1 f1
 have hr8 := hB.row (i := 0) (v := .bool true) hr7 tX
 clear hr7 tX
 go_wp2_with fail
 refine (ta_any HL.out h8.st [59]).mono ?_
 rintro e w9 ⟨rfl, z9, t9⟩
 have h9 := h8.step z9 t9
 have hr9 := hB.row2 hr8 t9
 have HF := hide (h9.fin hr9.2 (fun W _ => nodes_none W))
 clear z9 t9 hr9 hr8
 have q0 := (h9.q (j := 0) rfl).1
 have q1 := (h9.q (j := 1) rfl).1
 have q2 := (h9.q (j := 2) rfl).1
 have q3 := (h9.q (j := 3) rfl).1
 have q4 := (h9.q (j := 4) rfl).1
 have q5 := (h9.q (j := 5) rfl).1
 clear h9
 go_wp2_with fail
 go_ret
 exact HF.out
end
section
open Go.RowKit
set_option maxRecDepth 100000 in
set_option maxHeartbeats 4000000 in
theorem st_set {G : GT} (hL : Las G.T G.K) {n : Nat} (hA : AsC G n) {w : World} {s : PS} {r : List St} {s' : PS} (hS : PSt G w s) (hop : OpB n s) (hq : SeS G.T s) (hsz : szS r ≤ 1000000) (hc : isS G.T [91] (naS G.T s).2 = false) (hd : isS G.T [40] (naS G.T s).2 = false) (hp : Pa G.T n (.sg (st0 2 (naS G.T s).1)) (naS G.T s).2 (.s r) s') :
  Calls Tryz.prog 83 #[.pointer (some ⟨G.P, 0, none⟩)] w (StA G w r s') := by
 have HL := hide hL
 have HPw := hide hS.lt
 have hT := Tcs.refl (fun k => k = G.P) w
 obtain ⟨h1, h2, h3, h4r, h5r⟩ := hq
 have HA : Hid (∀ W, PSt G W (naS G.T s).2 → w.heap.size ≤ W.heap.size → Calls Tryz.prog 117 #[.pointer (some ⟨G.P, 0, none⟩), .agg #[.int .i64 2, .string (naS G.T s).1, .slice none 0 0, .slice none 0 0, .int .i64 0, .int .i64 0]] W (AsA G W w.heap.size r s')) := fun W hW hB => by
  have h := hA W w.heap.size (st0 2 (naS G.T s).1) (.slice none 0 0) (.slice none 0 0) _ r s' hp hsz (OpB.of hop (na_op s)) hW hB hS.lt.1 (fun W _ => nodes_none W) (fun W _ => nodes_none W)
  unfold st0 at h
  dsimp only at h
  exact h
 clear hp hsz hop hA
 have HNm : Hid (∀ W, PSt G W s → Calls Tryz.prog 50 #[.pointer (some ⟨G.P, 0, none⟩)] W fun e w' => e = .returned (.string (naS G.T s).1) ∧ PSt G w' (naS G.T s).2 ∧ Tcs (fun k => k = G.P) W w') := fun W hW => name0_any HL.out hW
 generalize naS G.T s = nz at *
 obtain ⟨nm, z⟩ := nz
 dsimp only at *
 go_enter Tryz.func83, Tryz.ntmps83
 go_wp2_with fail
 refine (is_any hS [105, 110, 116]).mono ?_
 rintro e w1 ⟨rfl, hbw1⟩
 rw [h1]
 have hZw1 := PSt.below hS hbw1
 have hTw1 := Tcs.of_below hT hbw1
 clear hbw1
 go_wp2_with fail
 refine (is_any hZw1 [105, 102]).mono ?_
 rintro e w2 ⟨rfl, hbw2⟩
 rw [h2]
 have hZw2 := PSt.below hZw1 hbw2
 have hTw2 := Tcs.of_below hTw1 hbw2
 clear hbw2
 go_wp2_with fail
 refine (is_any hZw2 [119, 104, 105, 108, 101]).mono ?_
 rintro e w3 ⟨rfl, hbw3⟩
 rw [h3]
 have hZw3 := PSt.below hZw2 hbw3
 have hTw3 := Tcs.of_below hTw2 hbw3
 clear hbw3
 obtain ⟨W4, hW4⟩ : ∃ W4, W4 = w3.alloc (.cells #[.int .i64 6, .string ⟨#[]⟩, .slice none 0 0, .slice none 0 0, .int .i64 0, .int .i64 0] 46) := ⟨_, rfl⟩
 obtain ⟨M, hM⟩ : ∃ M, M = w3.heap.size := ⟨_, rfl⟩
 have h4 := box_new hZw3 hTw3 HPw.out 6 hW4 hM
 have HW4 := hide hW4
 have HM := hide hM
 clear hW4 hM hZw3 hTw3
 go_upto_region 20 with fail
 rw [← HW4.out, ← HM.out]
 go_wp2_with fail
 refine (is_any h4.st [114, 101, 116, 117, 114, 110]).mono ?_
 rintro e w5 ⟨rfl, hbw5⟩
 rw [h4r]
 have h5 := h4.below hbw5
 clear hbw5
 go_wp2_with fail
 refine (is_any h5.st [111, 117, 116]).mono ?_
 rintro e w6 ⟨rfl, hbw6⟩
 rw [h5r]
 have h6 := h5.below hbw6
 clear hbw6
 go_wp2_with fail
 refine (HNm.out _ h6.st).mono ?_
 rintro e w70 ⟨rfl, z70, t70⟩
 have h70 := h6.step z70 t70
 clear z70 t70
 go_wp2_with fail
 refine (is_any h70.st [91]).mono ?_
 rintro e w8 ⟨rfl, hbw8⟩
 rw [hc]
 have h8 := h70.below hbw8
 clear hbw8
 go_wp2_with fail
 refine (is_any h8.st [40]).mono ?_
 rintro e w9 ⟨rfl, hbw9⟩
 rw [hd]
 have h9 := h8.below hbw9
 clear hbw9
 go_wp2_with fail
 refine (HA.out w9 h9.st h9.t.size).mono ?_
 rintro e w10 hx
 have HF := hide (hx.st h9.t)
 obtain ⟨u4, rfl, -⟩ := hx
 go_wp2_with fail
 go_ret
 exact HF.out
end
section
open Go.RowKit
set_option maxRecDepth 100000 in
set_option maxHeartbeats 4000000 in
theorem st_store {G : GT} (hL : Las G.T G.K) {n : Nat} (hB : BrC G n) (hA : AsC G n) {w : World} {s : PS} {r : List St} {s' : PS} {a : List Nd} {s1 : PS} (hS : PSt G w s) (hop : OpB n s) (hq : SeS G.T s) (hal : a.length ≤ 1000000) (hsz : szS r ≤ 1000000) (hc : isS G.T [91] (naS G.T s).2 = true) (hb : Pa G.T n (.pr [91] [93]) (naS G.T s).2 (.n a) s1) (hp : Pa G.T n (.sg ⟨3, (naS G.T s).1, a, [], 0, 0⟩) s1 (.s r) s') :
  Calls Tryz.prog 83 #[.pointer (some ⟨G.P, 0, none⟩)] w (StA G w r s') := by
 have HL := hide hL
 have HPw := hide hS.lt
 have hT := Tcs.refl (fun k => k = G.P) w
 obtain ⟨h1, h2, h3, h4r, h5r⟩ := hq
 have HA : Hid (∀ W ve, PSt G W s1 → w.heap.size ≤ W.heap.size → (∀ W', Tcs (fun k => k < w.heap.size) W W' → Nodes W' ve a) → Calls Tryz.prog 117 #[.pointer (some ⟨G.P, 0, none⟩), .agg #[.int .i64 3, .string (naS G.T s).1, ve, .slice none 0 0, .int .i64 0, .int .i64 0]] W (AsA G W w.heap.size r s')) := fun W ve hW hB hE => by
  have h := hA W w.heap.size ⟨3, (naS G.T s).1, a, [], 0, 0⟩ ve (.slice none 0 0) _ r s' hp hsz (OpB.of hop (hb.op.trans (na_op s))) hW hB hS.lt.1 hE (fun W _ => nodes_none W)
  dsimp only at h
  exact h
 have HE : Hid (∀ W, PSt G W (naS G.T s).2 → Calls Tryz.prog 120 #[.pointer (some ⟨G.P, 0, none⟩)] W (NdA G W a s1)) := fun W hW => hB W _ a s1 hb hal (OpB.of hop (na_op s)) hW
 clear hp hsz hop hA hB hb
 have HNm : Hid (∀ W, PSt G W s → Calls Tryz.prog 50 #[.pointer (some ⟨G.P, 0, none⟩)] W fun e w' => e = .returned (.string (naS G.T s).1) ∧ PSt G w' (naS G.T s).2 ∧ Tcs (fun k => k = G.P) W w') := fun W hW => name0_any HL.out hW
 generalize naS G.T s = nz at *
 obtain ⟨nm, z⟩ := nz
 dsimp only at *
 go_enter Tryz.func83, Tryz.ntmps83
 go_wp2_with fail
 refine (is_any hS [105, 110, 116]).mono ?_
 rintro e w1 ⟨rfl, hbw1⟩
 rw [h1]
 have hZw1 := PSt.below hS hbw1
 have hTw1 := Tcs.of_below hT hbw1
 clear hbw1
 go_wp2_with fail
 refine (is_any hZw1 [105, 102]).mono ?_
 rintro e w2 ⟨rfl, hbw2⟩
 rw [h2]
 have hZw2 := PSt.below hZw1 hbw2
 have hTw2 := Tcs.of_below hTw1 hbw2
 clear hbw2
 go_wp2_with fail
 refine (is_any hZw2 [119, 104, 105, 108, 101]).mono ?_
 rintro e w3 ⟨rfl, hbw3⟩
 rw [h3]
 have hZw3 := PSt.below hZw2 hbw3
 have hTw3 := Tcs.of_below hTw2 hbw3
 clear hbw3
 obtain ⟨W4, hW4⟩ : ∃ W4, W4 = w3.alloc (.cells #[.int .i64 6, .string ⟨#[]⟩, .slice none 0 0, .slice none 0 0, .int .i64 0, .int .i64 0] 46) := ⟨_, rfl⟩
 obtain ⟨M, hM⟩ : ∃ M, M = w3.heap.size := ⟨_, rfl⟩
 have h4 := box_new hZw3 hTw3 HPw.out 6 hW4 hM
 have HW4 := hide hW4
 have HM := hide hM
 clear hW4 hM hZw3 hTw3
 go_upto_region 20 with fail
 rw [← HW4.out, ← HM.out]
 go_wp2_with fail
 refine (is_any h4.st [114, 101, 116, 117, 114, 110]).mono ?_
 rintro e w5 ⟨rfl, hbw5⟩
 rw [h4r]
 have h5 := h4.below hbw5
 clear hbw5
 go_wp2_with fail
 refine (is_any h5.st [111, 117, 116]).mono ?_
 rintro e w6 ⟨rfl, hbw6⟩
 rw [h5r]
 have h6 := h5.below hbw6
 clear hbw6
 go_wp2_with fail
 refine (HNm.out _ h6.st).mono ?_
 rintro e w70 ⟨rfl, z70, t70⟩
 have h70 := h6.step z70 t70
 clear z70 t70
 go_wp2_with fail
 refine (is_any h70.st [91]).mono ?_
 rintro e w8 ⟨rfl, hbw8⟩
 rw [hc]
 have h8 := h70.below hbw8
 clear hbw8
 go_wp2_with fail
 refine (HE.out w8 h8.st).mono ?_
 rintro e w9 ⟨u9, rfl, hr9, z9, t9⟩
 obtain ⟨ad, cp, rfl, -⟩ := own_shape hr9
 have h9 := h8.step z9 t9
 have hE9 := nrow_st hr9 h8.t.size
 have HC := hide (HA.out w9 _ z9 h9.t.size hE9)
 clear hr9 z9 t9 hE9
 go_wp2_with fail
 refine HC.out.mono ?_
 rintro e w10 hx
 have HF := hide (hx.st h9.t)
 obtain ⟨u4, rfl, -⟩ := hx
 go_wp2_with fail
 go_ret
 exact HF.out
end
section
open Go.RowKit
set_option maxRecDepth 100000 in
set_option maxHeartbeats 4000000 in
theorem st_call {G : GT} (hL : Las G.T G.K) {n : Nat} (hA : ArC2 G n) {w : World} {s : PS} {a : List Nd} {s1 : PS} (hS : PSt G w s) (hop : OpB n s) (hq : SeS G.T s) (hal : a.length ≤ 1000000) (hc : isS G.T [91] (naS G.T s).2 = false) (hd : isS G.T [40] (naS G.T s).2 = true) (hp : Pa G.T n (.ar (naS G.T s).1) (naS G.T s).2 (.n a) s1) :
  Calls Tryz.prog 83 #[.pointer (some ⟨G.P, 0, none⟩)] w (StA G w [⟨8, tx [], a, [], 0, 0⟩] (taS G.T [59] s1)) := by
 have HL := hide hL
 have HPw := hide hS.lt
 have hT := Tcs.refl (fun k => k = G.P) w
 obtain ⟨h1, h2, h3, h4r, h5r⟩ := hq
 have HE : Hid (∀ W, PSt G W (naS G.T s).2 → Calls Tryz.prog 121 #[.pointer (some ⟨G.P, 0, none⟩), .string (naS G.T s).1] W (NdA G W a s1)) := fun W hW => hA W _ _ a s1 hp hal (OpB.of hop (na_op s)) hW
 clear hp hop hA
 have HNm : Hid (∀ W, PSt G W s → Calls Tryz.prog 50 #[.pointer (some ⟨G.P, 0, none⟩)] W fun e w' => e = .returned (.string (naS G.T s).1) ∧ PSt G w' (naS G.T s).2 ∧ Tcs (fun k => k = G.P) W w') := fun W hW => name0_any HL.out hW
 generalize naS G.T s = nz at *
 obtain ⟨nm, z⟩ := nz
 dsimp only at *
 go_enter Tryz.func83, Tryz.ntmps83
 go_wp2_with fail
 refine (is_any hS [105, 110, 116]).mono ?_
 rintro e w1 ⟨rfl, hbw1⟩
 rw [h1]
 have hZw1 := PSt.below hS hbw1
 have hTw1 := Tcs.of_below hT hbw1
 clear hbw1
 go_wp2_with fail
 refine (is_any hZw1 [105, 102]).mono ?_
 rintro e w2 ⟨rfl, hbw2⟩
 rw [h2]
 have hZw2 := PSt.below hZw1 hbw2
 have hTw2 := Tcs.of_below hTw1 hbw2
 clear hbw2
 go_wp2_with fail
 refine (is_any hZw2 [119, 104, 105, 108, 101]).mono ?_
 rintro e w3 ⟨rfl, hbw3⟩
 rw [h3]
 have hZw3 := PSt.below hZw2 hbw3
 have hTw3 := Tcs.of_below hTw2 hbw3
 clear hbw3
 obtain ⟨W4, hW4⟩ : ∃ W4, W4 = w3.alloc (.cells #[.int .i64 6, .string ⟨#[]⟩, .slice none 0 0, .slice none 0 0, .int .i64 0, .int .i64 0] 46) := ⟨_, rfl⟩
 obtain ⟨M, hM⟩ : ∃ M, M = w3.heap.size := ⟨_, rfl⟩
 have h4 := box_new hZw3 hTw3 HPw.out 6 hW4 hM
 have HW4 := hide hW4
 have HM := hide hM
 clear hW4 hM hZw3 hTw3
 go_upto_region 20 with fail
 rw [← HW4.out, ← HM.out]
 go_wp2_with fail
 refine (is_any h4.st [114, 101, 116, 117, 114, 110]).mono ?_
 rintro e w5 ⟨rfl, hbw5⟩
 rw [h4r]
 have h5 := h4.below hbw5
 clear hbw5
 go_wp2_with fail
 refine (is_any h5.st [111, 117, 116]).mono ?_
 rintro e w6 ⟨rfl, hbw6⟩
 rw [h5r]
 have h6 := h5.below hbw6
 clear hbw6
 go_wp2_with fail
 refine (HNm.out _ h6.st).mono ?_
 rintro e w70 ⟨rfl, z70, t70⟩
 have h70 := h6.step z70 t70
 clear z70 t70
 go_wp2_with fail
 refine (is_any h70.st [91]).mono ?_
 rintro e w8 ⟨rfl, hbw8⟩
 rw [hc]
 have h80 := h70.below hbw8
 clear hbw8
 go_wp2_with fail
 refine (is_any h80.st [40]).mono ?_
 rintro e w81 ⟨rfl, hbw81⟩
 rw [hd]
 have h81 := h80.below hbw81
 clear hbw81
 obtain ⟨X82, eX82⟩ : ∃ X82, X82 = w81.setCell ⟨M, 0, none⟩ (.int .i64 8) := ⟨_, rfl⟩
 obtain ⟨h82, t82⟩ := h81.put 0 (.int .i64 8) eX82
 have c1 := (h81.q (j := 0) rfl).1
 have f1 := (h81.q (j := 0) rfl).2
 simp only [List.set_cons_zero, List.set_cons_succ] at h82
 have HX82 := hide eX82
 clear eX82
 go_upto_region 37 with fail
 rw [← HX82.out]
 clear c1 f1
 go_wp2_with fail
 refine (HE.out X82 h82.st).mono ?_
 rintro e w7 ⟨u7, rfl, hr7, z7, t7⟩
 obtain ⟨ad, cp, rfl, -⟩ := own_shape hr7
 have h7 := h82.step z7 t7
 have hB := h82
 clear z7 t7
 obtain ⟨X8, eX8⟩ : ∃ X8, X8 = w7.setCell ⟨M, 2, none⟩ (.slice ad a.length cp) := ⟨_, rfl⟩
 obtain ⟨h8, tX⟩ := h7.put 2 (.slice ad a.length cp) eX8
 have c1 := (h7.q (j := 2) rfl).1
 have f1 := (h7.q (j := 2) rfl).2
 simp only [List.set_cons_zero, List.set_cons_succ] at h8
 have HX8 := hide eX8
 clear eX8
 go_upto_region 38 with fail
 rw [← HX8.out]
 clear c1 f1
 have hr8 := hB.row (i := 0) (v := .bool true) hr7 tX
 clear hr7 tX
 go_wp2_with fail
 refine (ta_any HL.out h8.st [59]).mono ?_
 rintro e w9 ⟨rfl, z9, t9⟩
 have h9 := h8.step z9 t9
 have hr9 := hB.row2 hr8 t9
 have HF := hide (h9.fin hr9.2 (fun W _ => nodes_none W))
 clear z9 t9 hr9 hr8
 have q0 := (h9.q (j := 0) rfl).1
 have q1 := (h9.q (j := 1) rfl).1
 have q2 := (h9.q (j := 2) rfl).1
 have q3 := (h9.q (j := 3) rfl).1
 have q4 := (h9.q (j := 4) rfl).1
 have q5 := (h9.q (j := 5) rfl).1
 clear h9
 go_wp2_with fail
 go_ret
 exact HF.out
end
section
open Go.RowKit
theorem Tcs.pm1 {G : GT} {M : Nat} {w w' : World} (h : Tcs (fun k => k = G.P) w w') : Tcs (fun k => k = G.P ∨ k = M) w w' := h.mono fun k hk => .inl hk
theorem Tcs.pm2 {G : GT} {M : Nat} {w w' : World} (h : Tcs (fun k => k = M) w w') : Tcs (fun k => k = G.P ∨ k = M) w w' := h.mono fun k hk => .inr hk
theorem if_end {G : GT} {w X8 w11 W12 w12 X17 W18 : World} {M : Nat} {z z8 : PS} {kd th el : Int} {ve ub uc : Value} {a : List Nd} {b c : List St} (B8 : Nat) (xs8 : List Value)
  (h : BS G w M [.int .i64 kd, .string ⟨#[]⟩, ve, .slice none 0 0, .int .i64 th, .int .i64 el] X17 z) (h8 : BS G w M xs8 X8 z8) (hMB : M < B8) (hPB : w.heap.size ≤ B8) (hr8 : NRow B8 X8 ve a)
  (q11 : SQ X8.heap.size w11 ub b) (t8 : Tcs (fun k => k = G.P) X8 w11) (q12 : SQ w12.heap.size W12 uc c) (ht12 : Tcs (fun k => k = G.P) w11 w12) (b12 : Tcs (fun k => k = G.P) w12 W12) (c12 : Tcs (fun k => k = G.P ∨ k = M) W12 X17) (hW : W18 = X17.alloc (.cells #[.int .i64 kd, .string ⟨#[]⟩, ve, .slice none 0 0, .int .i64 th, .int .i64 el] 46)) (hl : b.length + c.length ≤ 999999) :
  ∃ v1 w1 v2 w2, (Builtin.append_ #[41, 41] 41 #[.slice (some ⟨X17.heap.size, 0, none⟩) 1 1, ub]).run Tryz.prog W18 = .ok v1 w1 ∧ (Builtin.append_ #[41, 41] 41 #[v1, uc]).run Tryz.prog w1 = .ok v2 w2 ∧ StA G w (⟨kd, tx [], a, [], th, el⟩ :: (b ++ c)) z (.returned v2) w2 := by
 have hM := h8.m
 have hP := h8.hl.1
 have hPw8 := h8.t.size
 have e1 := t8.size
 have e2 := ht12.size
 have e3 := b12.size
 have e4 := c12.size
 have u12 : Tcs (fun k => k = G.P ∨ k = M) W12 W18 := by rw [hW]; exact c12.alloc _
 have u11 : Tcs (fun k => k = G.P ∨ k = M) w11 W18 := ((ht12.trans b12).pm1 (M := M)).trans u12
 have u8 : Tcs (fun k => k = G.P ∨ k = M) X8 X17 := ((t8.trans (ht12.trans b12)).pm1 (M := M)).trans c12
 have hr17 : NRow B8 X17 ve a := own_tcs hr8 u8 (fun k hk => by omega)
 have hlit : SQ w.heap.size W18 (.slice (some ⟨X17.heap.size, 0, none⟩) 1 1) [⟨kd, tx [], a, [], th, el⟩] := by
  rw [hW]
  exact sq_lit h.t.size (nrow_st hr17 hPB) (fun W _ => nodes_none W)
 have hw18 : w.heap.size ≤ W18.heap.size := by rw [hW]; exact (h.t.alloc _).size
 have z18 : PSt G W18 z := by rw [hW]; exact h.st.below ((Below.refl _ _).alloc (Nat.le_refl _) _)
 have t18 : Tcs (fun k => k = G.P) w W18 := by rw [hW]; exact h.t.alloc _
 obtain ⟨v1, w1, r1, s1, t1, f1⟩ := sq_app 41 hlit q11 (u11.mono fun k hk => by omega) (by omega) hw18 (by simp only [List.length_singleton]; omega) (fun k hk => by simp only [Value.ownBlock, Option.some.injEq] at hk; exact .inr (by omega))
 obtain ⟨z1, tt1⟩ := PSt.gr2 z18 h.hl.1 h.hl.2 t18 hlit t1
 have u12' : Tcs (fun k => k < w12.heap.size) W12 w1 := (u12.mono (fun k hk => by omega)).next t1 (fun k hk => by simp only [Value.ownBlock, Option.some.injEq] at hk; exact .inr (by omega))
 obtain ⟨v2, w2, r2, s2, t2, f2⟩ := sq_app 41 s1 q12 u12' (by omega) (Nat.le_trans hw18 t1.size) (by simp only [List.length_append, List.length_singleton]; omega) (fun k hk => by
  rcases f1 k hk with hk | hk
  ·simp only [Value.ownBlock, Option.some.injEq] at hk; exact .inr (by omega)
  ·exact .inr (by have := u12.size; omega))
 obtain ⟨z2, tt2⟩ := PSt.gr2 z1 h.hl.1 h.hl.2 tt1 s1 t2
 exact ⟨v1, w1, v2, w2, r1, r2, _, rfl, s2, z2, tt2⟩
end
section
open Go.RowKit
set_option maxRecDepth 100000 in
set_option maxHeartbeats 4000000 in
theorem st_ifel {G : GT} (hL : Las G.T G.K) {n : Nat} (hC : CoC G n) (hB : BlC G n) {w : World} {s : PS} {a : List Nd} {b : List St} {s1 s2 : PS} (hS : PSt G w s) (hop : OpB n s) (hi : isS G.T [105, 102] s = true) (hp : Pa G.T n (.pr [40] [41]) s.ad (.n a) s1) (hb : Pa G.T n .bl s1 (.s b) s2) {c : List St} {s' : PS} (hsz : szS (⟨4, tx [], a, [], (b.length : Int), (c.length : Int)⟩ :: (b ++ c)) ≤ 1000000) (he : isS G.T [101, 108, 115, 101] s2 = true) (hc : Pa G.T n .bl s2.ad (.s c) s') :
  Calls Tryz.prog 83 #[.pointer (some ⟨G.P, 0, none⟩)] w (StA G w (⟨4, tx [], a, [], (b.length : Int), (c.length : Int)⟩ :: (b ++ c)) s') := by
 have HL := hide hL
 have HPw := hide hS.lt
 have hT := Tcs.refl (fun k => k = G.P) w
 have h1 : isS G.T [105, 110, 116] s = false := is_two hi (by decide)
 have h2 : isS G.T [119, 104, 105, 108, 101] s = false := is_two hi (by decide)
 have hll := szS_len b
 have HCo : Hid (∀ W, PSt G W s.ad → Calls Tryz.prog 118 #[.pointer (some ⟨G.P, 0, none⟩)] W (NdA G W a s1)) := fun W hW => hC W s.ad a s1 hp (by simp only [szS_cons, szS_app] at hsz; omega) hop hW
 have HBl : Hid (∀ W, PSt G W s1 → Calls Tryz.prog 53 #[.pointer (some ⟨G.P, 0, none⟩)] W (StA G W b s2)) := fun W hW => hB W s1 b s2 hb (by simp only [szS_cons, szS_app] at hsz; omega) (OpB.of hop hp.op) hW
 have hlc := szS_len c
 have HBc : Hid (∀ W, PSt G W s2.ad → Calls Tryz.prog 53 #[.pointer (some ⟨G.P, 0, none⟩)] W (StA G W c s')) := fun W hW => hB W s2.ad c s' hc (by simp only [szS_cons, szS_app] at hsz; omega) (OpB.of hop (hb.op.trans hp.op)) hW
 clear hc
 simp only [szS_cons, szS_app] at hsz
 clear hC hB hp hb hop
 go_enter Tryz.func83, Tryz.ntmps83
 go_wp2_with fail
 refine (is_any hS [105, 110, 116]).mono ?_
 rintro e w1 ⟨rfl, hbw1⟩
 rw [h1]
 have hZw1 := PSt.below hS hbw1
 have hTw1 := Tcs.of_below hT hbw1
 clear hbw1
 go_wp2_with fail
 refine (is_any hZw1 [105, 102]).mono ?_
 rintro e w2 ⟨rfl, hbw2⟩
 rw [hi]
 have hZw2 := PSt.below hZw1 hbw2
 have hTw2 := Tcs.of_below hTw1 hbw2
 clear hbw2
 obtain ⟨W3, hW3⟩ : ∃ W3, W3 = w2.alloc (.cells #[.int .i64 4, .string ⟨#[]⟩, .slice none 0 0, .slice none 0 0, .int .i64 0, .int .i64 0] 46) := ⟨_, rfl⟩
 obtain ⟨M, hM⟩ : ∃ M, M = w2.heap.size := ⟨_, rfl⟩
 have h3 := box_new hZw2 hTw2 HPw.out 4 hW3 hM
 have HW3 := hide hW3
 have HM := hide hM
 clear hW3 hM hZw2 hTw2
 go_upto_region 7 with fail
 rw [← HW3.out, ← HM.out]
 go_wp2_with fail
 refine (is_any h3.st [119, 104, 105, 108, 101]).mono ?_
 rintro e w4 ⟨rfl, hbw4⟩
 rw [h2]
 have h4 := h3.below hbw4
 clear hbw4
 obtain ⟨⟨zW5, tW5⟩, q1, f1, hii⟩ := h4.st.adv (is_lt HL.out h4.st.wf hi)
 obtain ⟨W5, eW5⟩ : ∃ W5, W5 = w4.setCell ⟨G.P, 1, none⟩ (.int .i64 ((s.i : Int) + 1)) := ⟨_, rfl⟩
 rw [← eW5] at zW5 tW5
 have h5 := h4.step zW5 tW5
 have HW5 := hide eW5
 clear eW5 zW5 tW5
 go_upto_region 10 with fail
 rw [← HW5.out]
 clear q1 f1 hii
 go_wp2_with fail
 refine (HCo.out W5 h5.st).mono ?_
 rintro e w7 ⟨u7, rfl, hr7, z7, t7⟩
 obtain ⟨ad, cp, rfl, -⟩ := own_shape hr7
 have h7 := h5.step z7 t7
 clear z7 t7
 obtain ⟨X8, eX8⟩ : ∃ X8, X8 = w7.setCell ⟨M, 2, none⟩ (.slice ad a.length cp) := ⟨_, rfl⟩
 obtain ⟨h8, tX⟩ := h7.put 2 (.slice ad a.length cp) eX8
 have c1 := (h7.q (j := 2) rfl).1
 have f1 := (h7.q (j := 2) rfl).2
 simp only [List.set_cons_zero, List.set_cons_succ] at h8
 have HX8 := hide eX8
 clear eX8
 go_upto_region 11 with fail
 rw [← HX8.out]
 clear c1 f1
 have hr8 := h5.row (i := 0) (v := .bool true) hr7 tX
 have hMB := h5.m
 have hPB := h5.t.size
 clear hr7 tX
 go_wp2_with fail
 refine (HBl.out X8 h8.st).mono ?_
 rintro e w11 ⟨u11, rfl, q11, z11, t11⟩
 obtain ⟨ab, cb, rfl⟩ := q11.shape
 have h11 := h8.step z11 t11
 obtain ⟨W12, eW12⟩ : ∃ W12, W12 = w11.alloc (.cells #[] 46) := ⟨_, rfl⟩
 obtain ⟨B12, eB12⟩ : ∃ B12, B12 = w11.heap.size := ⟨_, rfl⟩
 have b12 : Below w11.heap.size w11 W12 := by rw [eW12]; exact (Below.refl _ _).alloc (Nat.le_refl _) _
 have q12 : SQ w11.heap.size W12 (.slice (some ⟨B12, 0, none⟩) 0 0) [] := by rw [eW12, eB12]; exact sq_nil w11 _ (Nat.le_refl _)
 have h12 := h11.below b12
 have HW12 := hide eW12
 have HB12 := hide eB12
 clear z11 eW12 eB12
 have c0 := (h12.q (j := 0) rfl).1
 go_upto_region 13 with fail
 rw [← HW12.out, ← HB12.out]
 go_wp2_with fail
 refine (is_any h12.st [101, 108, 115, 101]).mono ?_
 rintro e w13 ⟨rfl, hbw13⟩
 rw [he]
 have h13 := h12.below hbw13
 have c12 : Tcs (fun k => k = G.P) w11 w13 := (b12.tcs).of_below hbw13
 clear hbw13
 obtain ⟨⟨zW14, tW14⟩, q1, f1, hii⟩ := h13.st.adv (is_lt HL.out h13.st.wf he)
 obtain ⟨W14, eW14⟩ : ∃ W14, W14 = w13.setCell ⟨G.P, 1, none⟩ (.int .i64 ((s2.i : Int) + 1)) := ⟨_, rfl⟩
 rw [← eW14] at zW14 tW14
 have h14 := h13.step zW14 tW14
 have HW14 := hide eW14
 have c14 := c12.trans tW14
 clear eW14 zW14 tW14
 go_upto_region 15 with fail
 rw [← HW14.out]
 clear q1 f1 hii
 go_wp2_with fail
 refine (HBc.out W14 h14.st).mono ?_
 rintro e w15 ⟨u15, rfl, q15, z15, t15⟩
 obtain ⟨ac, cc, rfl⟩ := q15.shape
 have h15 := h14.step z15 t15
 clear z15
 obtain ⟨X16, eX16⟩ : ∃ X16, X16 = w15.setCell ⟨M, 4, none⟩ (.int .i64 (b.length : Int)) := ⟨_, rfl⟩
 obtain ⟨h16, t16⟩ := h15.put 4 (.int .i64 (b.length : Int)) eX16
 have c1 := (h15.q (j := 4) rfl).1
 have f1 := (h15.q (j := 4) rfl).2
 simp only [List.set_cons_zero, List.set_cons_succ] at h16
 have HX16 := hide eX16
 clear eX16
 go_upto_region 17 with fail
 rw [← HX16.out]
 clear c1 f1
 obtain ⟨X17, eX17⟩ : ∃ X17, X17 = X16.setCell ⟨M, 5, none⟩ (.int .i64 (c.length : Int)) := ⟨_, rfl⟩
 obtain ⟨h17, t17⟩ := h16.put 5 (.int .i64 (c.length : Int)) eX17
 have c1 := (h16.q (j := 5) rfl).1
 have f1 := (h16.q (j := 5) rfl).2
 simp only [List.set_cons_zero, List.set_cons_succ] at h17
 have HX17 := hide eX17
 clear eX17
 go_upto_region 18 with fail
 rw [← HX17.out]
 clear c1 f1
 have c12 : Tcs (fun k => k = G.P ∨ k = M) w15 X17 := t16.pm2.trans t17.pm2
 obtain ⟨W18, eW18⟩ : ∃ W18, W18 = X17.alloc (.cells #[.int .i64 4, .string ⟨#[]⟩, .slice ad a.length cp, .slice none 0 0, .int .i64 (b.length : Int), .int .i64 (c.length : Int)] 46) := ⟨_, rfl⟩
 obtain ⟨B18, eB18⟩ : ∃ B18, B18 = X17.heap.size := ⟨_, rfl⟩
 obtain ⟨v1, w1', v2, w2', r1, r2, hF⟩ := if_end _ _ h17 h8 hMB hPB hr8 q11 t11 q15 c14 t15 c12 eW18 (by first | omega | (simp only [List.length_nil]; omega))
 rw [← eB18] at r1
 have HR1 := hide r1
 have HR2 := hide r2
 have HF := hide hF
 have HW18 := hide eW18
 have HB18 := hide eB18
 have q0 := (h17.q (j := 0) rfl).1
 have q1 := (h17.q (j := 1) rfl).1
 have q2 := (h17.q (j := 2) rfl).1
 have q3 := (h17.q (j := 3) rfl).1
 have q4 := (h17.q (j := 4) rfl).1
 have q5 := (h17.q (j := 5) rfl).1
 clear r1 r2 hF eW18 eB18 h17 h8 hr8 q11 t11 c12
 go_wp2_with (at_builtin; first | (refine wpList_appG rfl (.tmp 74) (.tmp 75) _ rfl _ _ v1 w1' rfl rfl (by rw [← HW18.out, ← HB18.out]; exact HR1.out) ?_) | (refine wpList_appG rfl (.tmp 76) (.tmp 77) _ rfl _ _ v2 w2' rfl rfl HR2.out ?_))
 go_ret
 exact HF.out
end
section
open Go.RowKit
set_option maxRecDepth 100000 in
set_option maxHeartbeats 4000000 in
theorem st_while {G : GT} (hL : Las G.T G.K) {n : Nat} (hC : CoC G n) (hB : BlC G n) {w : World} {s : PS} {a : List Nd} {b : List St} {s1 s2 : PS} (hS : PSt G w s) (hop : OpB n s) (hi : isS G.T [119, 104, 105, 108, 101] s = true) (hp : Pa G.T n (.pr [40] [41]) s.ad (.n a) s1) (hb : Pa G.T n .bl s1 (.s b) s2) (hsz : szS (⟨5, tx [], a, [], (b.length : Int), 0⟩ :: b) ≤ 1000000) :
  Calls Tryz.prog 83 #[.pointer (some ⟨G.P, 0, none⟩)] w (StA G w (⟨5, tx [], a, [], (b.length : Int), 0⟩ :: b) s2) := by
 have HL := hide hL
 have HPw := hide hS.lt
 have hT := Tcs.refl (fun k => k = G.P) w
 have h1 : isS G.T [105, 110, 116] s = false := is_two hi (by decide)
 have h2 : isS G.T [105, 102] s = false := is_two hi (by decide)
 have hll := szS_len b
 have HCo : Hid (∀ W, PSt G W s.ad → Calls Tryz.prog 118 #[.pointer (some ⟨G.P, 0, none⟩)] W (NdA G W a s1)) := fun W hW => hC W s.ad a s1 hp (by simp only [szS_cons, szS_app] at hsz; omega) hop hW
 have HBl : Hid (∀ W, PSt G W s1 → Calls Tryz.prog 53 #[.pointer (some ⟨G.P, 0, none⟩)] W (StA G W b s2)) := fun W hW => hB W s1 b s2 hb (by simp only [szS_cons, szS_app] at hsz; omega) (OpB.of hop hp.op) hW
 simp only [szS_cons, szS_app] at hsz
 clear hC hB hp hb hop
 go_enter Tryz.func83, Tryz.ntmps83
 go_wp2_with fail
 refine (is_any hS [105, 110, 116]).mono ?_
 rintro e w1 ⟨rfl, hbw1⟩
 rw [h1]
 have hZw1 := PSt.below hS hbw1
 have hTw1 := Tcs.of_below hT hbw1
 clear hbw1
 go_wp2_with fail
 refine (is_any hZw1 [105, 102]).mono ?_
 rintro e w12 ⟨rfl, hbw12⟩
 rw [h2]
 have hZw12 := PSt.below hZw1 hbw12
 have hTw12 := Tcs.of_below hTw1 hbw12
 clear hbw12
 go_wp2_with fail
 refine (is_any hZw12 [119, 104, 105, 108, 101]).mono ?_
 rintro e w2 ⟨rfl, hbw2⟩
 rw [hi]
 have hZw2 := PSt.below hZw12 hbw2
 have hTw2 := Tcs.of_below hTw12 hbw2
 clear hbw2
 obtain ⟨W3, hW3⟩ : ∃ W3, W3 = w2.alloc (.cells #[.int .i64 4, .string ⟨#[]⟩, .slice none 0 0, .slice none 0 0, .int .i64 0, .int .i64 0] 46) := ⟨_, rfl⟩
 obtain ⟨M, hM⟩ : ∃ M, M = w2.heap.size := ⟨_, rfl⟩
 have h3 := box_new hZw2 hTw2 HPw.out 4 hW3 hM
 have HW3 := hide hW3
 have HM := hide hM
 clear hW3 hM hZw2 hTw2
 go_upto_region 7 with fail
 rw [← HW3.out, ← HM.out]
 go_wp2_with fail
 refine (is_any h3.st [119, 104, 105, 108, 101]).mono ?_
 rintro e w40 ⟨rfl, hbw40⟩
 rw [hi]
 have h40 := h3.below hbw40
 clear hbw40
 obtain ⟨w4, ew4⟩ : ∃ w4, w4 = w40.setCell ⟨M, 0, none⟩ (.int .i64 5) := ⟨_, rfl⟩
 obtain ⟨h4, t40⟩ := h40.put 0 (.int .i64 5) ew4
 have c1 := (h40.q (j := 0) rfl).1
 have f1 := (h40.q (j := 0) rfl).2
 simp only [List.set_cons_zero, List.set_cons_succ] at h4
 have Hw4 := hide ew4
 clear ew4
 go_upto_region 9 with fail
 rw [← Hw4.out]
 clear c1 f1
 obtain ⟨⟨zW5, tW5⟩, q1, f1, hii⟩ := h4.st.adv (is_lt HL.out h4.st.wf hi)
 obtain ⟨W5, eW5⟩ : ∃ W5, W5 = w4.setCell ⟨G.P, 1, none⟩ (.int .i64 ((s.i : Int) + 1)) := ⟨_, rfl⟩
 rw [← eW5] at zW5 tW5
 have h5 := h4.step zW5 tW5
 have HW5 := hide eW5
 clear eW5 zW5 tW5
 go_upto_region 10 with fail
 rw [← HW5.out]
 clear q1 f1 hii
 go_wp2_with fail
 refine (HCo.out W5 h5.st).mono ?_
 rintro e w7 ⟨u7, rfl, hr7, z7, t7⟩
 obtain ⟨ad, cp, rfl, -⟩ := own_shape hr7
 have h7 := h5.step z7 t7
 clear z7 t7
 obtain ⟨X8, eX8⟩ : ∃ X8, X8 = w7.setCell ⟨M, 2, none⟩ (.slice ad a.length cp) := ⟨_, rfl⟩
 obtain ⟨h8, tX⟩ := h7.put 2 (.slice ad a.length cp) eX8
 have c1 := (h7.q (j := 2) rfl).1
 have f1 := (h7.q (j := 2) rfl).2
 simp only [List.set_cons_zero, List.set_cons_succ] at h8
 have HX8 := hide eX8
 clear eX8
 go_upto_region 11 with fail
 rw [← HX8.out]
 clear c1 f1
 have hr8 := h5.row (i := 0) (v := .bool true) hr7 tX
 have hMB := h5.m
 have hPB := h5.t.size
 clear hr7 tX
 go_wp2_with fail
 refine (HBl.out X8 h8.st).mono ?_
 rintro e w11 ⟨u11, rfl, q11, z11, t11⟩
 obtain ⟨ab, cb, rfl⟩ := q11.shape
 have h11 := h8.step z11 t11
 obtain ⟨W12, eW12⟩ : ∃ W12, W12 = w11.alloc (.cells #[] 46) := ⟨_, rfl⟩
 obtain ⟨B12, eB12⟩ : ∃ B12, B12 = w11.heap.size := ⟨_, rfl⟩
 have b12 : Below w11.heap.size w11 W12 := by rw [eW12]; exact (Below.refl _ _).alloc (Nat.le_refl _) _
 have q12 : SQ w11.heap.size W12 (.slice (some ⟨B12, 0, none⟩) 0 0) [] := by rw [eW12, eB12]; exact sq_nil w11 _ (Nat.le_refl _)
 have h12 := h11.below b12
 have HW12 := hide eW12
 have HB12 := hide eB12
 clear z11 eW12 eB12
 have c0 := (h12.q (j := 0) rfl).1
 go_upto_region 13 with fail
 rw [← HW12.out, ← HB12.out]
 have h13 := h12
 have c12 : Tcs (fun k => k = G.P ∨ k = M) W12 W12 := Tcs.refl _ _
 obtain ⟨X16, eX16⟩ : ∃ X16, X16 = W12.setCell ⟨M, 4, none⟩ (.int .i64 (b.length : Int)) := ⟨_, rfl⟩
 obtain ⟨h16, t16⟩ := h13.put 4 (.int .i64 (b.length : Int)) eX16
 have c1 := (h13.q (j := 4) rfl).1
 have f1 := (h13.q (j := 4) rfl).2
 simp only [List.set_cons_zero, List.set_cons_succ] at h16
 have HX16 := hide eX16
 clear eX16
 go_upto_region 17 with fail
 rw [← HX16.out]
 clear c1 f1
 obtain ⟨X17, eX17⟩ : ∃ X17, X17 = X16.setCell ⟨M, 5, none⟩ (.int .i64 0) := ⟨_, rfl⟩
 obtain ⟨h17, t17⟩ := h16.put 5 (.int .i64 0) eX17
 have c1 := (h16.q (j := 5) rfl).1
 have f1 := (h16.q (j := 5) rfl).2
 simp only [List.set_cons_zero, List.set_cons_succ] at h17
 have HX17 := hide eX17
 clear eX17
 go_upto_region 18 with fail
 rw [← HX17.out]
 clear c1 f1
 replace c12 := (c12.trans t16.pm2).trans t17.pm2
 obtain ⟨W18, eW18⟩ : ∃ W18, W18 = X17.alloc (.cells #[.int .i64 5, .string ⟨#[]⟩, .slice ad a.length cp, .slice none 0 0, .int .i64 (b.length : Int), .int .i64 (0)] 46) := ⟨_, rfl⟩
 obtain ⟨B18, eB18⟩ : ∃ B18, B18 = X17.heap.size := ⟨_, rfl⟩
 obtain ⟨v1, w1', v2, w2', r1, r2, hF⟩ := if_end _ _ h17 h8 hMB hPB hr8 q11 t11 q12 (Tcs.refl _ _) b12.tcs c12 eW18 (by first | omega | (simp only [List.length_nil]; omega))
 rw [← eB18] at r1
 have HR1 := hide r1
 have HR2 := hide r2
 have HF := hide hF
 have HW18 := hide eW18
 have HB18 := hide eB18
 have q0 := (h17.q (j := 0) rfl).1
 have q1 := (h17.q (j := 1) rfl).1
 have q2 := (h17.q (j := 2) rfl).1
 have q3 := (h17.q (j := 3) rfl).1
 have q4 := (h17.q (j := 4) rfl).1
 have q5 := (h17.q (j := 5) rfl).1
 clear r1 r2 hF eW18 eB18 h17 h8 hr8 q11 t11 c12
 go_wp2_with (at_builtin; first | (refine wpList_appG rfl (.tmp 74) (.tmp 75) _ rfl _ _ v1 w1' rfl rfl (by rw [← HW18.out, ← HB18.out]; exact HR1.out) ?_) | (refine wpList_appG rfl (.tmp 76) (.tmp 77) _ rfl _ _ v2 w2' rfl rfl HR2.out ?_))
 go_ret
 have hF := HF.out
 rw [List.append_nil] at hF
 exact hF
end
section
open Go.RowKit
set_option maxRecDepth 100000 in
set_option maxHeartbeats 4000000 in
theorem st_ret {G : GT} (hL : Las G.T G.K) {n : Nat} (hE : ExC2 G n) {w : World} {s : PS} {a : List Nd} {s1 : PS} (hS : PSt G w s) (hop : OpB n s) (hal : a.length ≤ 1000000) (hi : isS G.T [114, 101, 116, 117, 114, 110] s = true) (hp : Pa G.T n (.e 1) s.ad (.n a) s1) :
  Calls Tryz.prog 83 #[.pointer (some ⟨G.P, 0, none⟩)] w (StA G w [⟨6, tx [], a, [], 0, 0⟩] (taS G.T [59] s1)) := by
 have HL := hide hL
 have HPw := hide hS.lt
 have hT := Tcs.refl (fun k => k = G.P) w
 have h1 : isS G.T [105, 110, 116] s = false := is_two hi (by decide)
 have h2 : isS G.T [105, 102] s = false := is_two hi (by decide)
 have h3 : isS G.T [119, 104, 105, 108, 101] s = false := is_two hi (by decide)
 have HE : Hid (∀ W, PSt G W s.ad → Calls Tryz.prog 119 #[.pointer (some ⟨G.P, 0, none⟩), .int .i64 1] W (NdA G W a s1)) := fun W hW => hE W 1 s.ad a s1 hp hal hop hW
 clear hE hp hop
 go_enter Tryz.func83, Tryz.ntmps83
 go_wp2_with fail
 refine (is_any hS [105, 110, 116]).mono ?_
 rintro e w1 ⟨rfl, hbw1⟩
 rw [h1]
 have hZw1 := PSt.below hS hbw1
 have hTw1 := Tcs.of_below hT hbw1
 clear hbw1
 go_wp2_with fail
 refine (is_any hZw1 [105, 102]).mono ?_
 rintro e w2 ⟨rfl, hbw2⟩
 rw [h2]
 have hZw2 := PSt.below hZw1 hbw2
 have hTw2 := Tcs.of_below hTw1 hbw2
 clear hbw2
 go_wp2_with fail
 refine (is_any hZw2 [119, 104, 105, 108, 101]).mono ?_
 rintro e w3 ⟨rfl, hbw3⟩
 rw [h3]
 have hZw3 := PSt.below hZw2 hbw3
 have hTw3 := Tcs.of_below hTw2 hbw3
 clear hbw3
 obtain ⟨W4, hW4⟩ : ∃ W4, W4 = w3.alloc (.cells #[.int .i64 6, .string ⟨#[]⟩, .slice none 0 0, .slice none 0 0, .int .i64 0, .int .i64 0] 46) := ⟨_, rfl⟩
 obtain ⟨M, hM⟩ : ∃ M, M = w3.heap.size := ⟨_, rfl⟩
 have h4 := box_new hZw3 hTw3 HPw.out 6 hW4 hM
 have HW4 := hide hW4
 have HM := hide hM
 clear hW4 hM hZw3 hTw3
 go_upto_region 20 with fail
 rw [← HW4.out, ← HM.out]
 go_wp2_with fail
 refine (is_any h4.st [114, 101, 116, 117, 114, 110]).mono ?_
 rintro e w5 ⟨rfl, hbw5⟩
 rw [hi]
 have h5 := h4.below hbw5
 clear hbw5
 obtain ⟨⟨zW6, tW6⟩, q1, f1, hii⟩ := h5.st.adv (is_lt HL.out h5.st.wf hi)
 obtain ⟨W6, eW6⟩ : ∃ W6, W6 = w5.setCell ⟨G.P, 1, none⟩ (.int .i64 ((s.i : Int) + 1)) := ⟨_, rfl⟩
 rw [← eW6] at zW6 tW6
 have h6 := h5.step zW6 tW6
 have HW6 := hide eW6
 clear eW6 zW6 tW6
 go_upto_region 22 with fail
 rw [← HW6.out]
 clear q1 f1 hii
 go_wp2_with fail
 refine (HE.out W6 h6.st).mono ?_
 rintro e w7 ⟨u7, rfl, hr7, z7, t7⟩
 obtain ⟨ad, cp, rfl, -⟩ := own_shape hr7
 have h7 := h6.step z7 t7
 have hB := h6
 clear z7 t7
 obtain ⟨X8, eX8⟩ : ∃ X8, X8 = w7.setCell ⟨M, 2, none⟩ (.slice ad a.length cp) := ⟨_, rfl⟩
 obtain ⟨h8, tX⟩ := h7.put 2 (.slice ad a.length cp) eX8
 have c1 := (h7.q (j := 2) rfl).1
 have f1 := (h7.q (j := 2) rfl).2
 simp only [List.set_cons_zero, List.set_cons_succ] at h8
 have HX8 := hide eX8
 clear eX8
 go_upto_region 23 with fail
 rw [← HX8.out]
 clear c1 f1
 have hr8 := hB.row (i := 0) (v := .bool true) hr7 tX
 clear hr7 tX
 go_wp2_with fail
 refine (ta_any HL.out h8.st [59]).mono ?_
 rintro e w9 ⟨rfl, z9, t9⟩
 have h9 := h8.step z9 t9
 have hr9 := hB.row2 hr8 t9
 have HF := hide (h9.fin hr9.2 (fun W _ => nodes_none W))
 clear z9 t9 hr9 hr8
 have q0 := (h9.q (j := 0) rfl).1
 have q1 := (h9.q (j := 1) rfl).1
 have q2 := (h9.q (j := 2) rfl).1
 have q3 := (h9.q (j := 3) rfl).1
 have q4 := (h9.q (j := 4) rfl).1
 have q5 := (h9.q (j := 5) rfl).1
 clear h9
 go_wp2_with fail
 go_ret
 exact HF.out
end
end Go.Proofs.YtlamjfhhefcohaaGreatDoor
