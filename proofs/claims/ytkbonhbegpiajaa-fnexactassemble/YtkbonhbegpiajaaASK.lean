import Derived.Test.YtkbonhbegpiajaaASK0
import Derived.Deep.RegionHeld3
namespace Go.Proofs.Ytkbonhbegpiajaa
open Go.RowKit
set_option linter.unusedVariables false
set_option linter.unusedSimpArgs false
set_option linter.unusedSectionVars false
variable [Inhabited Pick]

theorem owns_belowA {w w' : World} {base e size n cap g : Nat} {xs : List Value} (h : w.ownsRow base e size (.slice (some ⟨g, 0, none⟩) n cap) n xs) (hb : Below w.heap.size w w') : w'.ownsRow base e size (.slice (some ⟨g, 0, none⟩) n cap) n xs := by
  refine ⟨h.1, ?_⟩
  rcases h.2 with hn | ⟨g', cap', cur, he, hB, hg, rest⟩
  · exact .inl hn
  · refine .inr ⟨g', cap', cur, he, hB, ?_, rest⟩
    rw [hb.block g' (Array.getElem?_eq_some_iff.1 hg).1]
    exact hg

/-- Values laid into a row, one behind the other. -/
def putAt (xs : List Value) (i : Nat) : List Value → List Value
  | [] => xs
  | u :: r => putAt (xs.set i u) (i + 1) r
def setMany (w : World) (g i : Nat) : List Value → World
  | [] => w
  | u :: r => setMany (w.setCell ⟨g, i, none⟩ u) g (i + 1) r
theorem putAt_length (us : List Value) : ∀ xs i, (putAt xs i us).length = xs.length := by
  induction us with
  | nil => intro xs i; rfl
  | cons u r ih => intro xs i; simp [putAt, ih]
theorem putAt_get (us : List Value) : ∀ xs i j, i + us.length ≤ xs.length → (putAt xs i us)[j]? = if i ≤ j ∧ j < i + us.length then us[j - i]? else xs[j]? := by
  induction us with
  | nil => intro xs i j h; simp [putAt]; intro h1 h2; omega
  | cons u r ih =>
    intro xs i j h
    simp only [List.length_cons] at h
    simp only [putAt, List.length_cons]
    rw [ih _ _ _ (by simp; omega)]
    by_cases h1 : i + 1 ≤ j ∧ j < i + 1 + r.length
    · rw [if_pos h1, if_pos (by omega), show j - i = (j - (i + 1)) + 1 by omega, List.getElem?_cons_succ]
    · rw [if_neg h1]
      by_cases h2 : j = i
      · subst h2
        rw [if_pos (by omega), List.getElem?_set_self (by omega)]
        simp
      · rw [if_neg (by omega), List.getElem?_set_ne (by omega)]
theorem owns_put {base e size n cap g : Nat} (us : List Value) : ∀ (w : World) (xs : List Value) (i : Nat), w.ownsRow base e size (.slice (some ⟨g, 0, none⟩) n cap) n xs → (setMany w g i us).ownsRow base e size (.slice (some ⟨g, 0, none⟩) n cap) n (putAt xs i us) := by
  induction us with
  | nil => intro w xs i h; exact h
  | cons u r ih => intro w xs i h; exact ih _ _ _ (h.stored i u).1
theorem below_put {B : Nat} {a : World} {g : Nat} (hg : B ≤ g) (us : List Value) : ∀ (w : World) (i : Nat), Below B a w → Below B a (setMany w g i us) := by
  induction us with
  | nil => intro w i h; exact h
  | cons u r ih => intro w i h; exact ih _ _ (h.setCell hg u)
/-- The first k elements of a row, m cells each. -/
def RowIs (enc : Nat → List Value) (m k : Nat) (xs : List Value) : Prop := ∀ j, j < k → ∀ i, i < m → xs[j * m + i]? = (enc j)[i]?
theorem RowIs.step {enc enc' : Nat → List Value} {m k : Nat} {xs us : List Value} (h : RowIs enc m k xs) (he : ∀ j, j < k → enc' j = enc j) (hk : enc' k = us) (hu : us.length = m) (hl : (k + 1) * m ≤ xs.length) : RowIs enc' m (k + 1) (putAt xs (k * m) us) := by
  intro j hj i hi
  have e1 : (k + 1) * m = k * m + m := by rw [Nat.add_mul, Nat.one_mul]
  rw [putAt_get us xs (k * m) (j * m + i) (by omega)]
  by_cases hjk : j = k
  · subst hjk
    rw [if_pos (by omega), show j * m + i - j * m = i by omega, hk]
  · have hlt : j < k := by omega
    have : j * m + m ≤ k * m := by
      have := Nat.mul_le_mul_right m (show j + 1 ≤ k by omega)
      rw [Nat.add_mul, Nat.one_mul] at this
      exact this
    rw [if_neg (by omega), h j hlt i hi, he j hlt]
theorem RowIs.zero (enc : Nat → List Value) (m : Nat) (xs : List Value) : RowIs enc m 0 xs := fun j hj => absurd hj (Nat.not_lt_zero _)
theorem own_old {w : World} {base e size n cap g : Nat} {xs : List Value} (h : w.ownsRow base e size (.slice (some ⟨g, 0, none⟩) n cap) n xs) (j : Nat) (hj : j < n * size) : (∃ y, w.cell? ⟨g, j, none⟩ = some y) ∧ w.frozen? ⟨g, j, none⟩ = false := by
  have hlen := h.1
  exact ⟨⟨xs[j]'(by omega), by rw [h.cellAt j (by omega)]; simp⟩, h.frozenAt j⟩


def encT (x : It) : List Value := [.int .i64 x.kind, .int .i64 x.ins.op, .int .i64 x.ins.rd, .int .i64 x.ins.s1, .int .i64 x.ins.s2, .int .i64 x.ins.im, .int .i64 x.label]
theorem inf_item : (Try.prog.info? 38).map (fun i => (i.zero, i.size, i.bytes)) = some (some (.agg #[.int .i64 0, .int .i64 0, .int .i64 0, .int .i64 0, .int .i64 0, .int .i64 0, .int .i64 0]), 7, 56) := by kernel_rfl
set_option maxRecDepth 8000 in
theorem box777 {w w' : World} {t u u2 : TypeId} {a0 a1 a2 a3 a4 a5 a6 b0 b1 b2 b3 b4 b5 b6 c0 c1 c2 c3 c4 c5 c6 : Value} (h : Below (((w.alloc (.cells #[a0, a1, a2, a3, a4, a5, a6] t)).alloc (.cells #[b0, b1, b2, b3, b4, b5, b6] u)).alloc (.cells #[c0, c1, c2, c3, c4, c5, c6] u2)).heap.size (((w.alloc (.cells #[a0, a1, a2, a3, a4, a5, a6] t)).alloc (.cells #[b0, b1, b2, b3, b4, b5, b6] u)).alloc (.cells #[c0, c1, c2, c3, c4, c5, c6] u2)) w') :
    (w'.cell? ⟨w.heap.size, 0, none⟩ = some a0 ∧ w'.cell? ⟨w.heap.size, 1, none⟩ = some a1 ∧ w'.cell? ⟨w.heap.size, 2, none⟩ = some a2 ∧ w'.cell? ⟨w.heap.size, 3, none⟩ = some a3 ∧ w'.cell? ⟨w.heap.size, 4, none⟩ = some a4 ∧ w'.cell? ⟨w.heap.size, 5, none⟩ = some a5 ∧ w'.cell? ⟨w.heap.size, 6, none⟩ = some a6) ∧
    (w'.cell? ⟨w.heap.size + 1, 0, none⟩ = some b0 ∧ w'.cell? ⟨w.heap.size + 1, 1, none⟩ = some b1 ∧ w'.cell? ⟨w.heap.size + 1, 2, none⟩ = some b2 ∧ w'.cell? ⟨w.heap.size + 1, 3, none⟩ = some b3 ∧ w'.cell? ⟨w.heap.size + 1, 4, none⟩ = some b4 ∧ w'.cell? ⟨w.heap.size + 1, 5, none⟩ = some b5 ∧ w'.cell? ⟨w.heap.size + 1, 6, none⟩ = some b6) ∧
    (w'.cell? ⟨w.heap.size + 1 + 1, 0, none⟩ = some c0 ∧ w'.cell? ⟨w.heap.size + 1 + 1, 1, none⟩ = some c1 ∧ w'.cell? ⟨w.heap.size + 1 + 1, 2, none⟩ = some c2 ∧ w'.cell? ⟨w.heap.size + 1 + 1, 3, none⟩ = some c3 ∧ w'.cell? ⟨w.heap.size + 1 + 1, 4, none⟩ = some c4 ∧ w'.cell? ⟨w.heap.size + 1 + 1, 5, none⟩ = some c5 ∧ w'.cell? ⟨w.heap.size + 1 + 1, 6, none⟩ = some c6) ∧ (∀ j, w'.frozen? ⟨w.heap.size + 1, j, none⟩ = false) ∧ (∀ j, w'.frozen? ⟨w.heap.size + 1 + 1, j, none⟩ = false) := by
  refine ⟨⟨?_, ?_, ?_, ?_, ?_, ?_, ?_⟩, ⟨?_, ?_, ?_, ?_, ?_, ?_, ?_⟩, ⟨?_, ?_, ?_, ?_, ?_, ?_, ?_⟩, fun j => ?_, fun j => ?_⟩
  rotate_left 21
  · rw [h.frozen (by simp)]; go_simp
  · rw [h.frozen (by simp)]; go_simp
  all_goals (rw [h.cell (by first | (simp; done) | (simp; omega))]; go_simp; done)
set_option maxHeartbeats 1000000 in
theorem toItem_any (x : It) (w : World) : Calls Try.prog 19 #[itv x] w fun e w' => e = .returned (itv x) ∧ Below w.heap.size w w' := by
  obtain ⟨kd, ⟨op, rd, s1, s2, im⟩, lb⟩ := x
  unfold itv
  simp only
  go_enter Try.func19, Try.ntmps19
  go_wp2_with fail
  refine (toInst_any op rd s1 s2 im _).mono ?_
  rintro e w1 ⟨rfl, hb1⟩
  obtain ⟨⟨c0, c1, c2, c3, c4, c5, c6⟩, ⟨b0, b1, b2, b3, b4, b5, b6⟩, ⟨a0, a1, a2, a3, a4, a5, a6⟩, f1, f2⟩ := box777 hb1
  have hB1 : Below w.heap.size w w1 := ((((Below.refl _ _).alloc (Nat.le_refl _) _).alloc (by simp) _).alloc (by simp; omega) _).trans (hb1.mono (by simp; omega))
  clear hb1
  go_wp2_with fail
  refine bodyPost_ret (v := .agg #[.int .i64 kd, .int .i64 op, .int .i64 rd, .int .i64 s1, .int .i64 s2, .int .i64 im, .int .i64 lb]) (by simp [results, Try.results19, go_sem, b0, b1, b2, b3, b4, b5, b6]) rfl ⟨rfl, ?_⟩
  iterate 13 refine Below.setCell ?_ (by first | (simp; done) | (simp; omega)) _
  exact hB1

/-- Items in a row of their own, a new block. -/
def ItemsO (B : Nat) (w : World) (v : Value) (its : List It) : Prop := ∃ g xs, v = .slice (some ⟨g, 0, none⟩) its.length its.length ∧ w.ownsRow B 38 7 v its.length xs ∧ RowIs (fun j => encT (its.getD j it0)) 7 its.length xs
theorem ItemsO.items {B : Nat} {w : World} {v : Value} {its : List It} (h : ItemsO B w v its) (hm : its.length ≤ 9223372036854775807) : Items w v its := by
  obtain ⟨g, xs, rfl, ho, hx⟩ := h
  refine ⟨_, _, rfl, Nat.le_refl _, hm, fun h0 => ⟨g, 0, rfl, fun j hj => ?_⟩⟩
  have hl := ho.1
  have key : ∀ i, i < 7 → w.cell? ⟨g, 0 + j * 7 + i, none⟩ = (encT its[j])[i]? := fun i hi => by
    rw [Nat.zero_add, ho.cellAt (j * 7 + i) (by omega), hx j hj i hi]
    simp [List.getD, hj]
  exact ⟨key 0 (by omega), key 1 (by omega), key 2 (by omega), key 3 (by omega), key 4 (by omega), key 5 (by omega), key 6 (by omega)⟩
theorem ItemsO.below {B : Nat} {w w' : World} {v : Value} {its : List It} (h : ItemsO B w v its) (hb : Below w.heap.size w w') : ItemsO B w' v its := by
  obtain ⟨g, xs, rfl, ho, hx⟩ := h
  exact ⟨g, xs, rfl, owns_belowA ho hb, hx⟩

set_option maxHeartbeats 2000000 in
theorem toItems_any (v : Value) (ns : List It) (w : World) (hl : ns.length ≤ 1048576) (hc : Items w v ns) :
    Calls Try.prog 6 #[v] w fun e w' => ∃ v', e = .returned v' ∧ ItemsO w.heap.size w' v' ns ∧ Below w.heap.size w w' := by
  obtain ⟨a, cap, rfl, hcl, hcm, hc⟩ := hc
  have HC : Hid (0 < ns.length → ∃ b off, a = some ⟨b, off, none⟩ ∧ ItemsC w b off ns) := hc
  clear hc
  obtain ⟨i0, hi, hz0, hz1, hz2⟩ := info_parts inf_item
  go_enter Try.func6, Try.ntmps6
  go_wp2_with (at_make; refine wpList_make_full _ rfl _ _ 26 rfl w.heap.size 38 i0 (.agg #[.int .i64 0, .int .i64 0, .int .i64 0, .int .i64 0, .int .i64 0, .int .i64 0, .int .i64 0]) 7 Try.underlying26 hi hz0 hz1 _ _ _ _ ns.length rfl rfl (by omega) (by omega) ?_ ?_ (Nat.le_refl _) ?_)
  · rw [hz2]; omega
  · unfold maxLen; omega
  intro w1 hown1 hgrow1
  have hnx1 : Below w.heap.size w w1 := (Below.refl _ _).grown hgrow1 (Nat.le_refl _) (by simp)
  go_wp2_with fail
  go_loopw [4] (fun i wr => ∃ (k : Nat) (xs : List Value), k ≤ ns.length ∧ i = .int .i64 k ∧ wr.ownsRow w.heap.size 38 7 (.slice (some ⟨w.heap.size, 0, none⟩) ns.length ns.length) ns.length xs ∧ RowIs (fun j => encT (ns.getD j it0)) 7 k xs ∧ Below w.heap.size w wr)
    (fun i _ => ns.length - (intOf i).toNat)
  case atStart => exact ⟨0, _, Nat.zero_le _, rfl, hown1, RowIs.zero _ _ _, hnx1⟩
  case round =>
    obtain ⟨k, xs, hk, rfl, hown, hxs, hB⟩ := hrel
    clear hown1 hgrow1 hnx1
    have HX : Hid (RowIs (fun j => encT (ns.getD j it0)) 7 k xs) := hxs
    clear hxs
    by_cases hlt : k < ns.length
    · obtain ⟨b, off, rfl, hc⟩ := HC.out (by omega)
      obtain ⟨d0, d1, d2, d3, d4, d5, d6⟩ := (hc.below hB) k hlt
      have HN : Hid (encT (ns.getD k it0) = encT ns[k]) := by show _ = _; simp [List.getD, hlt]
      clear hc
      generalize ns[k] = n at d0 d1 d2 d3 d4 d5 d6 HN
      have HO : Hid (wr.ownsRow w.heap.size 38 7 (.slice (some ⟨w.heap.size, 0, none⟩) ns.length ns.length) ns.length xs) := hown
      clear hown
      go_wp2_with fail
      refine (show Calls _ _ _ _ _ from toItem_any n _).mono ?_
      rintro e w2 ⟨rfl, hb2⟩
      simp only [itv]
      have hown2 := owns_belowA HO.out hb2
      obtain ⟨⟨y0, o0⟩, f0⟩ := own_old hown2 (k * 7) (by omega)
      obtain ⟨⟨y1, o1⟩, f1⟩ := own_old hown2 (k * 7 + 1) (by omega)
      obtain ⟨⟨y2, o2⟩, f2⟩ := own_old hown2 (k * 7 + 2) (by omega)
      obtain ⟨⟨y3, o3⟩, f3⟩ := own_old hown2 (k * 7 + 3) (by omega)
      obtain ⟨⟨y4, o4⟩, f4⟩ := own_old hown2 (k * 7 + 4) (by omega)
      obtain ⟨⟨y5, o5⟩, f5⟩ := own_old hown2 (k * 7 + 5) (by omega)
      obtain ⟨⟨y6, o6⟩, f6⟩ := own_old hown2 (k * 7 + 6) (by omega)
      have hB2 := hB.trans (hb2.mono hB.size)
      have HR : Hid _ := owns_put (encT n) w2 xs (k * 7) hown2
      have HL : Hid (xs.length = ns.length * 7) := hown2.1
      have HB3 : Hid _ := below_put (Nat.le_refl _) (encT n) w2 (k * 7) hB2
      clear hown2 d0 d1 d2 d3 d4 d5 d6
      go_wp2_with fail
      go_roundw
      case rel => exact ⟨k + 1, _, by omega, by go_num, HR.out, HX.out.step (fun _ _ => rfl) HN.out rfl (by have := HL.out; omega), HB3.out⟩
      case measure => simp [intOf]; omega
    · have HO : Hid (wr.ownsRow w.heap.size 38 7 (.slice (some ⟨w.heap.size, 0, none⟩) ns.length ns.length) ns.length xs) := hown
      clear hown
      have hk' : k = ns.length := by omega
      have HK : Hid (k = ns.length) := hk'
      clear hk'
      go_wp2_with fail
      go_ret
      exact ⟨_, rfl, ⟨w.heap.size, xs, rfl, HO.out, by rw [← HK.out]; exact HX.out⟩, hB⟩

/-- The first m cells of block g are there, and free. -/
def OldN (w : World) (g m : Nat) : Prop := ∀ j, j < m → (∃ y, w.cell? ⟨g, j, none⟩ = some y) ∧ w.frozen? ⟨g, j, none⟩ = false
theorem OldN.set {w : World} {g m : Nat} (h : OldN w g m) (i : Nat) (u : Value) : OldN (w.setCell ⟨g, i, none⟩ u) g m := by
  intro j hj
  obtain ⟨⟨y, hy⟩, hf⟩ := h j hj
  refine ⟨?_, (World.frozen?_setCell _ _ _ _).trans hf⟩
  by_cases e : j = i
  · subst e
    exact ⟨_, World.cell?_setCell_same _ _ _ hy⟩
  · exact ⟨y, by rw [World.cell?_setCell_other _ _ _ _ (by intro h; simp only [Addr.mk.injEq] at h; omega)]; exact hy⟩
theorem ItemsO.old {B : Nat} {w : World} {v : Value} {its : List It} (h : ItemsO B w v its) : ∃ g, v = .slice (some ⟨g, 0, none⟩) its.length its.length ∧ B ≤ g ∧ g < w.heap.size ∧ OldN w g (its.length * 7) := by
  obtain ⟨g, xs, rfl, ho, hx⟩ := h
  exact ⟨g, rfl, (World.ownsRow.lt ho g rfl).1, (World.ownsRow.lt ho g rfl).2, fun j hj => own_old ho j hj⟩

set_option maxHeartbeats 2000000 in
theorem markIt_any (g n cap q : Nat) (w : World) (hn : n ≤ 1048576) (h0 : 0 < q) (hq : q ≤ 100) (h : OldN w g (n * 7)) :
    Calls Try.prog 10 #[.slice (some ⟨g, 0, none⟩) n cap, .int .i64 q] w fun e w' => e = .returned (.int .i64 ((q + 7 * n : Nat) : Int)) ∧ Tg g w w' := by
  have H : Hid (OldN w g (n * 7)) := h
  clear h
  go_enter Try.func10, Try.ntmps10
  go_wp2_with fail
  go_loopw [1, 5] (fun kk i wr => ∃ k : Nat, k ≤ n ∧ i = .int .i64 k ∧ kk = .int .i64 ((q + 7 * k : Nat) : Int) ∧ Tg g w wr ∧ OldN wr g (n * 7)) (fun _ i _ => n - (intOf i).toNat)
  case atStart => exact ⟨0, Nat.zero_le _, rfl, rfl, Tg.refl _ _, H.out⟩
  case round =>
    obtain ⟨k, hk, rfl, rfl, hT, hO⟩ := hrel
    have HO : Hid (OldN wr g (n * 7)) := hO
    have HTn : Hid (Tg g w wr) := hT
    clear hO hT
    by_cases hlt : k < n
    · obtain ⟨z, hz⟩ : ∃ z : Nat, z = q + 7 * k := ⟨_, rfl⟩
      have HZ : Hid (z = q + 7 * k) := hz
      rw [← hz]
      have hz0 : 0 < z := by omega
      have hz1 : (z : Int) ≤ 200000000 := by omega
      clear hz
      obtain ⟨⟨y0, c0⟩, f0⟩ := HO.out (k * 7) (by omega)
      obtain ⟨⟨y1, c1⟩, f1⟩ := HO.out (k * 7 + 1) (by omega)
      obtain ⟨⟨y2, c2⟩, f2⟩ := HO.out (k * 7 + 2) (by omega)
      obtain ⟨⟨y3, c3⟩, f3⟩ := HO.out (k * 7 + 3) (by omega)
      obtain ⟨⟨y4, c4⟩, f4⟩ := HO.out (k * 7 + 4) (by omega)
      obtain ⟨⟨y5, c5⟩, f5⟩ := HO.out (k * 7 + 5) (by omega)
      obtain ⟨⟨y6, c6⟩, f6⟩ := HO.out (k * 7 + 6) (by omega)
      go_wp2_with fail
      go_roundw
      case rel => exact ⟨k + 1, by omega, by go_num, by rw [HZ.out]; go_num, ((((((HTn.out.set _ _).set _ _).set _ _).set _ _).set _ _).set _ _).set _ _, ((((((HO.out.set _ _).set _ _).set _ _).set _ _).set _ _).set _ _).set _ _⟩
      case measure => simp [intOf]; omega
    · obtain rfl : k = n := by omega
      go_wp2_with fail
      go_ret
      exact ⟨rfl, HTn.out⟩

set_option maxHeartbeats 1000000 in
theorem eqInst_any (op rd s1 s2 im : Int) (w : World) : Calls Try.prog 37 #[.agg #[.int .i64 op, .int .i64 rd, .int .i64 s1, .int .i64 s2, .int .i64 im], .agg #[.int .i64 op, .int .i64 rd, .int .i64 s1, .int .i64 s2, .int .i64 im]] w fun e w' => e = .returned (.bool true) ∧ Below w.heap.size w w' := by
  go_enter Try.func37, Try.ntmps37
  go_wp2_with fail
  go_ret
  exact ⟨rfl, ((Below.refl _ _).alloc (Nat.le_refl _) _).alloc (by simp) _⟩
set_option maxRecDepth 8000 in
theorem box77 {w w' : World} {t u : TypeId} {a0 a1 a2 a3 a4 a5 a6 b0 b1 b2 b3 b4 b5 b6 : Value} (h : Below ((w.alloc (.cells #[a0, a1, a2, a3, a4, a5, a6] t)).alloc (.cells #[b0, b1, b2, b3, b4, b5, b6] u)).heap.size ((w.alloc (.cells #[a0, a1, a2, a3, a4, a5, a6] t)).alloc (.cells #[b0, b1, b2, b3, b4, b5, b6] u)) w') :
    w'.cell? ⟨w.heap.size, 6, none⟩ = some a6 ∧ w'.cell? ⟨w.heap.size + 1, 6, none⟩ = some b6 := by
  refine ⟨?_, ?_⟩
  all_goals (rw [h.cell (by first | (simp; done) | (simp; omega))]; go_simp; done)
set_option maxHeartbeats 1000000 in
theorem eqItem_any (x : It) (w : World) : Calls Try.prog 23 #[itv x, itv x] w fun e w' => e = .returned (.bool true) ∧ Below w.heap.size w w' := by
  obtain ⟨kd, ⟨op, rd, s1, s2, im⟩, lb⟩ := x
  unfold itv
  simp only
  go_enter Try.func23, Try.ntmps23
  go_wp2_with fail
  refine (eqInst_any op rd s1 s2 im _).mono ?_
  rintro e w1 ⟨rfl, hb1⟩
  obtain ⟨c6, b6⟩ := box77 hb1
  have hB1 : Below w.heap.size w w1 := (((Below.refl _ _).alloc (Nat.le_refl _) _).alloc (by simp) _).trans (hb1.mono (by simp; omega))
  clear hb1
  go_wp2_with fail
  go_ret
  exact ⟨rfl, hB1⟩

theorem bcell {W w1 : World} (hb : Below W.heap.size W w1) : (∀ b o, b < W.heap.size → w1.cell? ⟨b, o, none⟩ = W.cell? ⟨b, o, none⟩) ∧ (∀ b o, b < W.heap.size → w1.frozen? ⟨b, o, none⟩ = W.frozen? ⟨b, o, none⟩) :=
  ⟨fun b o h => hb.cell (p := ⟨b, o, none⟩) h, fun b o h => hb.frozen (p := ⟨b, o, none⟩) h⟩
set_option maxHeartbeats 4000000 in
theorem eqItems_any (v1 v2 : Value) (ns : List It) (w : World) (hl : ns.length ≤ 1048576) (h1 : Items w v1 ns) (h2 : Items w v2 ns) :
    Calls Try.prog 9 #[v1, v2] w fun e w' => e = .returned (.bool true) ∧ Below w.heap.size w w' := by
  obtain ⟨a1, c1, rfl, -, -, hc1⟩ := h1
  obtain ⟨a2, c2, rfl, -, -, hc2⟩ := h2
  have H1 : Hid (0 < ns.length → ∃ b off, a1 = some ⟨b, off, none⟩ ∧ ItemsC w b off ns) := hc1
  have H2 : Hid (0 < ns.length → ∃ b off, a2 = some ⟨b, off, none⟩ ∧ ItemsC w b off ns) := hc2
  clear hc1 hc2
  go_enter Try.func9, Try.ntmps9
  go_wp2_with fail
  go_loopw [5] (fun i wr => ∃ k : Nat, k ≤ ns.length ∧ i = .int .i64 k ∧ Below w.heap.size w wr) (fun i _ => ns.length - (intOf i).toNat)
  case atStart => exact ⟨0, Nat.zero_le _, rfl, Below.refl _ _⟩
  case round =>
    obtain ⟨k, hk, rfl, hB⟩ := hrel
    by_cases hlt : k < ns.length
    · obtain ⟨b1, o1, rfl, hx1⟩ := H1.out (by omega)
      obtain ⟨b2, o2, rfl, hx2⟩ := H2.out (by omega)
      obtain ⟨d0, d1, d2, d3, d4, d5, d6⟩ := (hx1.below hB) k hlt
      obtain ⟨e0, e1, e2, e3, e4, e5, e6⟩ := (hx2.below hB) k hlt
      have l1 := World.block_lt_of_cell? _ _ d0
      have l2 := World.block_lt_of_cell? _ _ e0
      simp only at l1 l2
      clear hx1 hx2
      generalize ns[k] = n at d0 d1 d2 d3 d4 d5 d6 e0 e1 e2 e3 e4 e5 e6
      have HQ : Hid (∀ W : World, Calls Try.prog 23 #[.agg #[.int .i64 n.kind, .int .i64 n.ins.op, .int .i64 n.ins.rd, .int .i64 n.ins.s1, .int .i64 n.ins.s2, .int .i64 n.ins.im, .int .i64 n.label], .agg #[.int .i64 n.kind, .int .i64 n.ins.op, .int .i64 n.ins.rd, .int .i64 n.ins.s1, .int .i64 n.ins.s2, .int .i64 n.ins.im, .int .i64 n.label]] W fun e w' => e = .returned (.bool true) ∧ Below W.heap.size W w') := fun W => eqItem_any n W
      go_wp2_with fail
      go_region_held3 (fun W => W.cell? ⟨b1, o1 + k * 7, none⟩ = some (.int .i64 n.kind) ∧ W.cell? ⟨b1, o1 + k * 7 + 1, none⟩ = some (.int .i64 n.ins.op) ∧ W.cell? ⟨b1, o1 + k * 7 + 2, none⟩ = some (.int .i64 n.ins.rd) ∧ W.cell? ⟨b1, o1 + k * 7 + 3, none⟩ = some (.int .i64 n.ins.s1) ∧ W.cell? ⟨b1, o1 + k * 7 + 4, none⟩ = some (.int .i64 n.ins.s2) ∧ W.cell? ⟨b1, o1 + k * 7 + 5, none⟩ = some (.int .i64 n.ins.im) ∧ W.cell? ⟨b1, o1 + k * 7 + 6, none⟩ = some (.int .i64 n.label) ∧ W.cell? ⟨b2, o2 + k * 7, none⟩ = some (.int .i64 n.kind) ∧ W.cell? ⟨b2, o2 + k * 7 + 1, none⟩ = some (.int .i64 n.ins.op) ∧ W.cell? ⟨b2, o2 + k * 7 + 2, none⟩ = some (.int .i64 n.ins.rd) ∧ W.cell? ⟨b2, o2 + k * 7 + 3, none⟩ = some (.int .i64 n.ins.s1) ∧ W.cell? ⟨b2, o2 + k * 7 + 4, none⟩ = some (.int .i64 n.ins.s2) ∧ W.cell? ⟨b2, o2 + k * 7 + 5, none⟩ = some (.int .i64 n.ins.im) ∧ W.cell? ⟨b2, o2 + k * 7 + 6, none⟩ = some (.int .i64 n.label)) (go_simp)
        (first
        | (go_at_call 23; refine (HQ.out _).mono ?_; rintro e w2 ⟨rfl, hb2⟩; have hcc : ∀ b o, b < wr.heap.size → w2.cell? ⟨b, o, none⟩ = wr.cell? ⟨b, o, none⟩ := (bcell hb2).1))
      have hB2 := hB.trans ((((Below.refl _ _).drew).trans hb2).mono hB.size)
      go_wp2_with fail
      go_roundw
      case rel => exact ⟨k + 1, by omega, by go_num, hB2⟩
      case measure => simp [intOf]; omega
    · go_wp2_with fail
      go_ret
      exact ⟨rfl, hB⟩

set_option maxHeartbeats 1000000 in
theorem szIt_any (v : Value) (ns : List It) (w : World) (hl : ns.length ≤ 9223372036854775807) (h : Items w v ns) :
    Calls Try.prog 4 #[v, .int .i64 1048576] w fun e w' => (if 1048576 < ns.length then e = .returned (.int .i64 (-1)) else ∃ q : Int, 0 ≤ q ∧ e = .returned (.int .i64 q)) ∧ w' = w := by
  obtain ⟨a, c, rfl, -, -, -⟩ := h
  by_cases hc : 1048576 < ns.length
  · simp only [hc, if_true]
    go_enter Try.func4, Try.ntmps4
    go_wp2_with fail
    go_ret
    exact ⟨rfl, rfl⟩
  · simp only [hc, if_false]
    go_enter Try.func4, Try.ntmps4
    go_wp2_with fail
    go_ret
    exact ⟨⟨1048576 - (ns.length : Int), by omega, rfl⟩, rfl⟩

end Go.Proofs.Ytkbonhbegpiajaa
