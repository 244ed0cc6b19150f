import Derived.Test.YtijgcjeijcidfaaDoorVH
import Derived.OwnWalk
import Derived.Laws.OwnMore
namespace Go.Proofs.YtijgcjeijcidfaaDoor
open Go.RowKit
set_option linter.unusedVariables false
set_option linter.unusedSimpArgs false

theorem owns_below {w w' : World} {base e size n cap g : Nat} {xs : List Value} (h : w.ownsRow base e size (.slice (some ⟨g, 0, none⟩) n cap) n xs) (hb : Below w.heap.size w w') : w'.ownsRow base e size (.slice (some ⟨g, 0, none⟩) n cap) n xs := by
  refine ⟨h.1, ?_⟩
  rcases h.2 with hn | ⟨g', cap', cur, he, hB, hg, rest⟩
  · exact .inl hn
  · refine .inr ⟨g', cap', cur, he, hB, ?_, rest⟩
    rw [hb.block g' (Array.getElem?_eq_some_iff.1 hg).1]
    exact hg

/-- Values laid into a row, one behind the other. -/
def putAt (xs : List Value) (i : Nat) : List Value → List Value
  | [] => xs
  | u :: r => putAt (xs.set i u) (i + 1) r
def setMany (w : World) (g i : Nat) : List Value → World
  | [] => w
  | u :: r => setMany (w.setCell ⟨g, i, none⟩ u) g (i + 1) r
theorem putAt_length (us : List Value) : ∀ xs i, (putAt xs i us).length = xs.length := by
  induction us with
  | nil => intro xs i; rfl
  | cons u r ih => intro xs i; simp [putAt, ih]
theorem putAt_get (us : List Value) : ∀ xs i j, i + us.length ≤ xs.length → (putAt xs i us)[j]? = if i ≤ j ∧ j < i + us.length then us[j - i]? else xs[j]? := by
  induction us with
  | nil => intro xs i j h; simp [putAt]; intro h1 h2; omega
  | cons u r ih =>
    intro xs i j h
    simp only [List.length_cons] at h
    simp only [putAt, List.length_cons]
    rw [ih _ _ _ (by simp; omega)]
    by_cases h1 : i + 1 ≤ j ∧ j < i + 1 + r.length
    · rw [if_pos h1, if_pos (by omega), show j - i = (j - (i + 1)) + 1 by omega, List.getElem?_cons_succ]
    · rw [if_neg h1]
      by_cases h2 : j = i
      · subst h2
        rw [if_pos (by omega), List.getElem?_set_self (by omega)]
        simp
      · rw [if_neg (by omega), List.getElem?_set_ne (by omega)]
theorem owns_put {base e size n cap g : Nat} (us : List Value) : ∀ (w : World) (xs : List Value) (i : Nat), w.ownsRow base e size (.slice (some ⟨g, 0, none⟩) n cap) n xs → (setMany w g i us).ownsRow base e size (.slice (some ⟨g, 0, none⟩) n cap) n (putAt xs i us) := by
  induction us with
  | nil => intro w xs i h; exact h
  | cons u r ih => intro w xs i h; exact ih _ _ _ (h.stored i u).1
theorem below_put {B : Nat} {a : World} {g : Nat} (hg : B ≤ g) (us : List Value) : ∀ (w : World) (i : Nat), Below B a w → Below B a (setMany w g i us) := by
  induction us with
  | nil => intro w i h; exact h
  | cons u r ih => intro w i h; exact ih _ _ (h.setCell hg u)
/-- The first k elements of a row, m cells each. -/
def RowIs (enc : Nat → List Value) (m k : Nat) (xs : List Value) : Prop := ∀ j, j < k → ∀ i, i < m → xs[j * m + i]? = (enc j)[i]?
theorem RowIs.step {enc enc' : Nat → List Value} {m k : Nat} {xs us : List Value} (h : RowIs enc m k xs) (he : ∀ j, j < k → enc' j = enc j) (hk : enc' k = us) (hu : us.length = m) (hl : (k + 1) * m ≤ xs.length) : RowIs enc' m (k + 1) (putAt xs (k * m) us) := by
  intro j hj i hi
  have e1 : (k + 1) * m = k * m + m := by rw [Nat.add_mul, Nat.one_mul]
  rw [putAt_get us xs (k * m) (j * m + i) (by omega)]
  by_cases hjk : j = k
  · subst hjk
    rw [if_pos (by omega), show j * m + i - j * m = i by omega, hk]
  · have hlt : j < k := by omega
    have : j * m + m ≤ k * m := by
      have := Nat.mul_le_mul_right m (show j + 1 ≤ k by omega)
      rw [Nat.add_mul, Nat.one_mul] at this
      exact this
    rw [if_neg (by omega), h j hlt i hi, he j hlt]
theorem RowIs.zero (enc : Nat → List Value) (m : Nat) (xs : List Value) : RowIs enc m 0 xs := fun j hj => absurd hj (Nat.not_lt_zero _)
theorem own_old {w : World} {base e size n cap g : Nat} {xs : List Value} (h : w.ownsRow base e size (.slice (some ⟨g, 0, none⟩) n cap) n xs) (j : Nat) (hj : j < n * size) : (∃ y, w.cell? ⟨g, j, none⟩ = some y) ∧ w.frozen? ⟨g, j, none⟩ = false := by
  have hlen := h.1
  exact ⟨⟨xs[j]'(by omega), by rw [h.cellAt j (by omega)]; simp⟩, h.frozenAt j⟩

def encN (n : Nd) : List Value := [.int .i64 n.kind, .int .i64 n.val, .string n.name]
theorem inf_node : (Tryd.prog.info? 71).map (fun i => (i.zero, i.size, i.bytes)) = some (some (.agg #[.int .i64 0, .int .i64 0, .string ⟨#[]⟩]), 3, 32) := by kernel_rfl
set_option maxHeartbeats 1000000 in
theorem toNode_any (n : Nd) (w : World) : Calls Tryd.prog 63 #[.agg #[.int .i64 n.kind, .int .i64 n.val, .string n.name]] w fun e w' => e = .returned (.agg #[.int .i64 n.kind, .int .i64 n.val, .string n.name]) ∧ Below w.heap.size w w' := by
  obtain ⟨k, v, s⟩ := n
  simp only
  go_enter Tryd.func63, Tryd.ntmps63
  go_wp2_with fail
  exact bodyPost_ret (v := .agg #[.int .i64 k, .int .i64 v, .string s]) (by simp [results, Tryd.results63, go_sem]) rfl ⟨rfl, (((Below.refl _ _).alloc (Nat.le_refl _) _).alloc (by simp) _).alloc (by simp; omega) _⟩

/-- A slice of nodes in a row of its own, a new block. -/
def NodesO (B : Nat) (w : World) (v : Value) (ns : List Nd) : Prop := ∃ g xs, v = .slice (some ⟨g, 0, none⟩) ns.length ns.length ∧ w.ownsRow B 71 3 v ns.length xs ∧ RowIs (fun j => encN (ns.getD j ⟨0, 0, ⟨#[]⟩⟩)) 3 ns.length xs
theorem NodesO.nodes {B : Nat} {w : World} {v : Value} {ns : List Nd} (h : NodesO B w v ns) (hm : ns.length ≤ 9223372036854775807) : Nodes w v ns := by
  obtain ⟨g, xs, rfl, ho, hx⟩ := h
  refine ⟨_, _, rfl, Nat.le_refl _, hm, fun h0 => ⟨g, 0, rfl, fun j hj => ?_⟩⟩
  have hl := ho.1
  have key : ∀ i, i < 3 → w.cell? ⟨g, 0 + j * 3 + i, none⟩ = (encN ns[j])[i]? := fun i hi => by
    rw [Nat.zero_add, ho.cellAt (j * 3 + i) (by omega), hx j hj i hi]
    simp [List.getD, hj]
  exact ⟨key 0 (by omega), key 1 (by omega), key 2 (by omega)⟩
theorem NodesO.below {B : Nat} {w w' : World} {v : Value} {ns : List Nd} (h : NodesO B w v ns) (hb : Below w.heap.size w w') : NodesO B w' v ns := by
  obtain ⟨g, xs, rfl, ho, hx⟩ := h
  exact ⟨g, xs, rfl, owns_below ho hb, hx⟩

set_option maxHeartbeats 1000000 in
theorem toNodes_any (v : Value) (ns : List Nd) (w : World) (hl : ns.length ≤ 1048576) (hc : Nodes w v ns) :
    Calls Tryd.prog 60 #[v] w fun e w' => ∃ v', e = .returned v' ∧ NodesO w.heap.size w' v' ns ∧ Below w.heap.size w w' := by
  obtain ⟨a, cap, rfl, hcl, hcm, hc⟩ := hc
  have HC : Hid (0 < ns.length → ∃ b off, a = some ⟨b, off, none⟩ ∧ NodesC w b off ns) := hc
  clear hc
  obtain ⟨i0, hi, hz0, hz1, hz2⟩ := info_parts inf_node
  go_enter Tryd.func60, Tryd.ntmps60
  go_wp2_with (at_make; refine wpList_make_full _ rfl _ _ 58 rfl w.heap.size 71 i0 (.agg #[.int .i64 0, .int .i64 0, .string ⟨#[]⟩]) 3 Tryd.underlying58 hi hz0 hz1 _ _ _ _ ns.length rfl rfl (by omega) (by omega) ?_ ?_ (Nat.le_refl _) ?_)
  · rw [hz2]; omega
  · unfold maxLen; omega
  intro w1 hown1 hgrow1
  have hnx1 : Below w.heap.size w w1 := (Below.refl _ _).grown hgrow1 (Nat.le_refl _) (by simp)
  go_wp2_with fail
  go_loopw [4] (fun i wr => ∃ (k : Nat) (xs : List Value), k ≤ ns.length ∧ i = .int .i64 k ∧ wr.ownsRow w.heap.size 71 3 (.slice (some ⟨w.heap.size, 0, none⟩) ns.length ns.length) ns.length xs ∧ RowIs (fun j => encN (ns.getD j ⟨0, 0, ⟨#[]⟩⟩)) 3 k xs ∧ Below w.heap.size w wr)
    (fun i _ => ns.length - (intOf i).toNat)
  case atStart => exact ⟨0, _, Nat.zero_le _, rfl, hown1, RowIs.zero _ _ _, hnx1⟩
  case round =>
    obtain ⟨k, xs, hk, rfl, hown, hxs, hB⟩ := hrel
    clear hown1 hgrow1 hnx1
    have HX : Hid (RowIs (fun j => encN (ns.getD j ⟨0, 0, ⟨#[]⟩⟩)) 3 k xs) := hxs
    clear hxs
    by_cases hlt : k < ns.length
    · obtain ⟨b, off, rfl, hc⟩ := HC.out (by omega)
      obtain ⟨d0, d1, d2⟩ := (hc.below hB) k hlt
      have HN : Hid (encN (ns.getD k ⟨0, 0, ⟨#[]⟩⟩) = encN ns[k]) := by show _ = _; simp [List.getD, hlt]
      clear hc
      generalize ns[k] = n at d0 d1 d2 HN
      have HO : Hid (wr.ownsRow w.heap.size 71 3 (.slice (some ⟨w.heap.size, 0, none⟩) ns.length ns.length) ns.length xs) := hown
      clear hown
      go_wp2_with fail
      refine (toNode_any n _).mono ?_
      rintro e w2 ⟨rfl, hb2⟩
      have hown2 := owns_below HO.out hb2
      obtain ⟨⟨y0, o0⟩, f0⟩ := own_old hown2 (k * 3) (by omega)
      obtain ⟨⟨y1, o1⟩, f1⟩ := own_old hown2 (k * 3 + 1) (by omega)
      obtain ⟨⟨y2, o2⟩, f2⟩ := own_old hown2 (k * 3 + 2) (by omega)
      have hB2 := hB.trans (hb2.mono hB.size)
      have HR : Hid _ := owns_put (encN n) w2 xs (k * 3) hown2
      have HL : Hid (xs.length = ns.length * 3) := hown2.1
      have HB3 : Hid _ := below_put (Nat.le_refl _) (encN n) w2 (k * 3) hB2
      clear hown2 d0 d1 d2
      go_wp2_with fail
      go_roundw
      case rel => exact ⟨k + 1, _, by omega, by go_num, HR.out, HX.out.step (fun _ _ => rfl) HN.out rfl (by have := HL.out; omega), HB3.out⟩
      case measure => simp [intOf]; omega
    · have HO : Hid (wr.ownsRow w.heap.size 71 3 (.slice (some ⟨w.heap.size, 0, none⟩) ns.length ns.length) ns.length xs) := hown
      clear hown
      have hk' : k = ns.length := by omega
      have HK : Hid (k = ns.length) := hk'
      clear hk'
      go_wp2_with fail
      go_ret
      exact ⟨_, rfl, ⟨w.heap.size, xs, rfl, HO.out, by rw [← HK.out]; exact HX.out⟩, hB⟩

end Go.Proofs.YtijgcjeijcidfaaDoor
