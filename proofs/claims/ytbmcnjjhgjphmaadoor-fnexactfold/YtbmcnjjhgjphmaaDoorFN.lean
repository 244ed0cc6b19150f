import Derived.Test.YtbmcnjjhgjphmaaDoorFM
namespace Go.Proofs.YtbmcnjjhgjphmaaDoor
open Go.RowKit
set_option linter.unusedVariables false
set_option linter.unusedSimpArgs false

/-- What a value of an expression gives: its node, its operands. -/
def LowIs (w : World) (S : Nat → Prop) (v : Value) (l : List Nd) : Prop := ∃ (t : TypeId) (x : Value) (f : Nat) (n : Nd) (Ls : List (Value × List Nd)),
  v = .iface t x ∧ l = (Ls.map (·.2)).flatten ++ [n] ∧ (∀ q ∈ Ls, Tv w S q.1 q.2) ∧
  (∀ W : World, (method 213 t x "loop.example/s01725/impl.operands").run Tryd.prog W = .ok (f, x) W) ∧
  (∀ (y : Value) (W : World), (callFunc f #[y]).run Tryd.prog W = .ok (.enter f #[y]) W) ∧
  (∀ W : World, Below w.heap.size w W → Calls Tryd.prog f #[x] W fun e w' => ∃ sl, e = .returned sl ∧ Src w' sl (Ls.map (·.1)) ∧ Below W.heap.size W w') ∧
  (∀ W : World, Calls Tryd.prog 32 #[v] W fun e w' => e = .returned (encA n) ∧ Below W.heap.size W w')
theorem join_range (F : Nat → List Nd) (vs : Nat → Value) (A : Nat) : joinF F A = (((List.range A).map (fun i => (vs i, F i))).map (·.2)).flatten := by
  induction A with
  | zero => rfl
  | succ A ih => rw [List.range_succ]; simp only [joinF, List.map_append, List.flatten_append, List.map_cons, List.map_nil, List.flatten_cons, List.flatten_nil, List.append_nil]; rw [ih]
theorem args_src {w : World} {S : Nat → Prop} {ar : Value} {A : Nat} {vs : Nat → Value} (F : Nat → List Nd) (h : Args w S ar A vs) : ∃ a cap, ar = .slice a A cap ∧ Src w ar (((List.range A).map (fun i => (vs i, F i))).map (·.1)) := by
  obtain ⟨a, cap, rfl, _, _, h⟩ := h
  refine ⟨a, cap, rfl, a, cap, by simp, fun ha => ?_, fun ad had j u hj => ?_⟩
  · rcases Nat.eq_zero_or_pos A with h0 | h0
    · subst h0; rfl
    · obtain ⟨B, hB, _⟩ := h h0
      rw [ha] at hB; cases hB
  · have hjA : j < A := by
      have := (List.getElem?_eq_some_iff.mp hj).1
      simpa using this
    obtain ⟨B, hB, _, hc⟩ := h (by omega)
    rw [had] at hB
    simp only [Option.some.injEq] at hB
    subst hB
    rw [addrO]
    have := hc j hjA
    simp only [List.map_map, List.getElem?_map, List.getElem?_range hjA, Option.map_some, Option.some.injEq, Function.comp] at hj
    rw [← hj]
    simpa using this

set_option maxRecDepth 100000 in
theorem Tv.low {w : World} {S : Nat → Prop} {v : Value} {l : List Nd} (h : Tv w S v l) : LowIs w S v l := by
  cases h using Tv.ind with
  | num v => exact ⟨_, _, 78, _, [], rfl, rfl, by simp, fun W => by kernel_rfl, fun y W => by kernel_rfl, fun W _ => ops_num v W, fun W => plain_num v W⟩
  | var s => exact ⟨_, _, 82, _, [], rfl, rfl, by simp, fun W => by kernel_rfl, fun y W => by kernel_rfl, fun W _ => ops_var s W, fun W => plain_var s W⟩
  | index s x r hx =>
    obtain ⟨tx, xx, rfl⟩ := hx.isI
    exact ⟨_, _, 83, _, [(_, r)], rfl, by simp, by simpa using hx, fun W => by kernel_rfl, fun y W => by kernel_rfl, fun W _ => ops_index s tx xx W, fun W => plain_index s tx xx W⟩
  | call s ar A vs F ha hv =>
    obtain ⟨a, cap, rfl, hs⟩ := args_src F ha
    refine ⟨_, _, 84, _, (List.range A).map (fun i => (vs i, F i)), rfl, by rw [← join_range], fun q hq => ?_, fun W => by kernel_rfl, fun y W => by kernel_rfl, fun W hW => ?_, fun W => plain_call s a A cap W⟩
    · simp only [List.mem_map, List.mem_range] at hq
      obtain ⟨i, hi, rfl⟩ := hq
      exact hv i hi
    · refine (ops_call s a A cap W).mono ?_
      rintro e w' ⟨rfl, hb⟩
      exact ⟨_, rfl, hs.below (hW.trans (hb.mono hW.size)), hb⟩
  | inn => exact ⟨_, _, 85, _, [], rfl, rfl, by simp, fun W => by kernel_rfl, fun y W => by kernel_rfl, fun W _ => ops_inn W, fun W => plain_inn W⟩
  | un op x r hx =>
    obtain ⟨tx, xx, rfl⟩ := hx.isI
    exact ⟨_, _, 77, _, [(_, r)], rfl, by simp, by simpa using hx, fun W => by kernel_rfl, fun y W => by kernel_rfl, fun W _ => ops_un op tx xx W, fun W => plain_un op tx xx W⟩
  | bin op x y r t hx hy =>
    obtain ⟨tx, xx, rfl⟩ := hx.isI
    obtain ⟨ty, yy, rfl⟩ := hy.isI
    exact ⟨_, _, 79, _, [(_, r), (_, t)], rfl, by simp, by simpa using ⟨hx, hy⟩, fun W => by kernel_rfl, fun y W => by kernel_rfl, fun W _ => ops_bin op tx xx ty yy W, fun W => plain_bin op tx xx ty yy W⟩
  | and x y r t hx hy =>
    obtain ⟨tx, xx, rfl⟩ := hx.isI
    obtain ⟨ty, yy, rfl⟩ := hy.isI
    exact ⟨_, _, 80, _, [(_, r), (_, t)], rfl, by simp, by simpa using ⟨hx, hy⟩, fun W => by kernel_rfl, fun y W => by kernel_rfl, fun W _ => ops_and tx xx ty yy W, fun W => plain_and tx xx ty yy W⟩
  | or x y r t hx hy =>
    obtain ⟨tx, xx, rfl⟩ := hx.isI
    obtain ⟨ty, yy, rfl⟩ := hy.isI
    exact ⟨_, _, 81, _, [(_, r), (_, t)], rfl, by simp, by simpa using ⟨hx, hy⟩, fun W => by kernel_rfl, fun y W => by kernel_rfl, fun W _ => ops_or tx xx ty yy W, fun W => plain_or tx xx ty yy W⟩

set_option maxRecDepth 100000 in
set_option maxHeartbeats 4000000 in
theorem mapped_any (v : Value) (e r : List Nd) (w : World) (hTab : Tab w) (hN : Nodes w v e) (hone : oneB e = true) (hl : e.length ≤ 2000) (hr : Fd apN e r) :
    Calls Tryd.prog 17 #[v, .func (Fn.func 18) #[] #[]] w fun x w' => ∃ u S, x = .returned u ∧ Tv w' S u r ∧ (∀ B, S B → w.heap.size ≤ B ∧ B < w'.heap.size) ∧ Below w.heap.size w w' := by
  have hb := (Below.refl w.heap.size w).alloc (Nat.le_refl _) (.cells #[.func (Fn.func 18) #[] #[]] 58)
  have HR : Hid (Calls Tryd.prog 34 #[v, .func (Fn.func 35) #[] #[.pointer (some ⟨w.heap.size, 0, none⟩)]] (w.alloc (.cells #[.func (Fn.func 18) #[] #[]] 58)) fun x w' => ∃ u S, x = .returned u ∧ Tv w' S u r ∧ (∀ B, S B → w.heap.size + 1 ≤ B ∧ B < w'.heap.size) ∧ Below (w.heap.size + 1) (w.alloc (.cells #[.func (Fn.func 18) #[] #[]] 58)) w') := by
    have := raised_any v e r w.heap.size (w.alloc (.cells #[.func (Fn.func 18) #[] #[]] 58)) (hTab.below hTab.size hb) (hN.below hb) hone hl hr (by simp)
    simp only [World.size_alloc] at this
    exact this
  obtain ⟨a, cap, rfl, -⟩ := hN
  go_enter Tryd.func17, Tryd.ntmps17
  go_wp2_with fail
  refine HR.out.mono ?_
  rintro x w1 ⟨u, S, rfl, h1, h2, h3⟩
  obtain ⟨ta, tb, rfl⟩ := h1.isI
  have HT : Hid (Tv w1 S (.iface ta tb) r) := h1
  clear h1
  go_wp2_with fail
  go_ret
  exact ⟨_, S, rfl, HT.out, fun B hB => ⟨by have := (h2 B hB).1; omega, (h2 B hB).2⟩, hb.trans (h3.mono (by omega))⟩

end Go.Proofs.YtbmcnjjhgjphmaaDoor
