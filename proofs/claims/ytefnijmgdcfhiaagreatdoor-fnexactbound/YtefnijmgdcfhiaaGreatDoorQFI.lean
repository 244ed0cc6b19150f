import Derived.Test.YtefnijmgdcfhiaaGreatDoorQFA
import Derived.Test.YtefnijmgdcfhiaaGreatDoorQFC
import Derived.Test.YtefnijmgdcfhiaaGreatDoorQAF
import Derived.WalkKit
import Derived.WalkSpells
import Derived.BigQuiet
import Derived.Laws.OwnMore
namespace Go.Proofs.YtefnijmgdcfhiaaGreatDoor
open Go.RowKit
set_option linter.unusedVariables false
set_option linter.unusedSimpArgs false

theorem wholeTo_add (l : List Nd) (d : Int) (hd : 0 ≤ d) : ∀ (k q : Int), wholeTo l k = some q → wholeTo l (k + d) = some (q + d) := by
  induction l with
  | nil => intro k q h; simp only [wholeTo, Option.some.injEq] at *; omega
  | cons n r ih =>
    intro k q h
    simp only [wholeTo] at *
    split at h
    · rename_i hh
      rw [if_pos ⟨hh.1, by omega⟩]
      have := ih _ _ h
      rw [show k + d + 1 - arity n = k + 1 - arity n + d by omega]
      exact this
    · cases h
theorem one_whole {s : List Nd} (h : oneB s = true) : wholeTo s 0 = some 1 := by simpa [oneB] using h
theorem wholeTo_segs (T : List (List Nd)) (h : ∀ s ∈ T, oneB s = true) : ∀ k : Int, 0 ≤ k → wholeTo T.flatten k = some (k + T.length) := by
  induction T with
  | nil => intro k hk; simp [wholeTo]
  | cons s T ih =>
    intro k hk
    rw [List.flatten_cons, wholeTo_append]
    have h1 := wholeTo_add s k hk 0 1 (one_whole (h s (by simp)))
    rw [show (0 : Int) + k = k by omega] at h1
    rw [h1, Option.bind_some, ih (fun s hs => h s (by simp [hs])) (1 + k) (by omega)]
    simp only [List.length_cons, Option.some.injEq]
    omega
theorem flat_take (T : List (List Nd)) (i : Nat) (hi : i < T.length) : T.flatten.take (T.take (i + 1)).flatten.length = (T.take i).flatten ++ T[i] := by
  have e : T = T.take (i + 1) ++ T.drop (i + 1) := (List.take_append_drop _ _).symm
  have e2 : T.flatten = (T.take (i + 1)).flatten ++ (T.drop (i + 1)).flatten := by rw [← List.flatten_append, ← e]
  rw [e2, List.take_left, List.take_add_one, List.flatten_append]
  simp [List.getElem?_eq_getElem hi]
theorem flat_len (T : List (List Nd)) (i : Nat) (hi : i < T.length) : (T.take (i + 1)).flatten.length = (T.take i).flatten.length + T[i].length := by
  rw [List.take_add_one, List.flatten_append, List.length_append]
  simp [List.getElem?_eq_getElem hi]
theorem flat_le (T : List (List Nd)) (i : Nat) : (T.take i).flatten.length ≤ T.flatten.length := by
  have e2 : T.flatten = (T.take i).flatten ++ (T.drop i).flatten := by rw [← List.flatten_append, List.take_append_drop]
  rw [e2, List.length_append]
  omega
theorem seg_kid (T : List (List Nd)) (n : Nd) (i : Nat) (hi : i < T.length) : ((T.flatten ++ [n]).take (T.take (i + 1)).flatten.length).drop (T.take i).flatten.length = T[i] := by
  rw [List.take_append_of_le_length (flat_le T _), flat_take T i hi, List.drop_left]
theorem root_snoc (l : List Nd) (n : Nd) : rootN (l ++ [n]) = n := by
  simp [rootN]
theorem push_one (T : List (List Nd)) (n : Nd) (hn : nodeB n = true) (hA : arity n = T.length) (h : ∀ s ∈ T, oneB s = true) : oneB (T.flatten ++ [n]) = true := by
  have : wholeTo (T.flatten ++ [n]) 0 = some 1 := by
    rw [wholeTo_append, wholeTo_segs T h 0 (Int.le_refl _), Option.bind_some]
    simp only [wholeTo]
    rw [if_pos ⟨hn, by omega⟩]
    simp only [Option.some.injEq]
    omega
  simpa [oneB] using this
theorem push_cut (T : List (List Nd)) (n : Nd) (hn : nodeB n = true) (hA : arity n = T.length) (h : ∀ s ∈ T, oneB s = true) :
    Cut (T.flatten ++ [n]) T.length (fun i => (T.take i).flatten.length) := by
  refine ⟨by simp, by rw [root_snoc]; exact hA, one_good (push_one T n hn hA h), by simp, by simp, fun i hi => ?_⟩
  have hl := flat_len T i hi
  have ho := (oneB_iff T[i]).1 (h _ (List.getElem_mem _))
  have hp := one_pos (h _ (List.getElem_mem hi))
  refine ⟨by omega, ?_, fun j h1 h2 => ?_⟩
  · rw [seg_kid T n i hi]; exact ho.2.1
  · have e : ((T.flatten ++ [n]).take (T.take (i + 1)).flatten.length).drop j = T[i].drop (j - (T.take i).flatten.length) := by
      rw [← seg_kid T n i hi, List.drop_drop]
      congr 1
      omega
    rw [e]
    exact ho.2.2 _ (by omega) (by omega)
theorem push_fd (ap : Int → Int → Int → Int) (T : List (List Nd)) (n : Nd) (hn : nodeB n = true) (hA : arity n = T.length) (h : ∀ s ∈ T, oneB s = true) (F : Nat → List Nd) (hF : ∀ i (hi : i < T.length), Fd ap T[i] (F i)) :
    Fd ap (T.flatten ++ [n]) (fold1 ap n T.length F) := by
  have := Fd.mk (ap := ap) (T.flatten ++ [n]) T.length _ F (push_cut T n hn hA h) (fun i hi => by rw [kid, seg_kid T n i hi]; exact hF i hi)
  rwa [root_snoc] at this
/-- How many values stand when a node comes up, and at the end. -/
theorem segs_room {e : List Nd} (he : oneB e = true) {T : List (List Nd)} (h : ∀ s ∈ T, oneB s = true) {k : Nat} (hk : k < e.length) (hT : T.flatten = e.take k) : nodeB e[k] = true ∧ arity e[k] ≤ T.length := by
  have h1 := one_whole he
  obtain ⟨p, h2, h3⟩ := whole_take e 0 1 h1 (k + 1)
  have h4 := wholeTo_segs T h 0 (Int.le_refl _)
  rw [hT] at h4
  have := wholeTo_step e k _ hk h4
  rw [h2] at this
  split at this
  · rename_i hh
    exact ⟨hh.1, by omega⟩
  · cases this
theorem segs_end {e : List Nd} (he : oneB e = true) {T : List (List Nd)} (h : ∀ s ∈ T, oneB s = true) (hT : T.flatten = e) : T = [e] := by
  have h4 := wholeTo_segs T h 0 (Int.le_refl _)
  rw [hT, one_whole he] at h4
  simp only [Option.some.injEq] at h4
  have h5 : T.length = 1 := by omega
  obtain ⟨s, rfl⟩ := List.length_eq_one_iff.1 h5
  simp at hT
  rw [hT]

end Go.Proofs.YtefnijmgdcfhiaaGreatDoor

namespace Go.Proofs.YtefnijmgdcfhiaaGreatDoor
open Go.RowKit
set_option linter.unusedVariables false
set_option linter.unusedSimpArgs false

theorem info_nv : (Tryz.prog.info? 135).map (fun i => (i.zero, i.size, i.bytes)) = some (some .nilIface, 1, 16) := by kernel_rfl
/-- A row of values that is the call's own. -/
def VRow (B : Nat) (w : World) (v : Value) (us : List Value) : Prop := w.ownsRow B 135 1 v us.length us
theorem VRow.form {B : Nat} {w : World} {v : Value} {us : List Value} (h : VRow B w v us) : ∃ a cap, v = .slice a us.length cap ∧ us.length ≤ cap ∧ cap ≤ 9223372036854775807 ∧ (a = none → us = []) ∧ (∀ ad, a = some ad → ∃ g, ad = ⟨g, 0, none⟩ ∧ B ≤ g ∧ g < w.heap.size ∧ ∀ j u, us[j]? = some u → w.cell? ⟨g, j, none⟩ = some u) := by
  have h0 := h
  rcases h.2 with ⟨rfl, hn⟩ | ⟨g, cap, cur, rfl, hbg, hg, hnc, hcm, hcs, htake⟩
  · refine ⟨none, 0, by rw [hn], by omega, by omega, fun _ => List.eq_nil_of_length_eq_zero hn, fun ad hh => ?_⟩
    cases hh
  · refine ⟨_, cap, rfl, hnc, by unfold maxLen at hcm; omega, fun hh => ?_, fun ad hh => ?_⟩
    · cases hh
    · simp only [Option.some.injEq] at hh
      refine ⟨g, hh.symm, hbg, (World.ownsRow.lt h0 g rfl).2, fun j u hj => ?_⟩
      have := World.ownsRow.cells h0 (g := g) rfl j u hj
      rw [addrO] at this
      simpa using this
theorem VRow.head {B : Nat} {w : World} {a : Option Addr} {n cap : Nat} {us : List Value} (h : VRow B w (.slice a n cap) us) (lo : Nat) (hlo : lo ≤ us.length) : VRow B w (.slice a lo cap) (us.take lo) := by
  have hl : (us.take lo).length = lo := by simp; omega
  rcases h.2 with ⟨he, hn⟩ | ⟨g, cap', cur, he, hbg, hg, hnc, hcm, hcs, htake⟩
  · simp only [Value.slice.injEq] at he
    obtain ⟨rfl, rfl, rfl⟩ := he
    have : lo = 0 := by omega
    subst this
    refine ⟨by simp, .inl ⟨by simp, by simp⟩⟩
  · simp only [Value.slice.injEq] at he
    obtain ⟨rfl, rfl, rfl⟩ := he
    refine ⟨by simp, .inr ⟨g, cap, cur, by rw [hl], hbg, hg, by rw [hl]; omega, hcm, hcs, ?_⟩⟩
    rw [hl, ← htake, List.take_take, Nat.mul_one, Nat.mul_one, Nat.min_eq_left (by omega)]
theorem VRow.own {B : Nat} {w : World} {v : Value} {us : List Value} (h : VRow B w v us) (g : Nat) (hg : v.ownBlock = some g) : B ≤ g ∧ g < w.heap.size := World.ownsRow.lt h g hg
/-- A slice whose cells are these values, if any. -/
def Src (w : World) (v : Value) (us : List Value) : Prop := ∃ a cap, v = .slice a us.length cap ∧ (a = none → us = []) ∧ ∀ ad, a = some ad → ∀ j u, us[j]? = some u → w.cell? (ad.add j) = some u
theorem Src.below {w w' : World} {v : Value} {us : List Value} (h : Src w v us) (hb : Below w.heap.size w w') : Src w' v us := by
  obtain ⟨a, cap, rfl, h1, h2⟩ := h
  refine ⟨a, cap, rfl, h1, fun ad he j u hj => ?_⟩
  have := h2 ad he j u hj
  exact (hb.cell (p := ad.add j) (World.block_lt_of_cell? _ _ this)).trans this
theorem VRow.src {B : Nat} {w : World} {v : Value} {us : List Value} (h : VRow B w v us) : Src w v us := by
  obtain ⟨a, cap, rfl, _, _, h1, h2⟩ := h.form
  refine ⟨a, cap, rfl, h1, fun ad he j u hj => ?_⟩
  obtain ⟨g, rfl, _, _, h3⟩ := h2 ad he
  have := h3 j u hj
  rw [addrO]
  simpa using this
theorem VRow.tail {B : Nat} {w : World} {a : Option Addr} {n cap : Nat} {us : List Value} (h : VRow B w (.slice a n cap) us) (lo : Nat) (hlo : lo ≤ us.length) : Src w (.slice (if cap = lo then a else a.map (·.add (lo * 1))) (n - lo) (cap - lo)) (us.drop lo) := by
  obtain ⟨a', cap', he, hlc, _, h1, h2⟩ := h.form
  simp only [Value.slice.injEq] at he
  obtain ⟨rfl, rfl, rfl⟩ := he
  refine ⟨_, _, by rw [List.length_drop], fun hh => ?_, fun ad hh j u hj => ?_⟩
  · have ha : a = none := by
      split at hh
      · exact hh
      · cases a with
        | none => rfl
        | some x => cases hh
    rw [h1 ha]; simp
  · have hj' := (List.getElem?_eq_some_iff.mp hj).1
    rw [List.length_drop] at hj'
    rw [if_neg (by omega)] at hh
    cases a with
    | none => cases hh
    | some x =>
      simp only [Option.map_some, Option.some.injEq] at hh
      obtain ⟨g, rfl, _, _, h3⟩ := h2 x rfl
      subst hh
      rw [List.getElem?_drop] at hj
      have := h3 _ _ hj
      rw [addrO, addrO]
      simpa using this
theorem run_appV {P : Program} {w : World} (base : Nat) (t ty e : TypeId) (i : TypeInfo) (z : Value) (ht : P.underlying t = some (.slice e)) (hi : P.info? e = some i) (hz : i.zero = some z)
    (hsize : i.size = 1) (hby : i.bytes = 16) (hzs : z.cells.size = 1)
    (v : Value) (xs : List Value) (hown : w.ownsRow base e 1 v xs.length xs) (x : Value) (us : List Value) (hx : Src w x us) (h1 : ∀ u ∈ us, u.oneCell' = true)
    (hm : xs.length + us.length ≤ 10000000) (hbase : base ≤ w.heap.size) :
    ∃ v' w', (Builtin.append_ #[t, t] ty #[v, x]).run P w = .ok v' w' ∧ w'.ownsRow base e 1 v' (xs ++ us).length (xs ++ us) ∧ w.grownBy w' v.ownBlock ∧ ∀ k, v'.ownBlock = some k → v.ownBlock = some k ∨ w.heap.size ≤ k := by
  obtain ⟨a, cap, rfl, h2, h3⟩ := hx
  cases a with
  | none =>
    obtain rfl := h2 rfl
    have hr : (Builtin.append_ #[t, t] ty #[v, .slice none ([] : List Value).length cap]).run P w = .ok v w := by
      rcases hown.2 with ⟨rfl, hn⟩ | ⟨g, cap', cur, rfl, _, _, hnc, _⟩
      · simp [Builtin.append_, run_underlying ht, sizeOf, typeInfo, hi, Builtin.lenOf, Builtin.firstCells]
      · simp [Builtin.append_, run_underlying ht, sizeOf, typeInfo, hi, Builtin.lenOf, Builtin.firstCells, hnc, storeCells]
    refine ⟨v, w, hr, by simpa using hown, ⟨rfl, rfl, rfl, Nat.le_refl _, fun _ _ _ => rfl⟩, fun k hk => .inl hk⟩
  | some ad =>
    obtain ⟨v', w', r1, r2, r3, r4⟩ := app_freshG (P := P) (w := w) base t ty e i z 1 16 ht hi hz hsize hby hzs (by decide) v xs.length xs hown ad us.length cap us (by simp) (h3 ad rfl) h1 hm (by decide) hbase
    exact ⟨v', w', r1, by rw [List.length_append]; exact r2, r3, r4⟩
theorem step_appV {P : Program} {w : World} {ops : Array Oper} {o : Oper} {a : Act} {K : Act → World → Prop} {Q : Exit → Act → World → Prop} {E : Prop} (hgd : o.guard = none) (s x : Operand) (t : TypeId)
    (ho : o.op = .call { callee := .builtin .append, args := #[s, x], argTypes := #[t, t] })
    (base : Nat) (e : TypeId) (i : TypeInfo) (z : Value) (ht : P.underlying t = some (.slice e)) (hi : P.info? e = some i) (hz : i.zero = some z)
    (hsize : i.size = 1) (hby : i.bytes = 16) (hzs : z.cells.size = 1)
    (v : Value) (xs : List Value) (hs : a.eval s = v) (hown : w.ownsRow base e 1 v xs.length xs) (xv : Value) (us : List Value) (hxv : a.eval x = xv) (hx : Src w xv us) (h1 : ∀ u ∈ us, u.oneCell' = true)
    (hm : xs.length + us.length ≤ 10000000) (hbase : base ≤ w.heap.size)
    (h : ∀ v' w', w'.ownsRow base e 1 v' (xs ++ us).length (xs ++ us) → w.grownBy w' v.ownBlock → (∀ k, v'.ownBlock = some k → v.ownBlock = some k ∨ w.heap.size ≤ k) → K (a.put o.dst v') w') :
    if Region.wanted o (yielded ops a.tmps) = true then Oper.wp P o a w K Q else E := by
  have hw : Region.wanted o (yielded ops a.tmps) = true := by simp [Region.wanted, hgd]
  rw [if_pos hw]
  obtain ⟨v', w', hr, h2, h3, h4⟩ := run_appV (P := P) (w := w) base t o.type e i z ht hi hz hsize hby hzs v xs hown xv us hx h1 hm hbase
  unfold Oper.wp execOp
  simp only [ho, resolve, invoke, builtin, Sem.run_bind, Sem.run_pure, Result.andThen_ok, List.map_toArray, List.map_cons, List.map_nil, hs, hxv, hr]
  exact h v' w' h2 h3 h4
theorem wpList_appV {P : Program} {w : World} {ops : Array Oper} {rest : List Oper} {o : Oper} {a : Act} {Q : Exit → Act → World → Prop} (hgd : o.guard = none) (s x : Operand) (t : TypeId)
    (ho : o.op = .call { callee := .builtin .append, args := #[s, x], argTypes := #[t, t] })
    (base : Nat) (e : TypeId) (i : TypeInfo) (z : Value) (ht : P.underlying t = some (.slice e)) (hi : P.info? e = some i) (hz : i.zero = some z)
    (hsize : i.size = 1) (hby : i.bytes = 16) (hzs : z.cells.size = 1)
    (v : Value) (xs : List Value) (hs : a.eval s = v) (hown : w.ownsRow base e 1 v xs.length xs) (xv : Value) (us : List Value) (hxv : a.eval x = xv) (hx : Src w xv us) (h1 : ∀ u ∈ us, u.oneCell' = true)
    (hm : xs.length + us.length ≤ 10000000) (hbase : base ≤ w.heap.size)
    (h : ∀ v' w', w'.ownsRow base e 1 v' (xs ++ us).length (xs ++ us) → w.grownBy w' v.ownBlock → (∀ k, v'.ownBlock = some k → v.ownBlock = some k ∨ w.heap.size ≤ k) → wpList P ops Q rest (a.put o.dst v') w') : wpList P ops Q (o :: rest) a w := by
  refine wpList_plain hgd fun K hK => ?_
  obtain ⟨v', w', hr, h2, h3, h4⟩ := run_appV (P := P) (w := w) base t o.type e i z ht hi hz hsize hby hzs v xs hown xv us hx h1 hm hbase
  unfold Oper.wp execOp
  simp only [ho, resolve, invoke, builtin, Sem.run_bind, Sem.run_pure, Result.andThen_ok, List.map_toArray, List.map_cons, List.map_nil, hs, hxv, hr]
  exact hK _ _ (h v' w' h2 h3 h4)

set_option maxRecDepth 8000 in
set_option maxHeartbeats 1000000 in
theorem clone_nv (v : Value) (us : List Value) (w : World) (hl : us.length ≤ 2097152) (h : Src w v us) (h1 : ∀ u ∈ us, u.oneCell' = true) :
    Calls Tryz.prog 98 #[v] w fun e w' => ∃ u, e = .returned u ∧ VRow w.heap.size w' u us ∧ Below w.heap.size w w' := by
  obtain ⟨i0, hi, hz0, hz1, hz2⟩ := info_parts info_nv
  have hs := h.below ((Below.refl w.heap.size w).alloc (Nat.le_refl _) (.cells #[] 135))
  obtain ⟨a, cap, rfl, ha, hr⟩ := h
  cases a with
  | none =>
    obtain rfl := ha rfl
    clear hr hl hi hz0 hz1 hz2 hs
    simp only [List.length_nil]
    have hnil : ∀ w : World, (binOp .eql 169 (.slice none 0 cap) (.slice none 0 0)).run Tryz.prog w = .ok (.bool true) w := fun w => Lib.run_eql_slice_nil w 169 135 none 0 cap 0 0 Tryz.underlying169
    go_enter Tryz.func98, Tryz.ntmps98
    go_wp2
    go_ret
    exact ⟨_, rfl, World.ownsRow_nil _ _ _ _, Below.refl _ _⟩
  | some ad =>
    have hnil : ∀ w : World, (binOp .eql 169 (.slice (some ad) us.length cap) (.slice none 0 0)).run Tryz.prog w = .ok (.bool false) w := fun w => Lib.run_eql_slice_nil w 169 135 (some ad) us.length cap 0 0 Tryz.underlying169
    clear ha hr
    go_enter Tryz.func98, Tryz.ntmps98
    go_wp2_with (at_builtin; refine wpList_appV rfl _ _ 169 rfl w.heap.size 135 i0 .nilIface Tryz.underlying169 hi hz0 hz1 hz2 rfl _ [] rfl (World.ownsRow_lit w #[] 0 (Nat.le_refl _) (by decide) rfl) _ us rfl hs h1 (by simp; omega) (by simp) ?_)
    intro v' w1 hown hgrow _
    have hb : Below w.heap.size w w1 := ((Below.refl _ _).alloc (Nat.le_refl _) _).grown hgrow (by simp) (by simp [Value.ownBlock])
    try rw [List.nil_append] at hown
    have HL : Hid (VRow w.heap.size w1 v' us) := hown
    clear hown hgrow h1 hs
    go_wp2
    go_ret
    exact ⟨_, rfl, HL.out, hb⟩

end Go.Proofs.YtefnijmgdcfhiaaGreatDoor
