import Derived.Test.YtplkgkgekgdnmaaRows
import Derived.Test.YtplkgkgekgdnmaaLs
import Derived.WalkKit
import Derived.WalkSpells
import Derived.ProofKit
import Derived.Deep.QuietTactic
import Derived.BigQuiet
import Derived.WalkSmall
import Derived.OwnWalk
import Derived.Laws.OwnMore
import Derived.Laws.AppendOwnNone
namespace Go.Proofs.Ytplkgkgekgdnmaa
open Go.RowKit
set_option linter.unusedVariables false
set_option linter.unusedSimpArgs false

theorem Try.infu32 : (Try.prog.info? 28).map (fun i => (i.zero, i.size, i.bytes)) = some (some (.int .u32 0), 1, 4) := by kernel_rfl

theorem Try.infu8 : (Try.prog.info? 5).map (fun i => (i.zero, i.size, i.bytes)) = some (some (.int .u8 0), 1, 1) := by kernel_rfl

theorem Try.infi64 : (Try.prog.info? 2).map (fun i => (i.zero, i.size, i.bytes)) = some (some (.int .i64 0), 1, 8) := by kernel_rfl

set_option maxRecDepth 8000 in
set_option maxHeartbeats 1000000 in
theorem clone_i64 (v : Value) (zs : List Int) (w : World) (hl : zs.length ≤ 2097152) (h : Lis .i64 w v zs) :
    Calls Try.prog 47 #[v] w fun e w' => ∃ u, e = .returned u ∧ w'.ownsRow w.heap.size 2 1 u zs.length (zs.map (Value.int .i64)) ∧ Below w.heap.size w w' := by
  obtain ⟨i0, hi, hz0, hz1, hz2⟩ := info_parts Try.infi64
  obtain ⟨a, cap, rfl, hr⟩ := h
  cases a with
  | none =>
    have h0 : zs = [] := by
      by_cases hn : 0 < zs.length
      · obtain ⟨g, off, e, _⟩ := hr hn
        simp at e
      · exact List.eq_nil_of_length_eq_zero (by omega)
    subst h0
    clear hr hl hi hz0 hz1 hz2
    simp only [List.length_nil]
    have hnil : ∀ w : World, (binOp .eql 44 (.slice none 0 cap) (.slice none 0 0)).run Try.prog w = .ok (.bool true) w := fun w => Lib.run_eql_slice_nil w 44 2 none 0 cap 0 0 Try.underlying44
    go_enter Try.func47, Try.ntmps47
    go_wp2
    go_ret
    exact ⟨_, rfl, World.ownsRow_nil _ _ _ _, Below.refl _ _⟩
  | some ad =>
    have hnews : ∀ j u, (zs.map (Value.int .i64))[j]? = some u → (w.alloc (.cells #[] 2)).cell? (ad.add j) = some u := by
      intro j u hj
      have hj' : j < zs.length := by
        have := (List.getElem?_eq_some_iff.mp hj).1
        simpa using this
      obtain ⟨g, off, e, hR⟩ := hr (by omega)
      simp only [Option.some.injEq] at e
      subst e
      rw [Addr.add_lit]
      rw [((Below.refl w.heap.size w).alloc (Nat.le_refl _) _).cell (p := ⟨g, off + j, none⟩) hR.lt, hR.cell j hj']
      simp only [List.getElem?_map, Option.map_eq_some_iff] at hj
      obtain ⟨z, hz, rfl⟩ := hj
      simp [List.getD, hz]
    have h1 : ∀ u ∈ zs.map (Value.int .i64), u.oneCell' = true := by
      intro u hu
      simp only [List.mem_map] at hu
      obtain ⟨z, _, rfl⟩ := hu
      rfl
    clear hr
    have hnil : ∀ w : World, (binOp .eql 44 (.slice (some ad) zs.length cap) (.slice none 0 0)).run Try.prog w = .ok (.bool false) w := fun w => Lib.run_eql_slice_nil w 44 2 (some ad) zs.length cap 0 0 Try.underlying44
    go_enter Try.func47, Try.ntmps47
    go_wp2_with (at_builtin; refine wpList_append_own _ rfl _ _ 44 rfl w.heap.size 2 i0 (.int .i64 0) 1 8 Try.underlying44 hi hz0 hz1 hz2 rfl (by decide) _ 0 [] rfl (World.ownsRow_lit w #[] 0 (Nat.le_refl _) (by decide) rfl) ad zs.length cap (zs.map (Value.int .i64)) rfl (by simp) hnews h1 (by unfold maxLen; omega) (by omega) (by simp) ?_)
    intro v' w1 hown hgrow _
    have hb : Below w.heap.size w w1 := ((Below.refl _ _).alloc (Nat.le_refl _) _).grown hgrow (by simp) (by simp [Value.ownBlock])
    try rw [List.nil_append] at hown
    try rw [Nat.zero_add] at hown
    have HL : Hid _ := hown
    clear hown hgrow hnews h1
    go_wp2
    go_ret
    exact ⟨_, rfl, HL.out, hb⟩


def wrd (z : Int) : Bool := decide (-2147483648 ≤ z ∧ z ≤ 2147483647)
def wrds (zs : List Int) : Bool := zs.all wrd
theorem wrd_wrap (z : Int) : (IntKind.i32.wrap z = z) ↔ wrd z = true := by
  unfold wrd
  rw [IntKind.wrap_i32]
  simp only [decide_eq_true_eq]
  omega
theorem ret_b {a b : Bool} (h : a = b) : Ending.returned (.bool a) = .returned (.bool b) := by rw [h]
theorem wrds_no (zs : List Int) (k : Nat) (h : k < zs.length) (hz : wrd (zs.getD k 0) = false) : wrds zs = false := by
  unfold wrds
  rw [List.all_eq_false]
  refine ⟨zs.getD k 0, ?_, by rw [hz]; decide⟩
  simp [List.getD, h]
theorem wrds_yes (zs : List Int) (h : ∀ j, j < zs.length → wrd (zs.getD j 0) = true) : wrds zs = true := by
  unfold wrds
  rw [List.all_eq_true]
  intro x hx
  obtain ⟨j, hj, rfl⟩ := List.getElem_of_mem hx
  have := h j hj
  simpa [List.getD, hj] using this


theorem wrap_s (z : Int) (w : World) : Calls Try.prog 59 #[.int .i64 z] w fun e w' => e = .returned (.int .i64 (IntKind.i32.wrap z)) ∧ w' = w := by
  go_enter Try.func59, Try.ntmps59
  go_wp2
  go_ret
  refine ⟨?_, rfl⟩
  have h : wrap64 (wrap32 z) = IntKind.i32.wrap z := by
    rw [IntKind.wrap_i32]
    unfold wrap64 wrap32
    omega
  rw [← h]
  rfl


theorem wrap_i (z : Int) (w : World) : Calls Try.prog 66 #[.int .i64 z] w fun e w' => e = .returned (.int .i64 (IntKind.i32.wrap z)) ∧ w' = w := by
  go_enter Try.func66, Try.ntmps66
  go_wp2
  go_ret
  refine ⟨?_, rfl⟩
  have h : wrap64 (wrap32 z) = IntKind.i32.wrap z := by
    rw [IntKind.wrap_i32]
    unfold wrap64 wrap32
    omega
  rw [← h]
  rfl

end Go.Proofs.Ytplkgkgekgdnmaa
