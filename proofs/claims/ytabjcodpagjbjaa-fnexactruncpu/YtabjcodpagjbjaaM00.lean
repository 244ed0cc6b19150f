import Derived.WalkKit
import Derived.WalkSpells
import Derived.ProofKit
import Derived.Deep.QuietTactic
import Derived.BigQuiet
import Derived.WalkSmall
import Derived.Test.YtabjcodpagjbjaaRows
import Derived.OwnWalk
import Derived.Laws.OwnMore
import Derived.Laws.AppendOwnNone
namespace Go.Proofs.Ytabjcodpagjbjaa
open Go.RowKit
set_option linter.unusedVariables false

/-- The world has turned in the blocks of S and in new blocks alone. -/
structure Tcs (S : Nat → Prop) (W w' : World) : Prop where
  os : w'.os = W.os
  tape : w'.tape = W.tape
  output : w'.output = W.output
  size : W.heap.size ≤ w'.heap.size
  block : ∀ k, k < W.heap.size → ¬ S k → w'.heap[k]? = W.heap[k]?
theorem Tcs.refl (S : Nat → Prop) (W : World) : Tcs S W W := ⟨rfl, rfl, rfl, Nat.le_refl _, fun _ _ _ => rfl⟩
theorem Tcs.trans {S : Nat → Prop} {a b c : World} (h : Tcs S a b) (k : Tcs S b c) : Tcs S a c :=
  ⟨k.os.trans h.os, k.tape.trans h.tape, k.output.trans h.output, Nat.le_trans h.size k.size, fun i hi hg => (k.block i (Nat.lt_of_lt_of_le hi h.size) hg).trans (h.block i hi hg)⟩
theorem Tcs.mono {S T : Nat → Prop} {a b : World} (h : Tcs S a b) (hs : ∀ k, S k → T k) : Tcs T a b :=
  ⟨h.os, h.tape, h.output, h.size, fun k hk hn => h.block k hk fun s => hn (hs k s)⟩
theorem Tcs.drewN {S : Nat → Prop} {a w : World} (h : Tcs S a w) (n : Nat) : Tcs S a (w.drewN n) := h.trans ⟨rfl, rfl, rfl, Nat.le_refl _, fun _ _ _ => rfl⟩
theorem Tcs.setCell {S : Nat → Prop} {a w : World} (h : Tcs S a w) {p : Addr} (hp : S p.block) (u : Value) : Tcs S a (w.setCell p u) :=
  h.trans ⟨rfl, rfl, rfl, by simp, fun k _ hk => Below.heap_setCell w p u k fun e => hk (e ▸ hp)⟩
theorem Tcs.alloc {S : Nat → Prop} {a w : World} (h : Tcs S a w) (o : Obj) : Tcs S a (w.alloc o) :=
  h.trans ⟨rfl, rfl, rfl, by simp, fun k hk _ => Below.heap_alloc w o k hk⟩
/-- A store into a block that is new since a. -/
theorem Tcs.setNew {S : Nat → Prop} {a w : World} (h : Tcs S a w) {p : Addr} (hp : a.heap.size ≤ p.block) (u : Value) : Tcs S a (w.setCell p u) :=
  ⟨h.os, h.tape, h.output, by simpa using h.size, fun k hk hn => (Below.heap_setCell w p u k (by omega)).trans (h.block k hk hn)⟩
theorem Tcs.of_below {S : Nat → Prop} {a w w' : World} (h : Tcs S a w) (hb : Below w.heap.size w w') : Tcs S a w' :=
  h.trans ⟨hb.os, hb.tape, hb.output, hb.size, fun k hk _ => hb.block k hk⟩
/-- What is new since a may be written freely. -/
theorem Tcs.of_new {S : Nat → Prop} {B : Nat} {a w w' : World} (h : Tcs S a w) (hb : Below B w w') (hB : a.heap.size ≤ B) : Tcs S a w' :=
  ⟨hb.os.trans h.os, hb.tape.trans h.tape, hb.output.trans h.output, Nat.le_trans h.size hb.size, fun k hk hn => (hb.block k (by omega)).trans (h.block k hk hn)⟩
theorem Tcs.below {S : Nat → Prop} {B : Nat} {a w w' : World} (h : Tcs S w w') (hb : Below B a w) (hB : B ≤ w.heap.size) (hg : ∀ k, S k → B ≤ k) : Below B a w' :=
  ⟨h.os.trans hb.os, h.tape.trans hb.tape, h.output.trans hb.output, Nat.le_trans hb.size h.size, fun k hk => (h.block k (by omega) (fun s => by have := hg k s; omega)).trans (hb.block k hk)⟩

/-- The block that a slice of one cell or more lies in. -/
def blk : Value → List Nat
  | .slice (some a) (_ + 1) _ => [a.block]
  | _ => []
@[simp] theorem blk_zero (a : Option Addr) (c : Nat) : blk (.slice a 0 c) = [] := by cases a <;> rfl
@[simp] theorem blk_none (n c : Nat) : blk (.slice none n c) = [] := rfl
theorem blk_some (a : Addr) (n c : Nat) (h : 0 < n) : blk (.slice (some a) n c) = [a.block] := by
  cases n with
  | zero => omega
  | succ n => rfl

/-- The cells of block g from off on hold the numbers zs; none is frozen. -/
structure Row (k : IntKind) (w : World) (g off : Nat) (zs : List Int) : Prop where
  lt : g < w.heap.size
  cell : ∀ j, j < zs.length → w.cell? ⟨g, off + j, none⟩ = some (.int k (zs.getD j 0))
  froz : ∀ j, w.frozen? ⟨g, j, none⟩ = false
theorem Row.keep {k : IntKind} {w w' : World} {g off : Nat} {zs : List Int} (h : Row k w g off zs) (hs : w.heap.size ≤ w'.heap.size) (hb : w'.heap[g]? = w.heap[g]?) : Row k w' g off zs :=
  ⟨Nat.lt_of_lt_of_le h.lt hs, fun j hj => (World.cell?_of_block (w := w) (a := ⟨g, off + j, none⟩) hb).trans (h.cell j hj), fun j => (World.frozen?_of_block (w := w) (a := ⟨g, j, none⟩) hb).trans (h.froz j)⟩

/-- A slice that holds the numbers zs of kind k. -/
def Lis (k : IntKind) (w : World) (v : Value) (zs : List Int) : Prop :=
  ∃ a cap, v = .slice a zs.length cap ∧ (0 < zs.length → ∃ g off, a = some ⟨g, off, none⟩ ∧ Row k w g off zs)
theorem Lis.keep {k : IntKind} {w w' : World} {v : Value} {zs : List Int} (h : Lis k w v zs) (hs : w.heap.size ≤ w'.heap.size) (hb : ∀ g ∈ blk v, g < w.heap.size → w'.heap[g]? = w.heap[g]?) : Lis k w' v zs := by
  obtain ⟨a, cap, rfl, hr⟩ := h
  refine ⟨a, cap, rfl, fun hn => ?_⟩
  obtain ⟨g, off, rfl, hR⟩ := hr hn
  exact ⟨g, off, rfl, hR.keep hs (hb g (by rw [blk_some _ _ _ hn]; simp) hR.lt)⟩
theorem Lis.lt {k : IntKind} {w : World} {v : Value} {zs : List Int} (h : Lis k w v zs) : ∀ g ∈ blk v, g < w.heap.size := by
  obtain ⟨a, cap, rfl, hr⟩ := h
  intro g hg
  by_cases hn : 0 < zs.length
  · obtain ⟨g', off, rfl, hR⟩ := hr hn
    rw [blk_some _ _ _ hn] at hg
    simp only [List.mem_singleton] at hg
    subst hg
    exact hR.lt
  · obtain h0 : zs.length = 0 := by omega
    rw [h0] at hg
    simp at hg
theorem Lis.below {k : IntKind} {w w' : World} {v : Value} {zs : List Int} (h : Lis k w v zs) (hb : Below w.heap.size w w') : Lis k w' v zs :=
  h.keep hb.size fun g _ hl => hb.block g hl
theorem Lis.tcs {S : Nat → Prop} {k : IntKind} {w w' : World} {v : Value} {zs : List Int} (h : Lis k w v zs) (ht : Tcs S w w') (hn : ∀ g ∈ blk v, ¬ S g) : Lis k w' v zs :=
  h.keep ht.size fun g hg hl => ht.block g hl (hn g hg)
theorem Lis.nil (k : IntKind) (w : World) (a : Option Addr) (c : Nat) : Lis k w (.slice a 0 c) [] := ⟨a, c, rfl, fun h => absurd h (Nat.lt_irrefl _)⟩
theorem Lis.len0 {k : IntKind} {w : World} {v : Value} {zs : List Int} (h : Lis k w v zs) : ∃ a cap, v = .slice a zs.length cap := by
  obtain ⟨a, cap, rfl, _⟩ := h
  exact ⟨a, cap, rfl⟩
theorem Lis.cases {k : IntKind} {w : World} {v : Value} {zs : List Int} (h : Lis k w v zs) : (zs = [] ∧ ∃ a cap, v = .slice a 0 cap) ∨ (0 < zs.length ∧ ∃ g off cap, v = .slice (some ⟨g, off, none⟩) zs.length cap ∧ Row k w g off zs) := by
  obtain ⟨a, cap, rfl, hr⟩ := h
  by_cases hn : 0 < zs.length
  · obtain ⟨g, off, rfl, hR⟩ := hr hn
    exact .inr ⟨hn, g, off, cap, rfl, hR⟩
  · obtain rfl : zs = [] := List.eq_nil_of_length_eq_zero (by omega)
    exact .inl ⟨rfl, a, cap, rfl⟩
theorem Lis.of_row {k : IntKind} {w : World} {g off cap : Nat} {zs : List Int} (h : Row k w g off zs) : Lis k w (.slice (some ⟨g, off, none⟩) zs.length cap) zs :=
  ⟨_, cap, rfl, fun _ => ⟨g, off, rfl, h⟩⟩
/-- From the library's own predicate. -/
theorem Lis.of_own {k : IntKind} {w : World} {base e : Nat} {v : Value} {n : Nat} {zs : List Int} (h : w.ownsRow base e 1 v n (zs.map (Value.int k))) : Lis k w v zs ∧ ∀ g ∈ blk v, base ≤ g := by
  have hl := h.1
  simp only [List.length_map, Nat.mul_one] at hl
  subst hl
  rcases h.2 with ⟨rfl, h0⟩ | ⟨g, cap, cur, rfl, hbg, hg, hnc, hcm, hcs, htake⟩
  · obtain rfl : zs = [] := List.eq_nil_of_length_eq_zero h0
    exact ⟨Lis.nil _ _ _ _, by simp⟩
  · refine ⟨Lis.of_row ⟨(Array.getElem?_eq_some_iff.mp hg).1, fun j hj => ?_, fun j => ?_⟩, ?_⟩
    · rw [Nat.zero_add, h.cellAt j (by omega)]
      simp [hj]
    · exact h.frozenAt j
    · intro b hb
      by_cases hn : 0 < zs.length
      · rw [blk_some _ _ _ hn] at hb
        simp only [List.mem_singleton] at hb
        omega
      · rw [show zs.length = 0 by omega] at hb
        simp at hb

/-- What marking lays: q, q + 1 and on, wrapped. -/
def marks (k : IntKind) (q : Int) (n : Nat) : List Int := (List.range n).map fun (i : Nat) => k.wrap (q + (i : Int))
@[simp] theorem marks_length (k : IntKind) (q : Int) (n : Nat) : (marks k q n).length = n := by simp [marks]
theorem marks_getD (k : IntKind) (q : Int) (n j : Nat) (h : j < n) : (marks k q n).getD j 0 = k.wrap (q + j) := by simp [marks, h]
end Go.Proofs.Ytabjcodpagjbjaa

namespace Go.Proofs.Ytabjcodpagjbjaa
open Go.RowKit
set_option linter.unusedVariables false
set_option linter.unusedSimpArgs false

theorem Try.infu32 : (Try.prog.info? 30).map (fun i => (i.zero, i.size, i.bytes)) = some (some (.int .u32 0), 1, 4) := by kernel_rfl

theorem Try.infu8 : (Try.prog.info? 5).map (fun i => (i.zero, i.size, i.bytes)) = some (some (.int .u8 0), 1, 1) := by kernel_rfl

theorem Try.infi64 : (Try.prog.info? 2).map (fun i => (i.zero, i.size, i.bytes)) = some (some (.int .i64 0), 1, 8) := by kernel_rfl

set_option maxRecDepth 8000 in
set_option maxHeartbeats 1000000 in
theorem clone_u32 (v : Value) (zs : List Int) (w : World) (hl : zs.length ≤ 2097152) (h : Lis .u32 w v zs) :
    Calls Try.prog 65 #[v] w fun e w' => ∃ u, e = .returned u ∧ w'.ownsRow w.heap.size 30 1 u zs.length (zs.map (Value.int .u32)) ∧ Below w.heap.size w w' := by
  obtain ⟨i0, hi, hz0, hz1, hz2⟩ := info_parts Try.infu32
  obtain ⟨a, cap, rfl, hr⟩ := h
  cases a with
  | none =>
    have h0 : zs = [] := by
      by_cases hn : 0 < zs.length
      · obtain ⟨g, off, e, _⟩ := hr hn
        simp at e
      · exact List.eq_nil_of_length_eq_zero (by omega)
    subst h0
    clear hr hl hi hz0 hz1 hz2
    simp only [List.length_nil]
    have hnil : ∀ w : World, (binOp .eql 23 (.slice none 0 cap) (.slice none 0 0)).run Try.prog w = .ok (.bool true) w := fun w => Lib.run_eql_slice_nil w 23 30 none 0 cap 0 0 Try.underlying23
    go_enter Try.func65, Try.ntmps65
    go_wp2
    go_ret
    exact ⟨_, rfl, World.ownsRow_nil _ _ _ _, Below.refl _ _⟩
  | some ad =>
    have hnews : ∀ j u, (zs.map (Value.int .u32))[j]? = some u → (w.alloc (.cells #[] 30)).cell? (ad.add j) = some u := by
      intro j u hj
      have hj' : j < zs.length := by
        have := (List.getElem?_eq_some_iff.mp hj).1
        simpa using this
      obtain ⟨g, off, e, hR⟩ := hr (by omega)
      simp only [Option.some.injEq] at e
      subst e
      rw [Addr.add_lit]
      rw [((Below.refl w.heap.size w).alloc (Nat.le_refl _) _).cell (p := ⟨g, off + j, none⟩) hR.lt, hR.cell j hj']
      simp only [List.getElem?_map, Option.map_eq_some_iff] at hj
      obtain ⟨z, hz, rfl⟩ := hj
      simp [List.getD, hz]
    have h1 : ∀ u ∈ zs.map (Value.int .u32), u.oneCell' = true := by
      intro u hu
      simp only [List.mem_map] at hu
      obtain ⟨z, _, rfl⟩ := hu
      rfl
    clear hr
    have hnil : ∀ w : World, (binOp .eql 23 (.slice (some ad) zs.length cap) (.slice none 0 0)).run Try.prog w = .ok (.bool false) w := fun w => Lib.run_eql_slice_nil w 23 30 (some ad) zs.length cap 0 0 Try.underlying23
    go_enter Try.func65, Try.ntmps65
    go_wp2_with (at_builtin; refine wpList_append_own _ rfl _ _ 23 rfl w.heap.size 30 i0 (.int .u32 0) 1 4 Try.underlying23 hi hz0 hz1 hz2 rfl (by decide) _ 0 [] rfl (World.ownsRow_lit w #[] 0 (Nat.le_refl _) (by decide) rfl) ad zs.length cap (zs.map (Value.int .u32)) rfl (by simp) hnews h1 (by unfold maxLen; omega) (by omega) (by simp) ?_)
    intro v' w1 hown hgrow _
    have hb : Below w.heap.size w w1 := ((Below.refl _ _).alloc (Nat.le_refl _) _).grown hgrow (by simp) (by simp [Value.ownBlock])
    try rw [List.nil_append] at hown
    try rw [Nat.zero_add] at hown
    have HL : Hid _ := hown
    clear hown hgrow hnews h1
    go_wp2
    go_ret
    exact ⟨_, rfl, HL.out, hb⟩


set_option maxRecDepth 8000 in
set_option maxHeartbeats 1000000 in
theorem clone_u8 (v : Value) (zs : List Int) (w : World) (hl : zs.length ≤ 2097152) (h : Lis .u8 w v zs) :
    Calls Try.prog 66 #[v] w fun e w' => ∃ u, e = .returned u ∧ w'.ownsRow w.heap.size 5 1 u zs.length (zs.map (Value.int .u8)) ∧ Below w.heap.size w w' := by
  obtain ⟨i0, hi, hz0, hz1, hz2⟩ := info_parts Try.infu8
  obtain ⟨a, cap, rfl, hr⟩ := h
  cases a with
  | none =>
    have h0 : zs = [] := by
      by_cases hn : 0 < zs.length
      · obtain ⟨g, off, e, _⟩ := hr hn
        simp at e
      · exact List.eq_nil_of_length_eq_zero (by omega)
    subst h0
    clear hr hl hi hz0 hz1 hz2
    simp only [List.length_nil]
    have hnil : ∀ w : World, (binOp .eql 22 (.slice none 0 cap) (.slice none 0 0)).run Try.prog w = .ok (.bool true) w := fun w => Lib.run_eql_slice_nil w 22 5 none 0 cap 0 0 Try.underlying22
    go_enter Try.func66, Try.ntmps66
    go_wp2
    go_ret
    exact ⟨_, rfl, World.ownsRow_nil _ _ _ _, Below.refl _ _⟩
  | some ad =>
    have hnews : ∀ j u, (zs.map (Value.int .u8))[j]? = some u → (w.alloc (.cells #[] 5)).cell? (ad.add j) = some u := by
      intro j u hj
      have hj' : j < zs.length := by
        have := (List.getElem?_eq_some_iff.mp hj).1
        simpa using this
      obtain ⟨g, off, e, hR⟩ := hr (by omega)
      simp only [Option.some.injEq] at e
      subst e
      rw [Addr.add_lit]
      rw [((Below.refl w.heap.size w).alloc (Nat.le_refl _) _).cell (p := ⟨g, off + j, none⟩) hR.lt, hR.cell j hj']
      simp only [List.getElem?_map, Option.map_eq_some_iff] at hj
      obtain ⟨z, hz, rfl⟩ := hj
      simp [List.getD, hz]
    have h1 : ∀ u ∈ zs.map (Value.int .u8), u.oneCell' = true := by
      intro u hu
      simp only [List.mem_map] at hu
      obtain ⟨z, _, rfl⟩ := hu
      rfl
    clear hr
    have hnil : ∀ w : World, (binOp .eql 22 (.slice (some ad) zs.length cap) (.slice none 0 0)).run Try.prog w = .ok (.bool false) w := fun w => Lib.run_eql_slice_nil w 22 5 (some ad) zs.length cap 0 0 Try.underlying22
    go_enter Try.func66, Try.ntmps66
    go_wp2_with (at_builtin; refine wpList_append_own _ rfl _ _ 22 rfl w.heap.size 5 i0 (.int .u8 0) 1 1 Try.underlying22 hi hz0 hz1 hz2 rfl (by decide) _ 0 [] rfl (World.ownsRow_lit w #[] 0 (Nat.le_refl _) (by decide) rfl) ad zs.length cap (zs.map (Value.int .u8)) rfl (by simp) hnews h1 (by unfold maxLen; omega) (by omega) (by simp) ?_)
    intro v' w1 hown hgrow _
    have hb : Below w.heap.size w w1 := ((Below.refl _ _).alloc (Nat.le_refl _) _).grown hgrow (by simp) (by simp [Value.ownBlock])
    try rw [List.nil_append] at hown
    try rw [Nat.zero_add] at hown
    have HL : Hid _ := hown
    clear hown hgrow hnews h1
    go_wp2
    go_ret
    exact ⟨_, rfl, HL.out, hb⟩


set_option maxRecDepth 8000 in
set_option maxHeartbeats 1000000 in
theorem clone_i64 (v : Value) (zs : List Int) (w : World) (hl : zs.length ≤ 2097152) (h : Lis .i64 w v zs) :
    Calls Try.prog 42 #[v] w fun e w' => ∃ u, e = .returned u ∧ w'.ownsRow w.heap.size 2 1 u zs.length (zs.map (Value.int .i64)) ∧ Below w.heap.size w w' := by
  obtain ⟨i0, hi, hz0, hz1, hz2⟩ := info_parts Try.infi64
  obtain ⟨a, cap, rfl, hr⟩ := h
  cases a with
  | none =>
    have h0 : zs = [] := by
      by_cases hn : 0 < zs.length
      · obtain ⟨g, off, e, _⟩ := hr hn
        simp at e
      · exact List.eq_nil_of_length_eq_zero (by omega)
    subst h0
    clear hr hl hi hz0 hz1 hz2
    simp only [List.length_nil]
    have hnil : ∀ w : World, (binOp .eql 26 (.slice none 0 cap) (.slice none 0 0)).run Try.prog w = .ok (.bool true) w := fun w => Lib.run_eql_slice_nil w 26 2 none 0 cap 0 0 Try.underlying26
    go_enter Try.func42, Try.ntmps42
    go_wp2
    go_ret
    exact ⟨_, rfl, World.ownsRow_nil _ _ _ _, Below.refl _ _⟩
  | some ad =>
    have hnews : ∀ j u, (zs.map (Value.int .i64))[j]? = some u → (w.alloc (.cells #[] 2)).cell? (ad.add j) = some u := by
      intro j u hj
      have hj' : j < zs.length := by
        have := (List.getElem?_eq_some_iff.mp hj).1
        simpa using this
      obtain ⟨g, off, e, hR⟩ := hr (by omega)
      simp only [Option.some.injEq] at e
      subst e
      rw [Addr.add_lit]
      rw [((Below.refl w.heap.size w).alloc (Nat.le_refl _) _).cell (p := ⟨g, off + j, none⟩) hR.lt, hR.cell j hj']
      simp only [List.getElem?_map, Option.map_eq_some_iff] at hj
      obtain ⟨z, hz, rfl⟩ := hj
      simp [List.getD, hz]
    have h1 : ∀ u ∈ zs.map (Value.int .i64), u.oneCell' = true := by
      intro u hu
      simp only [List.mem_map] at hu
      obtain ⟨z, _, rfl⟩ := hu
      rfl
    clear hr
    have hnil : ∀ w : World, (binOp .eql 26 (.slice (some ad) zs.length cap) (.slice none 0 0)).run Try.prog w = .ok (.bool false) w := fun w => Lib.run_eql_slice_nil w 26 2 (some ad) zs.length cap 0 0 Try.underlying26
    go_enter Try.func42, Try.ntmps42
    go_wp2_with (at_builtin; refine wpList_append_own _ rfl _ _ 26 rfl w.heap.size 2 i0 (.int .i64 0) 1 8 Try.underlying26 hi hz0 hz1 hz2 rfl (by decide) _ 0 [] rfl (World.ownsRow_lit w #[] 0 (Nat.le_refl _) (by decide) rfl) ad zs.length cap (zs.map (Value.int .i64)) rfl (by simp) hnews h1 (by unfold maxLen; omega) (by omega) (by simp) ?_)
    intro v' w1 hown hgrow _
    have hb : Below w.heap.size w w1 := ((Below.refl _ _).alloc (Nat.le_refl _) _).grown hgrow (by simp) (by simp [Value.ownBlock])
    try rw [List.nil_append] at hown
    try rw [Nat.zero_add] at hown
    have HL : Hid _ := hown
    clear hown hgrow hnews h1
    go_wp2
    go_ret
    exact ⟨_, rfl, HL.out, hb⟩


def wrd (z : Int) : Bool := decide (-2147483648 ≤ z ∧ z ≤ 2147483647)
def wrds (zs : List Int) : Bool := zs.all wrd
theorem wrd_wrap (z : Int) : (IntKind.i32.wrap z = z) ↔ wrd z = true := by
  unfold wrd
  rw [IntKind.wrap_i32]
  simp only [decide_eq_true_eq]
  omega
theorem ret_b {a b : Bool} (h : a = b) : Ending.returned (.bool a) = .returned (.bool b) := by rw [h]
theorem wrds_no (zs : List Int) (k : Nat) (h : k < zs.length) (hz : wrd (zs.getD k 0) = false) : wrds zs = false := by
  unfold wrds
  rw [List.all_eq_false]
  refine ⟨zs.getD k 0, ?_, by rw [hz]; decide⟩
  simp [List.getD, h]
theorem wrds_yes (zs : List Int) (h : ∀ j, j < zs.length → wrd (zs.getD j 0) = true) : wrds zs = true := by
  unfold wrds
  rw [List.all_eq_true]
  intro x hx
  obtain ⟨j, hj, rfl⟩ := List.getElem_of_mem hx
  have := h j hj
  simpa [List.getD, hj] using this


theorem wrap_s (z : Int) (w : World) : Calls Try.prog 63 #[.int .i64 z] w fun e w' => e = .returned (.int .i64 (IntKind.i32.wrap z)) ∧ w' = w := by
  go_enter Try.func63, Try.ntmps63
  go_wp2
  go_ret
  refine ⟨?_, rfl⟩
  have h : wrap64 (wrap32 z) = IntKind.i32.wrap z := by
    rw [IntKind.wrap_i32]
    unfold wrap64 wrap32
    omega
  rw [← h]
  rfl


theorem wrap_i (z : Int) (w : World) : Calls Try.prog 83 #[.int .i64 z] w fun e w' => e = .returned (.int .i64 (IntKind.i32.wrap z)) ∧ w' = w := by
  go_enter Try.func83, Try.ntmps83
  go_wp2
  go_ret
  refine ⟨?_, rfl⟩
  have h : wrap64 (wrap32 z) = IntKind.i32.wrap z := by
    rw [IntKind.wrap_i32]
    unfold wrap64 wrap32
    omega
  rw [← h]
  rfl

end Go.Proofs.Ytabjcodpagjbjaa

namespace Go.Proofs.Ytabjcodpagjbjaa
open Go.RowKit
set_option linter.unusedVariables false
set_option linter.unusedSimpArgs false

/-- A slice that holds the numbers zs, to be read. -/
def Rds (k : IntKind) (w : World) (v : Value) (zs : List Int) : Prop :=
  ∃ a cap, v = .slice a zs.length cap ∧ (0 < zs.length → ∃ g off, a = some ⟨g, off, none⟩ ∧ g < w.heap.size ∧ ∀ j, j < zs.length → w.cell? ⟨g, off + j, none⟩ = some (.int k (zs.getD j 0)))
theorem Lis.rds {k : IntKind} {w : World} {v : Value} {zs : List Int} (h : Lis k w v zs) : Rds k w v zs := by
  obtain ⟨a, cap, rfl, hr⟩ := h
  refine ⟨a, cap, rfl, fun hn => ?_⟩
  obtain ⟨g, off, e, hR⟩ := hr hn
  exact ⟨g, off, e, hR.lt, hR.cell⟩
theorem Rds.below {k : IntKind} {w w' : World} {v : Value} {zs : List Int} (h : Rds k w v zs) (hb : Below w.heap.size w w') : Rds k w' v zs := by
  obtain ⟨a, cap, rfl, hr⟩ := h
  refine ⟨a, cap, rfl, fun hn => ?_⟩
  obtain ⟨g, off, e, hl, hc⟩ := hr hn
  exact ⟨g, off, e, Nat.lt_of_lt_of_le hl hb.size, fun j hj => (hb.cell (p := ⟨g, off + j, none⟩) hl).trans (hc j hj)⟩
theorem Rds.cases {k : IntKind} {w : World} {v : Value} {zs : List Int} (h : Rds k w v zs) : (zs = [] ∧ ∃ a cap, v = .slice a 0 cap) ∨ (0 < zs.length ∧ ∃ g off cap, v = .slice (some ⟨g, off, none⟩) zs.length cap ∧ g < w.heap.size ∧ ∀ j, j < zs.length → w.cell? ⟨g, off + j, none⟩ = some (.int k (zs.getD j 0))) := by
  obtain ⟨a, cap, rfl, hr⟩ := h
  by_cases hn : 0 < zs.length
  · obtain ⟨g, off, rfl, hR⟩ := hr hn
    exact .inr ⟨hn, g, off, cap, rfl, hR⟩
  · obtain rfl : zs = [] := List.eq_nil_of_length_eq_zero (by omega)
    exact .inl ⟨rfl, a, cap, rfl⟩
theorem eq_map {k : IntKind} {xs : List Value} {zs : List Int} (hl : xs.length = zs.length) (h : ∀ j, j < zs.length → xs[j]? = some (.int k (zs.getD j 0))) : xs = zs.map (Value.int k) := by
  apply List.ext_getElem?
  intro j
  by_cases hj : j < zs.length
  · rw [h j hj]
    simp [List.getD, hj]
  · simp [hl, hj]


set_option maxHeartbeats 1000000 in
theorem to_u32 (v : Value) (zs : List Int) (w : World) (hl : zs.length ≤ 1048576) (h : Rds .u32 w v zs) :
    Calls Try.prog 44 #[v] w fun e w' => ∃ g c, e = .returned (.slice (some ⟨g, 0, none⟩) zs.length c) ∧ w'.ownsRow w.heap.size 30 1 (.slice (some ⟨g, 0, none⟩) zs.length c) zs.length (zs.map (Value.int .u32)) ∧ Below w.heap.size w w' := by
  rcases h.cases with ⟨rfl, a, cap, rfl⟩ | ⟨hn, b, off, cap, rfl, hb, hc⟩
  · have hmk : ∀ w : World, (Instr.makeSlice 23 (.int .i64 0) (.int .i64 0)).run Try.prog w = .ok (.slice (some ⟨w.heap.size, 0, none⟩) 0 0) (w.alloc (.cells #[] 30)) := fun _ => by kernel_rfl
    clear h hl
    go_enter Try.func44, Try.ntmps44
    go_wp2
    refine wp_loop_rounds 1 ?_
    rw [rounds_succ]
    go_wp2
    go_ret
    exact ⟨_, _, rfl, World.ownsRow_lit w #[] 0 (Nat.le_refl _) (by decide) rfl, (Below.refl _ _).alloc (Nat.le_refl _) _⟩
  · clear h
    obtain ⟨i0, hi, hz0, hz1, hz2⟩ := info_parts Try.infu32
    generalize hlen : zs.length = len at *
    have HLN : Hid _ := hlen
    clear hlen
    go_enter Try.func44, Try.ntmps44
    go_wp2_with (at_make; refine wpList_make_full _ rfl _ _ 23 rfl w.heap.size 30 i0 (.int .u32 0) 1 Try.underlying23 hi hz0 hz1 _ _ _ _ len rfl rfl (by omega) (by omega) ?_ ?_ (Nat.le_refl _) ?_)
    · rw [hz2]; omega
    · unfold maxLen; omega
    intro w1 hown1 hgrow1
    have hnx1 : Below w.heap.size w w1 := (Below.refl _ _).grown hgrow1 (Nat.le_refl _) (by simp)
    go_wp2
    go_loopw [4] (fun i wr => ∃ k : Nat, k ≤ len ∧ i = .int .i64 k ∧ (∃ xs : List Value, wr.ownsRow w.heap.size 30 1 (.slice (some ⟨w.heap.size, 0, none⟩) len len) len xs ∧ ∀ j, j < k → xs[j]? = some (.int .u32 (zs.getD j 0))) ∧ Below w.heap.size w wr)
      (fun i _ => len - (intOf i).toNat)
    case atStart => exact ⟨0, Nat.zero_le _, rfl, ⟨_, hown1, fun j hj => absurd hj (Nat.not_lt_zero _)⟩, hnx1⟩
    case round =>
      obtain ⟨k, hk, rfl, ⟨xs, hown, hxs⟩, hnx⟩ := hrel
      clear hown1 hgrow1 hnx1
      by_cases hlt : k < len
      · have hcx := (hnx.cell (p := ⟨b, off + k, none⟩) hb).trans (hc k hlt)
        have hlen : xs.length = len := by have := hown.1; omega
        have hold : wr.cell? ⟨w.heap.size, k, none⟩ = some (xs[k]'(by omega)) := by rw [hown.cellAt k (by omega)]; simp
        have hfz := hown.frozenAt k
        have R := hown.stored k (.int .u32 (zs.getD k 0))
        have HR : Hid _ := R
        have HX : Hid _ := hxs
        clear hxs R hown
        go_wp2
        go_roundw
        case rel =>
          refine ⟨k + 1, by omega, by go_num, ⟨_, HR.out.1, fun j hj => ?_⟩, hnx.setCell (by simp) _⟩
          rw [List.getElem?_set]
          by_cases hjk : k = j
          · subst hjk; simp; omega
          · rw [if_neg hjk]; exact HX.out j (by omega)
        case measure => simp [intOf]; omega
      · have HX : Hid _ := hxs
        have HO : Hid _ := hown
        clear hxs hown
        go_wp2
        go_ret
        have hl' := HLN.out
        obtain rfl := eq_map (k := .u32) (xs := xs) (zs := zs) (by rw [hl']; have := HO.out.1; omega) (fun j hj => HX.out j (by omega))
        exact ⟨_, _, rfl, HO.out, hnx⟩


set_option maxHeartbeats 1000000 in
theorem eq_u32 (v1 v2 : Value) (zs : List Int) (w : World) (hl : zs.length ≤ 2097152) (h1 : Rds .u32 w v1 zs) (h2 : Rds .u32 w v2 zs) :
    Calls Try.prog 45 #[v1, v2] w fun e w' => e = .returned (.bool true) ∧ ∃ n, w' = w.drewN n := by
  rcases h1.cases with ⟨rfl, a1, c1, rfl⟩ | ⟨hn, b1, off1, c1, rfl, _, hc1⟩
  · rcases h2.cases with ⟨_, a2, c2, rfl⟩ | ⟨hn, _⟩
    · clear h1 h2 hl
      go_enter Try.func45, Try.ntmps45
      go_wp2
      refine wp_loop_rounds 1 ?_
      rw [rounds_succ]
      go_wp2
      go_ret
      exact ⟨rfl, 0, rfl⟩
    · simp at hn
  · rcases h2.cases with ⟨rfl, _⟩ | ⟨_, b2, off2, c2, rfl, _, hc2⟩
    · simp at hn
    · clear h1 h2
      generalize hlen : zs.length = len at *
      clear hlen
      go_enter Try.func45, Try.ntmps45
      go_wp2
      go_loopw [5] (fun i wr => ∃ k : Nat, k ≤ len ∧ i = .int .i64 k ∧ ∃ n, wr = w.drewN n) (fun i _ => len - (intOf i).toNat)
      case atStart => exact ⟨0, Nat.zero_le _, rfl, 0, rfl⟩
      case round =>
        obtain ⟨k, hk, rfl, n, rfl⟩ := hrel
        by_cases hlt : k < len
        · have h1 := hc1 k hlt
          have h2 := hc2 k hlt
          go_wp2
          go_quiet (fail)
          go_wp2
          go_roundw
          case rel => exact ⟨k + 1, by omega, by go_num, n + nq, by first | rfl | rw [World.drewN_drewN]⟩
          case measure => simp [intOf]; omega
        · go_wp2
          go_ret
          exact ⟨rfl, n, rfl⟩


set_option maxHeartbeats 1000000 in
theorem eq_u8 (v1 v2 : Value) (zs : List Int) (w : World) (hl : zs.length ≤ 2097152) (h1 : Rds .u8 w v1 zs) (h2 : Rds .u8 w v2 zs) :
    Calls Try.prog 46 #[v1, v2] w fun e w' => e = .returned (.bool true) ∧ ∃ n, w' = w.drewN n := by
  rcases h1.cases with ⟨rfl, a1, c1, rfl⟩ | ⟨hn, b1, off1, c1, rfl, _, hc1⟩
  · rcases h2.cases with ⟨_, a2, c2, rfl⟩ | ⟨hn, _⟩
    · clear h1 h2 hl
      go_enter Try.func46, Try.ntmps46
      go_wp2
      refine wp_loop_rounds 1 ?_
      rw [rounds_succ]
      go_wp2
      go_ret
      exact ⟨rfl, 0, rfl⟩
    · simp at hn
  · rcases h2.cases with ⟨rfl, _⟩ | ⟨_, b2, off2, c2, rfl, _, hc2⟩
    · simp at hn
    · clear h1 h2
      generalize hlen : zs.length = len at *
      clear hlen
      go_enter Try.func46, Try.ntmps46
      go_wp2
      go_loopw [5] (fun i wr => ∃ k : Nat, k ≤ len ∧ i = .int .i64 k ∧ ∃ n, wr = w.drewN n) (fun i _ => len - (intOf i).toNat)
      case atStart => exact ⟨0, Nat.zero_le _, rfl, 0, rfl⟩
      case round =>
        obtain ⟨k, hk, rfl, n, rfl⟩ := hrel
        by_cases hlt : k < len
        · have h1 := hc1 k hlt
          have h2 := hc2 k hlt
          go_wp2
          go_quiet (fail)
          go_wp2
          go_roundw
          case rel => exact ⟨k + 1, by omega, by go_num, n + nq, by first | rfl | rw [World.drewN_drewN]⟩
          case measure => simp [intOf]; omega
        · go_wp2
          go_ret
          exact ⟨rfl, n, rfl⟩


set_option maxHeartbeats 1000000 in
theorem to_i64 (v : Value) (zs : List Int) (w : World) (hl : zs.length ≤ 1048576) (h : Rds .i64 w v zs) :
    Calls Try.prog 15 #[v] w fun e w' => ∃ g c, e = .returned (.slice (some ⟨g, 0, none⟩) zs.length c) ∧ w'.ownsRow w.heap.size 2 1 (.slice (some ⟨g, 0, none⟩) zs.length c) zs.length (zs.map (Value.int .i64)) ∧ Below w.heap.size w w' := by
  rcases h.cases with ⟨rfl, a, cap, rfl⟩ | ⟨hn, b, off, cap, rfl, hb, hc⟩
  · have hmk : ∀ w : World, (Instr.makeSlice 26 (.int .i64 0) (.int .i64 0)).run Try.prog w = .ok (.slice (some ⟨w.heap.size, 0, none⟩) 0 0) (w.alloc (.cells #[] 2)) := fun _ => by kernel_rfl
    clear h hl
    go_enter Try.func15, Try.ntmps15
    go_wp2
    refine wp_loop_rounds 1 ?_
    rw [rounds_succ]
    go_wp2
    go_ret
    exact ⟨_, _, rfl, World.ownsRow_lit w #[] 0 (Nat.le_refl _) (by decide) rfl, (Below.refl _ _).alloc (Nat.le_refl _) _⟩
  · clear h
    obtain ⟨i0, hi, hz0, hz1, hz2⟩ := info_parts Try.infi64
    generalize hlen : zs.length = len at *
    have HLN : Hid _ := hlen
    clear hlen
    go_enter Try.func15, Try.ntmps15
    go_wp2_with (at_make; refine wpList_make_full _ rfl _ _ 26 rfl w.heap.size 2 i0 (.int .i64 0) 1 Try.underlying26 hi hz0 hz1 _ _ _ _ len rfl rfl (by omega) (by omega) ?_ ?_ (Nat.le_refl _) ?_)
    · rw [hz2]; omega
    · unfold maxLen; omega
    intro w1 hown1 hgrow1
    have hnx1 : Below w.heap.size w w1 := (Below.refl _ _).grown hgrow1 (Nat.le_refl _) (by simp)
    go_wp2
    go_loopw [4] (fun i wr => ∃ k : Nat, k ≤ len ∧ i = .int .i64 k ∧ (∃ xs : List Value, wr.ownsRow w.heap.size 2 1 (.slice (some ⟨w.heap.size, 0, none⟩) len len) len xs ∧ ∀ j, j < k → xs[j]? = some (.int .i64 (zs.getD j 0))) ∧ Below w.heap.size w wr)
      (fun i _ => len - (intOf i).toNat)
    case atStart => exact ⟨0, Nat.zero_le _, rfl, ⟨_, hown1, fun j hj => absurd hj (Nat.not_lt_zero _)⟩, hnx1⟩
    case round =>
      obtain ⟨k, hk, rfl, ⟨xs, hown, hxs⟩, hnx⟩ := hrel
      clear hown1 hgrow1 hnx1
      by_cases hlt : k < len
      · have hcx := (hnx.cell (p := ⟨b, off + k, none⟩) hb).trans (hc k hlt)
        have hlen : xs.length = len := by have := hown.1; omega
        have hold : wr.cell? ⟨w.heap.size, k, none⟩ = some (xs[k]'(by omega)) := by rw [hown.cellAt k (by omega)]; simp
        have hfz := hown.frozenAt k
        have R := hown.stored k (.int .i64 (zs.getD k 0))
        have HR : Hid _ := R
        have HX : Hid _ := hxs
        clear hxs R hown
        go_wp2
        go_roundw
        case rel =>
          refine ⟨k + 1, by omega, by go_num, ⟨_, HR.out.1, fun j hj => ?_⟩, hnx.setCell (by simp) _⟩
          rw [List.getElem?_set]
          by_cases hjk : k = j
          · subst hjk; simp; omega
          · rw [if_neg hjk]; exact HX.out j (by omega)
        case measure => simp [intOf]; omega
      · have HX : Hid _ := hxs
        have HO : Hid _ := hown
        clear hxs hown
        go_wp2
        go_ret
        have hl' := HLN.out
        obtain rfl := eq_map (k := .i64) (xs := xs) (zs := zs) (by rw [hl']; have := HO.out.1; omega) (fun j hj => HX.out j (by omega))
        exact ⟨_, _, rfl, HO.out, hnx⟩


set_option maxHeartbeats 1000000 in
theorem eq_i64 (v1 v2 : Value) (zs : List Int) (w : World) (hl : zs.length ≤ 2097152) (h1 : Rds .i64 w v1 zs) (h2 : Rds .i64 w v2 zs) :
    Calls Try.prog 18 #[v1, v2] w fun e w' => e = .returned (.bool true) ∧ ∃ n, w' = w.drewN n := by
  rcases h1.cases with ⟨rfl, a1, c1, rfl⟩ | ⟨hn, b1, off1, c1, rfl, _, hc1⟩
  · rcases h2.cases with ⟨_, a2, c2, rfl⟩ | ⟨hn, _⟩
    · clear h1 h2 hl
      go_enter Try.func18, Try.ntmps18
      go_wp2
      refine wp_loop_rounds 1 ?_
      rw [rounds_succ]
      go_wp2
      go_ret
      exact ⟨rfl, 0, rfl⟩
    · simp at hn
  · rcases h2.cases with ⟨rfl, _⟩ | ⟨_, b2, off2, c2, rfl, _, hc2⟩
    · simp at hn
    · clear h1 h2
      generalize hlen : zs.length = len at *
      clear hlen
      go_enter Try.func18, Try.ntmps18
      go_wp2
      go_loopw [5] (fun i wr => ∃ k : Nat, k ≤ len ∧ i = .int .i64 k ∧ ∃ n, wr = w.drewN n) (fun i _ => len - (intOf i).toNat)
      case atStart => exact ⟨0, Nat.zero_le _, rfl, 0, rfl⟩
      case round =>
        obtain ⟨k, hk, rfl, n, rfl⟩ := hrel
        by_cases hlt : k < len
        · have h1 := hc1 k hlt
          have h2 := hc2 k hlt
          go_wp2
          go_quiet (fail)
          go_wp2
          go_roundw
          case rel => exact ⟨k + 1, by omega, by go_num, n + nq, by first | rfl | rw [World.drewN_drewN]⟩
          case measure => simp [intOf]; omega
        · go_wp2
          go_ret
          exact ⟨rfl, n, rfl⟩

end Go.Proofs.Ytabjcodpagjbjaa

namespace Go.Proofs.Ytabjcodpagjbjaa
open Go.RowKit
set_option linter.unusedVariables false
/-- The eight cells of a machine in its box. -/
structure Bx (w : World) (g : Nat) (x0 x1 x2 x3 x4 x5 x6 x7 : Value) : Prop where
  c0 : w.cell? ⟨g, 0, none⟩ = some x0
  c1 : w.cell? ⟨g, 1, none⟩ = some x1
  c2 : w.cell? ⟨g, 2, none⟩ = some x2
  c3 : w.cell? ⟨g, 3, none⟩ = some x3
  c4 : w.cell? ⟨g, 4, none⟩ = some x4
  c5 : w.cell? ⟨g, 5, none⟩ = some x5
  c6 : w.cell? ⟨g, 6, none⟩ = some x6
  c7 : w.cell? ⟨g, 7, none⟩ = some x7
  fz : ∀ j, w.frozen? ⟨g, j, none⟩ = false
theorem Bx.keep {w w' : World} {g : Nat} {x0 x1 x2 x3 x4 x5 x6 x7 : Value} (h : Bx w g x0 x1 x2 x3 x4 x5 x6 x7) (hb : w'.heap[g]? = w.heap[g]?) : Bx w' g x0 x1 x2 x3 x4 x5 x6 x7 := by
  have k := fun j => World.cell?_of_block (w := w) (w' := w') (a := ⟨g, j, none⟩) hb
  exact ⟨(k 0).trans h.c0, (k 1).trans h.c1, (k 2).trans h.c2, (k 3).trans h.c3, (k 4).trans h.c4, (k 5).trans h.c5, (k 6).trans h.c6, (k 7).trans h.c7, fun j => (World.frozen?_of_block (w := w) (a := ⟨g, j, none⟩) hb).trans (h.fz j)⟩
theorem Bx.lt {w : World} {g : Nat} {x0 x1 x2 x3 x4 x5 x6 x7 : Value} (h : Bx w g x0 x1 x2 x3 x4 x5 x6 x7) : g < w.heap.size := World.block_lt_of_cell? _ _ h.c0
theorem Bx.below {w w' : World} {g : Nat} {x0 x1 x2 x3 x4 x5 x6 x7 : Value} (h : Bx w g x0 x1 x2 x3 x4 x5 x6 x7) (hb : Below w.heap.size w w') : Bx w' g x0 x1 x2 x3 x4 x5 x6 x7 := h.keep (hb.block g h.lt)
theorem Bx.of_heap {w : World} {g : Nat} {t : TypeId} {x0 x1 x2 x3 x4 x5 x6 x7 : Value} (h : w.heap[g]? = some (.cells #[x0, x1, x2, x3, x4, x5, x6, x7] t)) : Bx w g x0 x1 x2 x3 x4 x5 x6 x7 := by
  constructor
  all_goals first | (simp [World.cell?, h]; done) | (intro j; simp [World.frozen?, h])
theorem Bx.other {w : World} {g : Nat} {x0 x1 x2 x3 x4 x5 x6 x7 : Value} (h : Bx w g x0 x1 x2 x3 x4 x5 x6 x7) {p : Addr} (hp : g ≠ p.block) (u : Value) : Bx (w.setCell p u) g x0 x1 x2 x3 x4 x5 x6 x7 := h.keep (Below.heap_setCell w p u g hp)
theorem Bx.alloc {w : World} {g : Nat} {x0 x1 x2 x3 x4 x5 x6 x7 : Value} (h : Bx w g x0 x1 x2 x3 x4 x5 x6 x7) (ob : Obj) : Bx (w.alloc ob) g x0 x1 x2 x3 x4 x5 x6 x7 := h.keep (Below.heap_alloc w ob g h.lt)
theorem Bx.drewN {w : World} {g : Nat} {x0 x1 x2 x3 x4 x5 x6 x7 : Value} (h : Bx w g x0 x1 x2 x3 x4 x5 x6 x7) (n : Nat) : Bx (w.drewN n) g x0 x1 x2 x3 x4 x5 x6 x7 := h.keep rfl
theorem ne_off {g i j : Nat} (h : i ≠ j) : (⟨g, i, none⟩ : Addr) ≠ ⟨g, j, none⟩ := fun e => by simp only [Addr.mk.injEq] at e; exact h e.2.1
theorem Bx.s0 {w : World} {g : Nat} {x0 x1 x2 x3 x4 x5 x6 x7 : Value} (h : Bx w g x0 x1 x2 x3 x4 x5 x6 x7) (v : Value) : Bx (w.setCell ⟨g, 0, none⟩ v) g v x1 x2 x3 x4 x5 x6 x7 :=
  ⟨World.cell?_setCell_same _ _ _ h.c0, (World.cell?_setCell_other _ _ _ _ (ne_off (by decide))).trans h.c1, (World.cell?_setCell_other _ _ _ _ (ne_off (by decide))).trans h.c2, (World.cell?_setCell_other _ _ _ _ (ne_off (by decide))).trans h.c3, (World.cell?_setCell_other _ _ _ _ (ne_off (by decide))).trans h.c4, (World.cell?_setCell_other _ _ _ _ (ne_off (by decide))).trans h.c5, (World.cell?_setCell_other _ _ _ _ (ne_off (by decide))).trans h.c6, (World.cell?_setCell_other _ _ _ _ (ne_off (by decide))).trans h.c7, fun j => by simpa using h.fz j⟩
theorem Bx.s1 {w : World} {g : Nat} {x0 x1 x2 x3 x4 x5 x6 x7 : Value} (h : Bx w g x0 x1 x2 x3 x4 x5 x6 x7) (v : Value) : Bx (w.setCell ⟨g, 1, none⟩ v) g x0 v x2 x3 x4 x5 x6 x7 :=
  ⟨(World.cell?_setCell_other _ _ _ _ (ne_off (by decide))).trans h.c0, World.cell?_setCell_same _ _ _ h.c1, (World.cell?_setCell_other _ _ _ _ (ne_off (by decide))).trans h.c2, (World.cell?_setCell_other _ _ _ _ (ne_off (by decide))).trans h.c3, (World.cell?_setCell_other _ _ _ _ (ne_off (by decide))).trans h.c4, (World.cell?_setCell_other _ _ _ _ (ne_off (by decide))).trans h.c5, (World.cell?_setCell_other _ _ _ _ (ne_off (by decide))).trans h.c6, (World.cell?_setCell_other _ _ _ _ (ne_off (by decide))).trans h.c7, fun j => by simpa using h.fz j⟩
theorem Bx.s2 {w : World} {g : Nat} {x0 x1 x2 x3 x4 x5 x6 x7 : Value} (h : Bx w g x0 x1 x2 x3 x4 x5 x6 x7) (v : Value) : Bx (w.setCell ⟨g, 2, none⟩ v) g x0 x1 v x3 x4 x5 x6 x7 :=
  ⟨(World.cell?_setCell_other _ _ _ _ (ne_off (by decide))).trans h.c0, (World.cell?_setCell_other _ _ _ _ (ne_off (by decide))).trans h.c1, World.cell?_setCell_same _ _ _ h.c2, (World.cell?_setCell_other _ _ _ _ (ne_off (by decide))).trans h.c3, (World.cell?_setCell_other _ _ _ _ (ne_off (by decide))).trans h.c4, (World.cell?_setCell_other _ _ _ _ (ne_off (by decide))).trans h.c5, (World.cell?_setCell_other _ _ _ _ (ne_off (by decide))).trans h.c6, (World.cell?_setCell_other _ _ _ _ (ne_off (by decide))).trans h.c7, fun j => by simpa using h.fz j⟩
theorem Bx.s3 {w : World} {g : Nat} {x0 x1 x2 x3 x4 x5 x6 x7 : Value} (h : Bx w g x0 x1 x2 x3 x4 x5 x6 x7) (v : Value) : Bx (w.setCell ⟨g, 3, none⟩ v) g x0 x1 x2 v x4 x5 x6 x7 :=
  ⟨(World.cell?_setCell_other _ _ _ _ (ne_off (by decide))).trans h.c0, (World.cell?_setCell_other _ _ _ _ (ne_off (by decide))).trans h.c1, (World.cell?_setCell_other _ _ _ _ (ne_off (by decide))).trans h.c2, World.cell?_setCell_same _ _ _ h.c3, (World.cell?_setCell_other _ _ _ _ (ne_off (by decide))).trans h.c4, (World.cell?_setCell_other _ _ _ _ (ne_off (by decide))).trans h.c5, (World.cell?_setCell_other _ _ _ _ (ne_off (by decide))).trans h.c6, (World.cell?_setCell_other _ _ _ _ (ne_off (by decide))).trans h.c7, fun j => by simpa using h.fz j⟩
theorem Bx.s4 {w : World} {g : Nat} {x0 x1 x2 x3 x4 x5 x6 x7 : Value} (h : Bx w g x0 x1 x2 x3 x4 x5 x6 x7) (v : Value) : Bx (w.setCell ⟨g, 4, none⟩ v) g x0 x1 x2 x3 v x5 x6 x7 :=
  ⟨(World.cell?_setCell_other _ _ _ _ (ne_off (by decide))).trans h.c0, (World.cell?_setCell_other _ _ _ _ (ne_off (by decide))).trans h.c1, (World.cell?_setCell_other _ _ _ _ (ne_off (by decide))).trans h.c2, (World.cell?_setCell_other _ _ _ _ (ne_off (by decide))).trans h.c3, World.cell?_setCell_same _ _ _ h.c4, (World.cell?_setCell_other _ _ _ _ (ne_off (by decide))).trans h.c5, (World.cell?_setCell_other _ _ _ _ (ne_off (by decide))).trans h.c6, (World.cell?_setCell_other _ _ _ _ (ne_off (by decide))).trans h.c7, fun j => by simpa using h.fz j⟩
theorem Bx.s5 {w : World} {g : Nat} {x0 x1 x2 x3 x4 x5 x6 x7 : Value} (h : Bx w g x0 x1 x2 x3 x4 x5 x6 x7) (v : Value) : Bx (w.setCell ⟨g, 5, none⟩ v) g x0 x1 x2 x3 x4 v x6 x7 :=
  ⟨(World.cell?_setCell_other _ _ _ _ (ne_off (by decide))).trans h.c0, (World.cell?_setCell_other _ _ _ _ (ne_off (by decide))).trans h.c1, (World.cell?_setCell_other _ _ _ _ (ne_off (by decide))).trans h.c2, (World.cell?_setCell_other _ _ _ _ (ne_off (by decide))).trans h.c3, (World.cell?_setCell_other _ _ _ _ (ne_off (by decide))).trans h.c4, World.cell?_setCell_same _ _ _ h.c5, (World.cell?_setCell_other _ _ _ _ (ne_off (by decide))).trans h.c6, (World.cell?_setCell_other _ _ _ _ (ne_off (by decide))).trans h.c7, fun j => by simpa using h.fz j⟩
theorem Bx.s6 {w : World} {g : Nat} {x0 x1 x2 x3 x4 x5 x6 x7 : Value} (h : Bx w g x0 x1 x2 x3 x4 x5 x6 x7) (v : Value) : Bx (w.setCell ⟨g, 6, none⟩ v) g x0 x1 x2 x3 x4 x5 v x7 :=
  ⟨(World.cell?_setCell_other _ _ _ _ (ne_off (by decide))).trans h.c0, (World.cell?_setCell_other _ _ _ _ (ne_off (by decide))).trans h.c1, (World.cell?_setCell_other _ _ _ _ (ne_off (by decide))).trans h.c2, (World.cell?_setCell_other _ _ _ _ (ne_off (by decide))).trans h.c3, (World.cell?_setCell_other _ _ _ _ (ne_off (by decide))).trans h.c4, (World.cell?_setCell_other _ _ _ _ (ne_off (by decide))).trans h.c5, World.cell?_setCell_same _ _ _ h.c6, (World.cell?_setCell_other _ _ _ _ (ne_off (by decide))).trans h.c7, fun j => by simpa using h.fz j⟩
theorem Bx.s7 {w : World} {g : Nat} {x0 x1 x2 x3 x4 x5 x6 x7 : Value} (h : Bx w g x0 x1 x2 x3 x4 x5 x6 x7) (v : Value) : Bx (w.setCell ⟨g, 7, none⟩ v) g x0 x1 x2 x3 x4 x5 x6 v :=
  ⟨(World.cell?_setCell_other _ _ _ _ (ne_off (by decide))).trans h.c0, (World.cell?_setCell_other _ _ _ _ (ne_off (by decide))).trans h.c1, (World.cell?_setCell_other _ _ _ _ (ne_off (by decide))).trans h.c2, (World.cell?_setCell_other _ _ _ _ (ne_off (by decide))).trans h.c3, (World.cell?_setCell_other _ _ _ _ (ne_off (by decide))).trans h.c4, (World.cell?_setCell_other _ _ _ _ (ne_off (by decide))).trans h.c5, (World.cell?_setCell_other _ _ _ _ (ne_off (by decide))).trans h.c6, World.cell?_setCell_same _ _ _ h.c7, fun j => by simpa using h.fz j⟩
theorem Bx.set8 {w : World} {g : Nat} {x0 x1 x2 x3 x4 x5 x6 x7 : Value} (h : Bx w g x0 x1 x2 x3 x4 x5 x6 x7) (y0 y1 y2 y3 y4 y5 y6 y7 : Value) : Bx ((((((((w.setCell ⟨g, 0, none⟩ y0).setCell ⟨g, 1, none⟩ y1).setCell ⟨g, 2, none⟩ y2).setCell ⟨g, 3, none⟩ y3).setCell ⟨g, 4, none⟩ y4).setCell ⟨g, 5, none⟩ y5).setCell ⟨g, 6, none⟩ y6).setCell ⟨g, 7, none⟩ y7) g y0 y1 y2 y3 y4 y5 y6 y7 :=
  ((((((((h.s0 y0).s1 y1).s2 y2).s3 y3).s4 y4).s5 y5).s6 y6).s7 y7)
theorem Tcs.set8 {S : Nat → Prop} {a w : World} (h : Tcs S a w) (g : Nat) (hg : S g) (x0 x1 x2 x3 x4 x5 x6 x7 : Value) :
    Tcs S a ((((((((w.setCell ⟨g, 0, none⟩ x0).setCell ⟨g, 1, none⟩ x1).setCell ⟨g, 2, none⟩ x2).setCell ⟨g, 3, none⟩ x3).setCell ⟨g, 4, none⟩ x4).setCell ⟨g, 5, none⟩ x5).setCell ⟨g, 6, none⟩ x6).setCell ⟨g, 7, none⟩ x7) :=
  (((((((h.setCell hg _).setCell hg _).setCell hg _).setCell hg _).setCell hg _).setCell hg _).setCell hg _).setCell hg _
theorem Tcs.new8 {S : Nat → Prop} {a w : World} (h : Tcs S a w) (g : Nat) (hg : a.heap.size ≤ g) (x0 x1 x2 x3 x4 x5 x6 x7 : Value) :
    Tcs S a ((((((((w.setCell ⟨g, 0, none⟩ x0).setCell ⟨g, 1, none⟩ x1).setCell ⟨g, 2, none⟩ x2).setCell ⟨g, 3, none⟩ x3).setCell ⟨g, 4, none⟩ x4).setCell ⟨g, 5, none⟩ x5).setCell ⟨g, 6, none⟩ x6).setCell ⟨g, 7, none⟩ x7) :=
  (((((((h.setNew hg _).setNew hg _).setNew hg _).setNew hg _).setNew hg _).setNew hg _).setNew hg _).setNew hg _
theorem Tcs.grown {S : Nat → Prop} {a w w' : World} {row : Option Nat} (h : Tcs S a w) (hg : w.grownBy w' row) (hr : ∀ k, row = some k → a.heap.size ≤ k ∨ S k) : Tcs S a w' :=
  ⟨hg.os.trans h.os, hg.tape.trans h.tape, hg.output.trans h.output, Nat.le_trans h.size hg.size, fun k hk hn => (hg.block k (Nat.lt_of_lt_of_le hk h.size) (fun e => by rcases hr k e.symm with h1 | h1; omega; exact hn h1)).trans (h.block k hk hn)⟩
/-- Nothing but new blocks: as 'Below' has it. -/
theorem Tcs.is_below {a w : World} (h : Tcs (fun _ => False) a w) : Below a.heap.size a w := ⟨h.os, h.tape, h.output, h.size, fun k hk => h.block k hk (fun f => f)⟩
theorem Below.tcs {a w : World} {S : Nat → Prop} (h : Below a.heap.size a w) : Tcs S a w := ⟨h.os, h.tape, h.output, h.size, fun k hk _ => h.block k hk⟩
end Go.Proofs.Ytabjcodpagjbjaa

namespace Go.Proofs.Ytabjcodpagjbjaa
open Go.RowKit
set_option linter.unusedVariables false
set_option linter.unusedSimpArgs false

theorem Row.mark {k : IntKind} {W : World} {g off i n : Nat} {zs : List Int} {q z : Int} (h : Row k W g off zs) (hl : zs.length = n) (hi : i < n) (hp : ∀ j, j < i → zs.getD j 0 = k.wrap (q + j)) (hz : z = k.wrap (q + i)) :
    ∃ ys : List Int, ys.length = n ∧ Row k (W.setCell ⟨g, off + i, none⟩ (.int k z)) g off ys ∧ ∀ j, j < i + 1 → ys.getD j 0 = k.wrap (q + j) := by
  refine ⟨zs.set i z, by simpa using hl, ⟨by simpa using h.lt, fun j hj => ?_, fun j => by simpa using h.froz j⟩, fun j hj => ?_⟩
  · simp only [List.length_set] at hj
    by_cases hji : i = j
    · subst hji
      rw [World.cell?_setCell_same _ _ _ (h.cell i (by omega))]
      simp [List.getD, hj]
    · rw [World.cell?_setCell_other _ _ _ _ (by intro e; simp only [Addr.mk.injEq] at e; omega), h.cell j hj]
      simp [List.getD, List.getElem?_set_ne hji]
  · by_cases hji : i = j
    · subst hji
      rw [← hz]
      simp [List.getD, hl, hi]
    · have := hp j (by omega)
      rw [← this]
      simp [List.getD, List.getElem?_set_ne hji]
theorem marks_of {k : IntKind} {q : Int} {n : Nat} {zs : List Int} (hl : zs.length = n) (h : ∀ j, j < n → zs.getD j 0 = k.wrap (q + j)) : zs = marks k q n := by
  apply List.ext_getElem?
  intro j
  by_cases hj : j < n
  · have := h j hj
    simp [List.getD, hl, hj] at this
    simp [marks, hj, hl, this]
  · simp [marks, hl, hj]


set_option maxHeartbeats 1000000 in
theorem mark_u32 (v : Value) (zs : List Int) (q : Int) (w : World) (hl : zs.length ≤ 2097152) (hq : 0 ≤ q ∧ q ≤ 1099511627776) (h : Lis .u32 w v zs) :
    Calls Try.prog 47 #[v, .int .i64 q] w fun e w' => e = .returned (.int .i64 (q + zs.length)) ∧ Lis .u32 w' v (marks .u32 q zs.length) ∧ Tcs (fun g => g ∈ blk v) w w' := by
  rcases h.cases with ⟨rfl, a, cap, rfl⟩ | ⟨hn, g, off, cap, rfl, hR⟩
  · clear h hl
    go_enter Try.func47, Try.ntmps47
    go_wp2
    refine wp_loop_rounds 1 ?_
    rw [rounds_succ]
    go_wp2
    go_ret
    exact ⟨by simp, Lis.nil _ _ _ _, Tcs.refl _ _⟩
  · clear h
    have hsl := blk_some ⟨g, off, none⟩ zs.length cap hn
    have HS : Hid _ := hsl
    clear hsl
    generalize hlen : zs.length = len at *
    have HLN : Hid _ := hlen
    clear hlen
    go_enter Try.func47, Try.ntmps47
    go_wp2
    go_loopw [1, 5] (fun kq i wr => ∃ k : Nat, k ≤ len ∧ i = .int .i64 k ∧ kq = .int .i64 (q + k) ∧ (∃ ys : List Int, ys.length = len ∧ Row .u32 wr g off ys ∧ ∀ j, j < k → ys.getD j 0 = IntKind.u32.wrap (q + j)) ∧ Tcs (fun x => x = g) w wr) (fun _ i _ => len - (intOf i).toNat)
    case atStart => exact ⟨0, Nat.zero_le _, rfl, by simp, ⟨zs, HLN.out, hR, fun j hj => absurd hj (Nat.not_lt_zero _)⟩, Tcs.refl _ _⟩
    case round =>
      obtain ⟨k, hk, rfl, rfl, ⟨ys, hly, hRy, hys⟩, hT⟩ := hrel
      clear hR
      have HY : Hid _ := hys
      have HR : Hid _ := hRy
      have HL : Hid _ := hly
      by_cases hlt : k < len
      · have hc := hRy.cell k (by omega)
        have hf := hRy.froz (off + k)
        clear hys hRy hly
        go_wp2
        go_roundw
        case rel =>
          obtain ⟨xs, h1, h2, h3⟩ := HR.out.mark (q := q) HL.out hlt HY.out (z := (q + k) % 4294967296) (by rw [IntKind.wrap_u32])
          exact ⟨k + 1, by omega, by go_num, by go_num, ⟨xs, h1, h2, h3⟩, hT.setCell rfl _⟩
        case measure => simp [intOf]; omega
      · clear hys hRy hly
        obtain rfl : k = len := by omega
        go_wp2
        go_ret
        have hl' := HLN.out
        subst hl'
        obtain rfl := marks_of HL.out HY.out
        refine ⟨rfl, ⟨_, cap, by simp, fun _ => ⟨g, off, rfl, HR.out⟩⟩, hT.mono fun x hx => ?_⟩
        rw [HS.out]
        simp [hx]


set_option maxHeartbeats 1000000 in
theorem mark_u8 (v : Value) (zs : List Int) (q : Int) (w : World) (hl : zs.length ≤ 2097152) (hq : 0 ≤ q ∧ q ≤ 1099511627776) (h : Lis .u8 w v zs) :
    Calls Try.prog 48 #[v, .int .i64 q] w fun e w' => e = .returned (.int .i64 (q + zs.length)) ∧ Lis .u8 w' v (marks .u8 q zs.length) ∧ Tcs (fun g => g ∈ blk v) w w' := by
  rcases h.cases with ⟨rfl, a, cap, rfl⟩ | ⟨hn, g, off, cap, rfl, hR⟩
  · clear h hl
    go_enter Try.func48, Try.ntmps48
    go_wp2
    refine wp_loop_rounds 1 ?_
    rw [rounds_succ]
    go_wp2
    go_ret
    exact ⟨by simp, Lis.nil _ _ _ _, Tcs.refl _ _⟩
  · clear h
    have hsl := blk_some ⟨g, off, none⟩ zs.length cap hn
    have HS : Hid _ := hsl
    clear hsl
    generalize hlen : zs.length = len at *
    have HLN : Hid _ := hlen
    clear hlen
    go_enter Try.func48, Try.ntmps48
    go_wp2
    go_loopw [1, 5] (fun kq i wr => ∃ k : Nat, k ≤ len ∧ i = .int .i64 k ∧ kq = .int .i64 (q + k) ∧ (∃ ys : List Int, ys.length = len ∧ Row .u8 wr g off ys ∧ ∀ j, j < k → ys.getD j 0 = IntKind.u8.wrap (q + j)) ∧ Tcs (fun x => x = g) w wr) (fun _ i _ => len - (intOf i).toNat)
    case atStart => exact ⟨0, Nat.zero_le _, rfl, by simp, ⟨zs, HLN.out, hR, fun j hj => absurd hj (Nat.not_lt_zero _)⟩, Tcs.refl _ _⟩
    case round =>
      obtain ⟨k, hk, rfl, rfl, ⟨ys, hly, hRy, hys⟩, hT⟩ := hrel
      clear hR
      have HY : Hid _ := hys
      have HR : Hid _ := hRy
      have HL : Hid _ := hly
      by_cases hlt : k < len
      · have hc := hRy.cell k (by omega)
        have hf := hRy.froz (off + k)
        clear hys hRy hly
        go_wp2
        go_roundw
        case rel =>
          obtain ⟨xs, h1, h2, h3⟩ := HR.out.mark (q := q) HL.out hlt HY.out (z := (q + k) % 256) (by rw [IntKind.wrap_u8])
          exact ⟨k + 1, by omega, by go_num, by go_num, ⟨xs, h1, h2, h3⟩, hT.setCell rfl _⟩
        case measure => simp [intOf]; omega
      · clear hys hRy hly
        obtain rfl : k = len := by omega
        go_wp2
        go_ret
        have hl' := HLN.out
        subst hl'
        obtain rfl := marks_of HL.out HY.out
        refine ⟨rfl, ⟨_, cap, by simp, fun _ => ⟨g, off, rfl, HR.out⟩⟩, hT.mono fun x hx => ?_⟩
        rw [HS.out]
        simp [hx]


set_option maxHeartbeats 1000000 in
theorem mark_i64 (v : Value) (zs : List Int) (q : Int) (w : World) (hl : zs.length ≤ 2097152) (hq : 0 ≤ q ∧ q ≤ 1099511627776) (h : Lis .i64 w v zs) :
    Calls Try.prog 20 #[v, .int .i64 q] w fun e w' => e = .returned (.int .i64 (q + zs.length)) ∧ Lis .i64 w' v (marks .i64 q zs.length) ∧ Tcs (fun g => g ∈ blk v) w w' := by
  rcases h.cases with ⟨rfl, a, cap, rfl⟩ | ⟨hn, g, off, cap, rfl, hR⟩
  · clear h hl
    go_enter Try.func20, Try.ntmps20
    go_wp2
    refine wp_loop_rounds 1 ?_
    rw [rounds_succ]
    go_wp2
    go_ret
    exact ⟨by simp, Lis.nil _ _ _ _, Tcs.refl _ _⟩
  · clear h
    have hsl := blk_some ⟨g, off, none⟩ zs.length cap hn
    have HS : Hid _ := hsl
    clear hsl
    generalize hlen : zs.length = len at *
    have HLN : Hid _ := hlen
    clear hlen
    go_enter Try.func20, Try.ntmps20
    go_wp2
    go_loopw [1, 5] (fun kq i wr => ∃ k : Nat, k ≤ len ∧ i = .int .i64 k ∧ kq = .int .i64 (q + k) ∧ (∃ ys : List Int, ys.length = len ∧ Row .i64 wr g off ys ∧ ∀ j, j < k → ys.getD j 0 = IntKind.i64.wrap (q + j)) ∧ Tcs (fun x => x = g) w wr) (fun _ i _ => len - (intOf i).toNat)
    case atStart => exact ⟨0, Nat.zero_le _, rfl, by simp, ⟨zs, HLN.out, hR, fun j hj => absurd hj (Nat.not_lt_zero _)⟩, Tcs.refl _ _⟩
    case round =>
      obtain ⟨k, hk, rfl, rfl, ⟨ys, hly, hRy, hys⟩, hT⟩ := hrel
      clear hR
      have HY : Hid _ := hys
      have HR : Hid _ := hRy
      have HL : Hid _ := hly
      by_cases hlt : k < len
      · have hc := hRy.cell k (by omega)
        have hf := hRy.froz (off + k)
        clear hys hRy hly
        go_wp2
        go_roundw
        case rel =>
          obtain ⟨xs, h1, h2, h3⟩ := HR.out.mark (q := q) HL.out hlt HY.out (z := q + k) (by rw [IntKind.wrap_i64]; omega)
          exact ⟨k + 1, by omega, by go_num, by go_num, ⟨xs, h1, h2, h3⟩, hT.setCell rfl _⟩
        case measure => simp [intOf]; omega
      · clear hys hRy hly
        obtain rfl : k = len := by omega
        go_wp2
        go_ret
        have hl' := HLN.out
        subst hl'
        obtain rfl := marks_of HL.out HY.out
        refine ⟨rfl, ⟨_, cap, by simp, fun _ => ⟨g, off, rfl, HR.out⟩⟩, hT.mono fun x hx => ?_⟩
        rw [HS.out]
        simp [hx]


set_option maxHeartbeats 1000000 in
theorem held_u32 (v : Value) (len : Nat) (q : Int) (w : World) (hl : len ≤ 2097152) (hq : 0 ≤ q ∧ q ≤ 1099511627776) (h : Lis .u32 w v (marks .u32 q len)) :
    Calls Try.prog 49 #[v, .int .i64 q] w fun e w' => e = .returned (.int .i64 (q + len)) ∧ ∃ n, w' = w.drewN n := by
  rcases h.rds.cases with ⟨h0, a, cap, rfl⟩ | ⟨hn, g, off, cap, rfl, _, hc⟩
  · obtain rfl : len = 0 := by have := congrArg List.length h0; simpa using this
    clear h hl
    go_enter Try.func49, Try.ntmps49
    go_wp2
    refine wp_loop_rounds 1 ?_
    rw [rounds_succ]
    go_wp2
    go_ret
    exact ⟨by simp, 0, rfl⟩
  · have hcc : ∀ k : Nat, k < len → w.cell? ⟨g, off + k, none⟩ = some (.int .u32 ((q + k) % 4294967296)) := fun k hk => by
      have h1 := hc k (by simpa using hk)
      have h2 : (marks .u32 q len).getD k 0 = (q + k) % 4294967296 := by rw [marks_getD _ _ _ _ hk]; rw [IntKind.wrap_u32]
      rw [h2] at h1
      exact h1
    simp only [marks_length] at hn ⊢
    clear h hc
    go_enter Try.func49, Try.ntmps49
    go_wp2
    go_loopw [1, 5] (fun kq i wr => ∃ k : Nat, k ≤ len ∧ i = .int .i64 k ∧ kq = .int .i64 (q + k) ∧ ∃ n, wr = w.drewN n) (fun _ i _ => len - (intOf i).toNat)
    case atStart => exact ⟨0, Nat.zero_le _, rfl, by simp, 0, rfl⟩
    case round =>
      obtain ⟨k, hk, rfl, rfl, n, rfl⟩ := hrel
      by_cases hlt : k < len
      · have hx := hcc k hlt
        go_wp2
        go_roundw
        case rel => exact ⟨k + 1, by omega, by go_num, by go_num, n, rfl⟩
        case measure => simp [intOf]; omega
      · obtain rfl : k = len := by omega
        go_wp2
        go_ret
        exact ⟨rfl, n, rfl⟩


set_option maxHeartbeats 1000000 in
theorem held_u8 (v : Value) (len : Nat) (q : Int) (w : World) (hl : len ≤ 2097152) (hq : 0 ≤ q ∧ q ≤ 1099511627776) (h : Lis .u8 w v (marks .u8 q len)) :
    Calls Try.prog 50 #[v, .int .i64 q] w fun e w' => e = .returned (.int .i64 (q + len)) ∧ ∃ n, w' = w.drewN n := by
  rcases h.rds.cases with ⟨h0, a, cap, rfl⟩ | ⟨hn, g, off, cap, rfl, _, hc⟩
  · obtain rfl : len = 0 := by have := congrArg List.length h0; simpa using this
    clear h hl
    go_enter Try.func50, Try.ntmps50
    go_wp2
    refine wp_loop_rounds 1 ?_
    rw [rounds_succ]
    go_wp2
    go_ret
    exact ⟨by simp, 0, rfl⟩
  · have hcc : ∀ k : Nat, k < len → w.cell? ⟨g, off + k, none⟩ = some (.int .u8 ((q + k) % 256)) := fun k hk => by
      have h1 := hc k (by simpa using hk)
      have h2 : (marks .u8 q len).getD k 0 = (q + k) % 256 := by rw [marks_getD _ _ _ _ hk]; rw [IntKind.wrap_u8]
      rw [h2] at h1
      exact h1
    simp only [marks_length] at hn ⊢
    clear h hc
    go_enter Try.func50, Try.ntmps50
    go_wp2
    go_loopw [1, 5] (fun kq i wr => ∃ k : Nat, k ≤ len ∧ i = .int .i64 k ∧ kq = .int .i64 (q + k) ∧ ∃ n, wr = w.drewN n) (fun _ i _ => len - (intOf i).toNat)
    case atStart => exact ⟨0, Nat.zero_le _, rfl, by simp, 0, rfl⟩
    case round =>
      obtain ⟨k, hk, rfl, rfl, n, rfl⟩ := hrel
      by_cases hlt : k < len
      · have hx := hcc k hlt
        go_wp2
        go_roundw
        case rel => exact ⟨k + 1, by omega, by go_num, by go_num, n, rfl⟩
        case measure => simp [intOf]; omega
      · obtain rfl : k = len := by omega
        go_wp2
        go_ret
        exact ⟨rfl, n, rfl⟩


set_option maxHeartbeats 1000000 in
theorem held_i64 (v : Value) (len : Nat) (q : Int) (w : World) (hl : len ≤ 2097152) (hq : 0 ≤ q ∧ q ≤ 1099511627776) (h : Lis .i64 w v (marks .i64 q len)) :
    Calls Try.prog 51 #[v, .int .i64 q] w fun e w' => e = .returned (.int .i64 (q + len)) ∧ ∃ n, w' = w.drewN n := by
  rcases h.rds.cases with ⟨h0, a, cap, rfl⟩ | ⟨hn, g, off, cap, rfl, _, hc⟩
  · obtain rfl : len = 0 := by have := congrArg List.length h0; simpa using this
    clear h hl
    go_enter Try.func51, Try.ntmps51
    go_wp2
    refine wp_loop_rounds 1 ?_
    rw [rounds_succ]
    go_wp2
    go_ret
    exact ⟨by simp, 0, rfl⟩
  · have hcc : ∀ k : Nat, k < len → w.cell? ⟨g, off + k, none⟩ = some (.int .i64 (q + k)) := fun k hk => by
      have h1 := hc k (by simpa using hk)
      have h2 : (marks .i64 q len).getD k 0 = q + k := by rw [marks_getD _ _ _ _ hk]; rw [IntKind.wrap_i64]; omega
      rw [h2] at h1
      exact h1
    simp only [marks_length] at hn ⊢
    clear h hc
    go_enter Try.func51, Try.ntmps51
    go_wp2
    go_loopw [1, 5] (fun kq i wr => ∃ k : Nat, k ≤ len ∧ i = .int .i64 k ∧ kq = .int .i64 (q + k) ∧ ∃ n, wr = w.drewN n) (fun _ i _ => len - (intOf i).toNat)
    case atStart => exact ⟨0, Nat.zero_le _, rfl, by simp, 0, rfl⟩
    case round =>
      obtain ⟨k, hk, rfl, rfl, n, rfl⟩ := hrel
      by_cases hlt : k < len
      · have hx := hcc k hlt
        go_wp2
        go_roundw
        case rel => exact ⟨k + 1, by omega, by go_num, by go_num, n, rfl⟩
        case measure => simp [intOf]; omega
      · obtain rfl : k = len := by omega
        go_wp2
        go_ret
        exact ⟨rfl, n, rfl⟩

end Go.Proofs.Ytabjcodpagjbjaa
