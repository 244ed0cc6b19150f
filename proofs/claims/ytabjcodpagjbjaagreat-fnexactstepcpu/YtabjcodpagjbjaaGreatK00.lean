import Derived.WalkKit
import Derived.WalkSpells
import Derived.ProofKit
import Derived.Deep.QuietTactic
import Derived.BigQuiet
import Derived.WalkSmall
import Derived.Test.YtabjcodpagjbjaaGreatRows
import Derived.OwnWalk
import Derived.Laws.OwnMore
import Derived.Laws.AppendOwnNone
namespace Go.Proofs.YtabjcodpagjbjaaGreat
open Go.RowKit
set_option linter.unusedVariables false

/-- The world has turned in the blocks of S and in new blocks alone. -/
structure Tcs (S : Nat → Prop) (W w' : World) : Prop where
  os : w'.os = W.os
  tape : w'.tape = W.tape
  output : w'.output = W.output
  size : W.heap.size ≤ w'.heap.size
  block : ∀ k, k < W.heap.size → ¬ S k → w'.heap[k]? = W.heap[k]?
theorem Tcs.refl (S : Nat → Prop) (W : World) : Tcs S W W := ⟨rfl, rfl, rfl, Nat.le_refl _, fun _ _ _ => rfl⟩
theorem Tcs.trans {S : Nat → Prop} {a b c : World} (h : Tcs S a b) (k : Tcs S b c) : Tcs S a c :=
  ⟨k.os.trans h.os, k.tape.trans h.tape, k.output.trans h.output, Nat.le_trans h.size k.size, fun i hi hg => (k.block i (Nat.lt_of_lt_of_le hi h.size) hg).trans (h.block i hi hg)⟩
theorem Tcs.mono {S T : Nat → Prop} {a b : World} (h : Tcs S a b) (hs : ∀ k, S k → T k) : Tcs T a b :=
  ⟨h.os, h.tape, h.output, h.size, fun k hk hn => h.block k hk fun s => hn (hs k s)⟩
theorem Tcs.drewN {S : Nat → Prop} {a w : World} (h : Tcs S a w) (n : Nat) : Tcs S a (w.drewN n) := h.trans ⟨rfl, rfl, rfl, Nat.le_refl _, fun _ _ _ => rfl⟩
theorem Tcs.setCell {S : Nat → Prop} {a w : World} (h : Tcs S a w) {p : Addr} (hp : S p.block) (u : Value) : Tcs S a (w.setCell p u) :=
  h.trans ⟨rfl, rfl, rfl, by simp, fun k _ hk => Below.heap_setCell w p u k fun e => hk (e ▸ hp)⟩
theorem Tcs.alloc {S : Nat → Prop} {a w : World} (h : Tcs S a w) (o : Obj) : Tcs S a (w.alloc o) :=
  h.trans ⟨rfl, rfl, rfl, by simp, fun k hk _ => Below.heap_alloc w o k hk⟩
/-- A store into a block that is new since a. -/
theorem Tcs.setNew {S : Nat → Prop} {a w : World} (h : Tcs S a w) {p : Addr} (hp : a.heap.size ≤ p.block) (u : Value) : Tcs S a (w.setCell p u) :=
  ⟨h.os, h.tape, h.output, by simpa using h.size, fun k hk hn => (Below.heap_setCell w p u k (by omega)).trans (h.block k hk hn)⟩
theorem Tcs.of_below {S : Nat → Prop} {a w w' : World} (h : Tcs S a w) (hb : Below w.heap.size w w') : Tcs S a w' :=
  h.trans ⟨hb.os, hb.tape, hb.output, hb.size, fun k hk _ => hb.block k hk⟩
/-- What is new since a may be written freely. -/
theorem Tcs.of_new {S : Nat → Prop} {B : Nat} {a w w' : World} (h : Tcs S a w) (hb : Below B w w') (hB : a.heap.size ≤ B) : Tcs S a w' :=
  ⟨hb.os.trans h.os, hb.tape.trans h.tape, hb.output.trans h.output, Nat.le_trans h.size hb.size, fun k hk hn => (hb.block k (by omega)).trans (h.block k hk hn)⟩
theorem Tcs.below {S : Nat → Prop} {B : Nat} {a w w' : World} (h : Tcs S w w') (hb : Below B a w) (hB : B ≤ w.heap.size) (hg : ∀ k, S k → B ≤ k) : Below B a w' :=
  ⟨h.os.trans hb.os, h.tape.trans hb.tape, h.output.trans hb.output, Nat.le_trans hb.size h.size, fun k hk => (h.block k (by omega) (fun s => by have := hg k s; omega)).trans (hb.block k hk)⟩

/-- The block that a slice of one cell or more lies in. -/
def blk : Value → List Nat
  | .slice (some a) (_ + 1) _ => [a.block]
  | _ => []
@[simp] theorem blk_zero (a : Option Addr) (c : Nat) : blk (.slice a 0 c) = [] := by cases a <;> rfl
@[simp] theorem blk_none (n c : Nat) : blk (.slice none n c) = [] := rfl
theorem blk_some (a : Addr) (n c : Nat) (h : 0 < n) : blk (.slice (some a) n c) = [a.block] := by
  cases n with
  | zero => omega
  | succ n => rfl

/-- The cells of block g from off on hold the numbers zs; none is frozen. -/
structure Row (k : IntKind) (w : World) (g off : Nat) (zs : List Int) : Prop where
  lt : g < w.heap.size
  cell : ∀ j, j < zs.length → w.cell? ⟨g, off + j, none⟩ = some (.int k (zs.getD j 0))
  froz : ∀ j, w.frozen? ⟨g, j, none⟩ = false
theorem Row.keep {k : IntKind} {w w' : World} {g off : Nat} {zs : List Int} (h : Row k w g off zs) (hs : w.heap.size ≤ w'.heap.size) (hb : w'.heap[g]? = w.heap[g]?) : Row k w' g off zs :=
  ⟨Nat.lt_of_lt_of_le h.lt hs, fun j hj => (World.cell?_of_block (w := w) (a := ⟨g, off + j, none⟩) hb).trans (h.cell j hj), fun j => (World.frozen?_of_block (w := w) (a := ⟨g, j, none⟩) hb).trans (h.froz j)⟩

/-- A slice that holds the numbers zs of kind k. -/
def Lis (k : IntKind) (w : World) (v : Value) (zs : List Int) : Prop :=
  ∃ a cap, v = .slice a zs.length cap ∧ (0 < zs.length → ∃ g off, a = some ⟨g, off, none⟩ ∧ Row k w g off zs)
theorem Lis.keep {k : IntKind} {w w' : World} {v : Value} {zs : List Int} (h : Lis k w v zs) (hs : w.heap.size ≤ w'.heap.size) (hb : ∀ g ∈ blk v, g < w.heap.size → w'.heap[g]? = w.heap[g]?) : Lis k w' v zs := by
  obtain ⟨a, cap, rfl, hr⟩ := h
  refine ⟨a, cap, rfl, fun hn => ?_⟩
  obtain ⟨g, off, rfl, hR⟩ := hr hn
  exact ⟨g, off, rfl, hR.keep hs (hb g (by rw [blk_some _ _ _ hn]; simp) hR.lt)⟩
theorem Lis.lt {k : IntKind} {w : World} {v : Value} {zs : List Int} (h : Lis k w v zs) : ∀ g ∈ blk v, g < w.heap.size := by
  obtain ⟨a, cap, rfl, hr⟩ := h
  intro g hg
  by_cases hn : 0 < zs.length
  · obtain ⟨g', off, rfl, hR⟩ := hr hn
    rw [blk_some _ _ _ hn] at hg
    simp only [List.mem_singleton] at hg
    subst hg
    exact hR.lt
  · obtain h0 : zs.length = 0 := by omega
    rw [h0] at hg
    simp at hg
theorem Lis.below {k : IntKind} {w w' : World} {v : Value} {zs : List Int} (h : Lis k w v zs) (hb : Below w.heap.size w w') : Lis k w' v zs :=
  h.keep hb.size fun g _ hl => hb.block g hl
theorem Lis.tcs {S : Nat → Prop} {k : IntKind} {w w' : World} {v : Value} {zs : List Int} (h : Lis k w v zs) (ht : Tcs S w w') (hn : ∀ g ∈ blk v, ¬ S g) : Lis k w' v zs :=
  h.keep ht.size fun g hg hl => ht.block g hl (hn g hg)
theorem Lis.nil (k : IntKind) (w : World) (a : Option Addr) (c : Nat) : Lis k w (.slice a 0 c) [] := ⟨a, c, rfl, fun h => absurd h (Nat.lt_irrefl _)⟩
theorem Lis.len0 {k : IntKind} {w : World} {v : Value} {zs : List Int} (h : Lis k w v zs) : ∃ a cap, v = .slice a zs.length cap := by
  obtain ⟨a, cap, rfl, _⟩ := h
  exact ⟨a, cap, rfl⟩
theorem Lis.cases {k : IntKind} {w : World} {v : Value} {zs : List Int} (h : Lis k w v zs) : (zs = [] ∧ ∃ a cap, v = .slice a 0 cap) ∨ (0 < zs.length ∧ ∃ g off cap, v = .slice (some ⟨g, off, none⟩) zs.length cap ∧ Row k w g off zs) := by
  obtain ⟨a, cap, rfl, hr⟩ := h
  by_cases hn : 0 < zs.length
  · obtain ⟨g, off, rfl, hR⟩ := hr hn
    exact .inr ⟨hn, g, off, cap, rfl, hR⟩
  · obtain rfl : zs = [] := List.eq_nil_of_length_eq_zero (by omega)
    exact .inl ⟨rfl, a, cap, rfl⟩
theorem Lis.of_row {k : IntKind} {w : World} {g off cap : Nat} {zs : List Int} (h : Row k w g off zs) : Lis k w (.slice (some ⟨g, off, none⟩) zs.length cap) zs :=
  ⟨_, cap, rfl, fun _ => ⟨g, off, rfl, h⟩⟩
/-- From the library's own predicate. -/
theorem Lis.of_own {k : IntKind} {w : World} {base e : Nat} {v : Value} {n : Nat} {zs : List Int} (h : w.ownsRow base e 1 v n (zs.map (Value.int k))) : Lis k w v zs ∧ ∀ g ∈ blk v, base ≤ g := by
  have hl := h.1
  simp only [List.length_map, Nat.mul_one] at hl
  subst hl
  rcases h.2 with ⟨rfl, h0⟩ | ⟨g, cap, cur, rfl, hbg, hg, hnc, hcm, hcs, htake⟩
  · obtain rfl : zs = [] := List.eq_nil_of_length_eq_zero h0
    exact ⟨Lis.nil _ _ _ _, by simp⟩
  · refine ⟨Lis.of_row ⟨(Array.getElem?_eq_some_iff.mp hg).1, fun j hj => ?_, fun j => ?_⟩, ?_⟩
    · rw [Nat.zero_add, h.cellAt j (by omega)]
      simp [hj]
    · exact h.frozenAt j
    · intro b hb
      by_cases hn : 0 < zs.length
      · rw [blk_some _ _ _ hn] at hb
        simp only [List.mem_singleton] at hb
        omega
      · rw [show zs.length = 0 by omega] at hb
        simp at hb

/-- What marking lays: q, q + 1 and on, wrapped. -/
def marks (k : IntKind) (q : Int) (n : Nat) : List Int := (List.range n).map fun (i : Nat) => k.wrap (q + (i : Int))
@[simp] theorem marks_length (k : IntKind) (q : Int) (n : Nat) : (marks k q n).length = n := by simp [marks]
theorem marks_getD (k : IntKind) (q : Int) (n j : Nat) (h : j < n) : (marks k q n).getD j 0 = k.wrap (q + j) := by simp [marks, h]
end Go.Proofs.YtabjcodpagjbjaaGreat

namespace Go.Proofs.YtabjcodpagjbjaaGreat
open Go.RowKit
set_option linter.unusedVariables false
set_option linter.unusedSimpArgs false

theorem Tryz.infu32 : (Tryz.prog.info? 25).map (fun i => (i.zero, i.size, i.bytes)) = some (some (.int .u32 0), 1, 4) := by kernel_rfl

theorem Tryz.infu8 : (Tryz.prog.info? 5).map (fun i => (i.zero, i.size, i.bytes)) = some (some (.int .u8 0), 1, 1) := by kernel_rfl

theorem Tryz.infi64 : (Tryz.prog.info? 2).map (fun i => (i.zero, i.size, i.bytes)) = some (some (.int .i64 0), 1, 8) := by kernel_rfl

set_option maxRecDepth 8000 in
set_option maxHeartbeats 1000000 in
theorem clone_u32 (v : Value) (zs : List Int) (w : World) (hl : zs.length ≤ 2097152) (h : Lis .u32 w v zs) :
    Calls Tryz.prog 47 #[v] w fun e w' => ∃ u, e = .returned u ∧ w'.ownsRow w.heap.size 25 1 u zs.length (zs.map (Value.int .u32)) ∧ Below w.heap.size w w' := by
  obtain ⟨i0, hi, hz0, hz1, hz2⟩ := info_parts Tryz.infu32
  obtain ⟨a, cap, rfl, hr⟩ := h
  cases a with
  | none =>
    have h0 : zs = [] := by
      by_cases hn : 0 < zs.length
      · obtain ⟨g, off, e, _⟩ := hr hn
        simp at e
      · exact List.eq_nil_of_length_eq_zero (by omega)
    subst h0
    clear hr hl hi hz0 hz1 hz2
    simp only [List.length_nil]
    have hnil : ∀ w : World, (binOp .eql 22 (.slice none 0 cap) (.slice none 0 0)).run Tryz.prog w = .ok (.bool true) w := fun w => Lib.run_eql_slice_nil w 22 25 none 0 cap 0 0 Tryz.underlying22
    go_enter Tryz.func47, Tryz.ntmps47
    go_wp2
    go_ret
    exact ⟨_, rfl, World.ownsRow_nil _ _ _ _, Below.refl _ _⟩
  | some ad =>
    have hnews : ∀ j u, (zs.map (Value.int .u32))[j]? = some u → (w.alloc (.cells #[] 25)).cell? (ad.add j) = some u := by
      intro j u hj
      have hj' : j < zs.length := by
        have := (List.getElem?_eq_some_iff.mp hj).1
        simpa using this
      obtain ⟨g, off, e, hR⟩ := hr (by omega)
      simp only [Option.some.injEq] at e
      subst e
      rw [Addr.add_lit]
      rw [((Below.refl w.heap.size w).alloc (Nat.le_refl _) _).cell (p := ⟨g, off + j, none⟩) hR.lt, hR.cell j hj']
      simp only [List.getElem?_map, Option.map_eq_some_iff] at hj
      obtain ⟨z, hz, rfl⟩ := hj
      simp [List.getD, hz]
    have h1 : ∀ u ∈ zs.map (Value.int .u32), u.oneCell' = true := by
      intro u hu
      simp only [List.mem_map] at hu
      obtain ⟨z, _, rfl⟩ := hu
      rfl
    clear hr
    have hnil : ∀ w : World, (binOp .eql 22 (.slice (some ad) zs.length cap) (.slice none 0 0)).run Tryz.prog w = .ok (.bool false) w := fun w => Lib.run_eql_slice_nil w 22 25 (some ad) zs.length cap 0 0 Tryz.underlying22
    go_enter Tryz.func47, Tryz.ntmps47
    go_wp2_with (at_builtin; refine wpList_append_own _ rfl _ _ 22 rfl w.heap.size 25 i0 (.int .u32 0) 1 4 Tryz.underlying22 hi hz0 hz1 hz2 rfl (by decide) _ 0 [] rfl (World.ownsRow_lit w #[] 0 (Nat.le_refl _) (by decide) rfl) ad zs.length cap (zs.map (Value.int .u32)) rfl (by simp) hnews h1 (by unfold maxLen; omega) (by omega) (by simp) ?_)
    intro v' w1 hown hgrow _
    have hb : Below w.heap.size w w1 := ((Below.refl _ _).alloc (Nat.le_refl _) _).grown hgrow (by simp) (by simp [Value.ownBlock])
    try rw [List.nil_append] at hown
    try rw [Nat.zero_add] at hown
    have HL : Hid _ := hown
    clear hown hgrow hnews h1
    go_wp2
    go_ret
    exact ⟨_, rfl, HL.out, hb⟩


set_option maxRecDepth 8000 in
set_option maxHeartbeats 1000000 in
theorem clone_u8 (v : Value) (zs : List Int) (w : World) (hl : zs.length ≤ 2097152) (h : Lis .u8 w v zs) :
    Calls Tryz.prog 48 #[v] w fun e w' => ∃ u, e = .returned u ∧ w'.ownsRow w.heap.size 5 1 u zs.length (zs.map (Value.int .u8)) ∧ Below w.heap.size w w' := by
  obtain ⟨i0, hi, hz0, hz1, hz2⟩ := info_parts Tryz.infu8
  obtain ⟨a, cap, rfl, hr⟩ := h
  cases a with
  | none =>
    have h0 : zs = [] := by
      by_cases hn : 0 < zs.length
      · obtain ⟨g, off, e, _⟩ := hr hn
        simp at e
      · exact List.eq_nil_of_length_eq_zero (by omega)
    subst h0
    clear hr hl hi hz0 hz1 hz2
    simp only [List.length_nil]
    have hnil : ∀ w : World, (binOp .eql 26 (.slice none 0 cap) (.slice none 0 0)).run Tryz.prog w = .ok (.bool true) w := fun w => Lib.run_eql_slice_nil w 26 5 none 0 cap 0 0 Tryz.underlying26
    go_enter Tryz.func48, Tryz.ntmps48
    go_wp2
    go_ret
    exact ⟨_, rfl, World.ownsRow_nil _ _ _ _, Below.refl _ _⟩
  | some ad =>
    have hnews : ∀ j u, (zs.map (Value.int .u8))[j]? = some u → (w.alloc (.cells #[] 5)).cell? (ad.add j) = some u := by
      intro j u hj
      have hj' : j < zs.length := by
        have := (List.getElem?_eq_some_iff.mp hj).1
        simpa using this
      obtain ⟨g, off, e, hR⟩ := hr (by omega)
      simp only [Option.some.injEq] at e
      subst e
      rw [Addr.add_lit]
      rw [((Below.refl w.heap.size w).alloc (Nat.le_refl _) _).cell (p := ⟨g, off + j, none⟩) hR.lt, hR.cell j hj']
      simp only [List.getElem?_map, Option.map_eq_some_iff] at hj
      obtain ⟨z, hz, rfl⟩ := hj
      simp [List.getD, hz]
    have h1 : ∀ u ∈ zs.map (Value.int .u8), u.oneCell' = true := by
      intro u hu
      simp only [List.mem_map] at hu
      obtain ⟨z, _, rfl⟩ := hu
      rfl
    clear hr
    have hnil : ∀ w : World, (binOp .eql 26 (.slice (some ad) zs.length cap) (.slice none 0 0)).run Tryz.prog w = .ok (.bool false) w := fun w => Lib.run_eql_slice_nil w 26 5 (some ad) zs.length cap 0 0 Tryz.underlying26
    go_enter Tryz.func48, Tryz.ntmps48
    go_wp2_with (at_builtin; refine wpList_append_own _ rfl _ _ 26 rfl w.heap.size 5 i0 (.int .u8 0) 1 1 Tryz.underlying26 hi hz0 hz1 hz2 rfl (by decide) _ 0 [] rfl (World.ownsRow_lit w #[] 0 (Nat.le_refl _) (by decide) rfl) ad zs.length cap (zs.map (Value.int .u8)) rfl (by simp) hnews h1 (by unfold maxLen; omega) (by omega) (by simp) ?_)
    intro v' w1 hown hgrow _
    have hb : Below w.heap.size w w1 := ((Below.refl _ _).alloc (Nat.le_refl _) _).grown hgrow (by simp) (by simp [Value.ownBlock])
    try rw [List.nil_append] at hown
    try rw [Nat.zero_add] at hown
    have HL : Hid _ := hown
    clear hown hgrow hnews h1
    go_wp2
    go_ret
    exact ⟨_, rfl, HL.out, hb⟩


set_option maxRecDepth 8000 in
set_option maxHeartbeats 1000000 in
theorem clone_i64 (v : Value) (zs : List Int) (w : World) (hl : zs.length ≤ 2097152) (h : Lis .i64 w v zs) :
    Calls Tryz.prog 49 #[v] w fun e w' => ∃ u, e = .returned u ∧ w'.ownsRow w.heap.size 2 1 u zs.length (zs.map (Value.int .i64)) ∧ Below w.heap.size w w' := by
  obtain ⟨i0, hi, hz0, hz1, hz2⟩ := info_parts Tryz.infi64
  obtain ⟨a, cap, rfl, hr⟩ := h
  cases a with
  | none =>
    have h0 : zs = [] := by
      by_cases hn : 0 < zs.length
      · obtain ⟨g, off, e, _⟩ := hr hn
        simp at e
      · exact List.eq_nil_of_length_eq_zero (by omega)
    subst h0
    clear hr hl hi hz0 hz1 hz2
    simp only [List.length_nil]
    have hnil : ∀ w : World, (binOp .eql 27 (.slice none 0 cap) (.slice none 0 0)).run Tryz.prog w = .ok (.bool true) w := fun w => Lib.run_eql_slice_nil w 27 2 none 0 cap 0 0 Tryz.underlying27
    go_enter Tryz.func49, Tryz.ntmps49
    go_wp2
    go_ret
    exact ⟨_, rfl, World.ownsRow_nil _ _ _ _, Below.refl _ _⟩
  | some ad =>
    have hnews : ∀ j u, (zs.map (Value.int .i64))[j]? = some u → (w.alloc (.cells #[] 2)).cell? (ad.add j) = some u := by
      intro j u hj
      have hj' : j < zs.length := by
        have := (List.getElem?_eq_some_iff.mp hj).1
        simpa using this
      obtain ⟨g, off, e, hR⟩ := hr (by omega)
      simp only [Option.some.injEq] at e
      subst e
      rw [Addr.add_lit]
      rw [((Below.refl w.heap.size w).alloc (Nat.le_refl _) _).cell (p := ⟨g, off + j, none⟩) hR.lt, hR.cell j hj']
      simp only [List.getElem?_map, Option.map_eq_some_iff] at hj
      obtain ⟨z, hz, rfl⟩ := hj
      simp [List.getD, hz]
    have h1 : ∀ u ∈ zs.map (Value.int .i64), u.oneCell' = true := by
      intro u hu
      simp only [List.mem_map] at hu
      obtain ⟨z, _, rfl⟩ := hu
      rfl
    clear hr
    have hnil : ∀ w : World, (binOp .eql 27 (.slice (some ad) zs.length cap) (.slice none 0 0)).run Tryz.prog w = .ok (.bool false) w := fun w => Lib.run_eql_slice_nil w 27 2 (some ad) zs.length cap 0 0 Tryz.underlying27
    go_enter Tryz.func49, Tryz.ntmps49
    go_wp2_with (at_builtin; refine wpList_append_own _ rfl _ _ 27 rfl w.heap.size 2 i0 (.int .i64 0) 1 8 Tryz.underlying27 hi hz0 hz1 hz2 rfl (by decide) _ 0 [] rfl (World.ownsRow_lit w #[] 0 (Nat.le_refl _) (by decide) rfl) ad zs.length cap (zs.map (Value.int .i64)) rfl (by simp) hnews h1 (by unfold maxLen; omega) (by omega) (by simp) ?_)
    intro v' w1 hown hgrow _
    have hb : Below w.heap.size w w1 := ((Below.refl _ _).alloc (Nat.le_refl _) _).grown hgrow (by simp) (by simp [Value.ownBlock])
    try rw [List.nil_append] at hown
    try rw [Nat.zero_add] at hown
    have HL : Hid _ := hown
    clear hown hgrow hnews h1
    go_wp2
    go_ret
    exact ⟨_, rfl, HL.out, hb⟩


def wrd (z : Int) : Bool := decide (-2147483648 ≤ z ∧ z ≤ 2147483647)
def wrds (zs : List Int) : Bool := zs.all wrd
theorem wrd_wrap (z : Int) : (IntKind.i32.wrap z = z) ↔ wrd z = true := by
  unfold wrd
  rw [IntKind.wrap_i32]
  simp only [decide_eq_true_eq]
  omega
theorem ret_b {a b : Bool} (h : a = b) : Ending.returned (.bool a) = .returned (.bool b) := by rw [h]
theorem wrds_no (zs : List Int) (k : Nat) (h : k < zs.length) (hz : wrd (zs.getD k 0) = false) : wrds zs = false := by
  unfold wrds
  rw [List.all_eq_false]
  refine ⟨zs.getD k 0, ?_, by rw [hz]; decide⟩
  simp [List.getD, h]
theorem wrds_yes (zs : List Int) (h : ∀ j, j < zs.length → wrd (zs.getD j 0) = true) : wrds zs = true := by
  unfold wrds
  rw [List.all_eq_true]
  intro x hx
  obtain ⟨j, hj, rfl⟩ := List.getElem_of_mem hx
  have := h j hj
  simpa [List.getD, hj] using this


theorem wrap_s (z : Int) (w : World) : Calls Tryz.prog 53 #[.int .i64 z] w fun e w' => e = .returned (.int .i64 (IntKind.i32.wrap z)) ∧ w' = w := by
  go_enter Tryz.func53, Tryz.ntmps53
  go_wp2
  go_ret
  refine ⟨?_, rfl⟩
  have h : wrap64 (wrap32 z) = IntKind.i32.wrap z := by
    rw [IntKind.wrap_i32]
    unfold wrap64 wrap32
    omega
  rw [← h]
  rfl


theorem wrap_i (z : Int) (w : World) : Calls Tryz.prog 62 #[.int .i64 z] w fun e w' => e = .returned (.int .i64 (IntKind.i32.wrap z)) ∧ w' = w := by
  go_enter Tryz.func62, Tryz.ntmps62
  go_wp2
  go_ret
  refine ⟨?_, rfl⟩
  have h : wrap64 (wrap32 z) = IntKind.i32.wrap z := by
    rw [IntKind.wrap_i32]
    unfold wrap64 wrap32
    omega
  rw [← h]
  rfl

end Go.Proofs.YtabjcodpagjbjaaGreat
