import Derived.Test.YtolkpkklinoegaaDoorM19
import Derived.RegionTactic
import Derived.ChangeAlike
namespace Go.Proofs.YtolkpkklinoegaaDoor
set_option linter.unusedVariables false
set_option linter.unusedSimpArgs false
set_option maxRecDepth 100000
set_option maxHeartbeats 16000000
section
open Go.RowKit
def StmtsC (w : World) (b off : Nat) (ss : List St) : Prop := ∀ j (h : j < ss.length), ∃ ve vf,
 (w.cell? ⟨b, off + j * 6, none⟩ = some (.int .i64 ss[j].kind) ∧ w.cell? ⟨b, off + j * 6 + 1, none⟩ = some (.string ss[j].name) ∧ w.cell? ⟨b, off + j * 6 + 2, none⟩ = some ve ∧ w.cell? ⟨b, off + j * 6 + 3, none⟩ = some vf ∧ w.cell? ⟨b, off + j * 6 + 4, none⟩ = some (.int .i64 ss[j].thn) ∧ w.cell? ⟨b, off + j * 6 + 5, none⟩ = some (.int .i64 ss[j].els)) ∧ Nodes w ve ss[j].e ∧ Nodes w vf ss[j].f
theorem StmtsC.below {w w' : World} {b off : Nat} {ss : List St} (h : StmtsC w b off ss) (hb : Below w.heap.size w w') : StmtsC w' b off ss := by
 intro j hj
 obtain ⟨ve, vf, ⟨c0, c1, c2, c3, c4, c5⟩, he, hf⟩ := h j hj
 have hlt := World.block_lt_of_cell? _ _ c0
 exact ⟨ve, vf, ⟨(hb.cell (p := ⟨b, off + j * 6, none⟩) hlt).trans c0, (hb.cell (p := ⟨b, off + j * 6 + 1, none⟩) hlt).trans c1, (hb.cell (p := ⟨b, off + j * 6 + 2, none⟩) hlt).trans c2, (hb.cell (p := ⟨b, off + j * 6 + 3, none⟩) hlt).trans c3, (hb.cell (p := ⟨b, off + j * 6 + 4, none⟩) hlt).trans c4, (hb.cell (p := ⟨b, off + j * 6 + 5, none⟩) hlt).trans c5⟩, he.below hb, hf.below hb⟩
def Stmts (w : World) (v : Value) (ss : List St) : Prop := ∃ a cap, v = .slice a ss.length cap ∧ ss.length ≤ cap ∧ cap ≤ 9223372036854775807 ∧ (0 < ss.length → ∃ b off, a = some ⟨b, off, none⟩ ∧ StmtsC w b off ss)
theorem Stmts.below {w w' : World} {v : Value} {ss : List St} (h : Stmts w v ss) (hb : Below w.heap.size w w') : Stmts w' v ss := by
 obtain ⟨a, cap, rfl, hl, hm, h⟩ := h
 refine ⟨a, cap, rfl, hl, hm, fun h0 => ?_⟩
 obtain ⟨b, off, rfl, hc⟩ := h h0
 exact ⟨b, off, rfl, hc.below hb⟩
theorem StmtsC.up {w : World} {b off : Nat} {ss : List St} (h : StmtsC w b off ss) (j : Nat) (hj : j < ss.length) : ∃ ve vf, ((∀ o, (w.alloc o).cell? ⟨b, off + j * 6, none⟩ = some (.int .i64 ss[j].kind)) ∧ (∀ o, (w.alloc o).cell? ⟨b, off + j * 6 + 1, none⟩ = some (.string ss[j].name)) ∧ (∀ o, (w.alloc o).cell? ⟨b, off + j * 6 + 2, none⟩ = some ve) ∧ (∀ o, (w.alloc o).cell? ⟨b, off + j * 6 + 3, none⟩ = some vf) ∧ (∀ o, (w.alloc o).cell? ⟨b, off + j * 6 + 4, none⟩ = some (.int .i64 ss[j].thn)) ∧ (∀ o, (w.alloc o).cell? ⟨b, off + j * 6 + 5, none⟩ = some (.int .i64 ss[j].els))) ∧
  (w.cell? ⟨b, off + j * 6, none⟩ = some (.int .i64 ss[j].kind) ∧ w.cell? ⟨b, off + j * 6 + 1, none⟩ = some (.string ss[j].name) ∧ w.cell? ⟨b, off + j * 6 + 2, none⟩ = some ve ∧ w.cell? ⟨b, off + j * 6 + 3, none⟩ = some vf ∧ w.cell? ⟨b, off + j * 6 + 4, none⟩ = some (.int .i64 ss[j].thn) ∧ w.cell? ⟨b, off + j * 6 + 5, none⟩ = some (.int .i64 ss[j].els)) ∧ Nodes w ve ss[j].e ∧ Nodes w vf ss[j].f := by
 obtain ⟨ve, vf, ⟨c0, c1, c2, c3, c4, c5⟩, he, hf⟩ := h j hj
 have hlt := World.block_lt_of_cell? _ _ c0
 have hb : ∀ o, Below w.heap.size w (w.alloc o) := fun o => (Below.refl _ _).alloc (Nat.le_refl _) o
 exact ⟨ve, vf, ⟨fun o => ((hb o).cell (p := ⟨b, off + j * 6, none⟩) hlt).trans c0, fun o => ((hb o).cell (p := ⟨b, off + j * 6 + 1, none⟩) hlt).trans c1, fun o => ((hb o).cell (p := ⟨b, off + j * 6 + 2, none⟩) hlt).trans c2, fun o => ((hb o).cell (p := ⟨b, off + j * 6 + 3, none⟩) hlt).trans c3, fun o => ((hb o).cell (p := ⟨b, off + j * 6 + 4, none⟩) hlt).trans c4, fun o => ((hb o).cell (p := ⟨b, off + j * 6 + 5, none⟩) hlt).trans c5⟩, ⟨c0, c1, c2, c3, c4, c5⟩, he, hf⟩
theorem Stmts.cut {w : World} {a : Option Addr} {cap : Nat} {ss : List St} (h : Stmts w (.slice a ss.length cap) ss) (lo hi : Nat) (h1 : lo ≤ hi) (h2 : hi ≤ ss.length) :
  Stmts w (.slice (if cap = lo then a else a.map (·.add (lo * 6))) (hi - lo) (cap - lo)) ((ss.take hi).drop lo) := by
 obtain ⟨a', cap', he, hl, hm, h⟩ := h
 simp only [Value.slice.injEq, true_and] at he
 obtain ⟨rfl, rfl⟩ := he
 refine ⟨if cap = lo then a else a.map (·.add (lo * 6)), cap - lo, by simp [Nat.min_eq_left h2], by simp [Nat.min_eq_left h2]; omega, by omega, fun h0 => ?_⟩
 simp only [List.length_drop, List.length_take, Nat.min_eq_left h2] at h0
 obtain ⟨b, off, rfl, hc⟩ := h (by omega)
 refine ⟨b, off + lo * 6, ?_, fun j hj => ?_⟩
 ·rw [if_neg (by omega)]; simp [Addr.add]
 ·simp only [List.length_drop, List.length_take, Nat.min_eq_left h2] at hj
  obtain ⟨ve, vf, hcc, he, hf⟩ := hc (lo + j) (by omega)
  have e : ((ss.take hi).drop lo)[j]'(by simp; omega) = ss[lo + j]'(by omega) := by simp
  rw [e]
  refine ⟨ve, vf, ?_, he, hf⟩
  have e1 : off + lo * 6 + j * 6 = off + (lo + j) * 6 := by omega
  rw [e1]
  exact hcc
theorem Stmts.head {w : World} {a : Option Addr} {cap : Nat} {ss : List St} (h : Stmts w (.slice a ss.length cap) ss) (hi : Nat) (h2 : hi ≤ ss.length) : Stmts w (.slice a hi cap) (ss.take hi) := by
 have := h.cut 0 hi (Nat.zero_le _) h2
 have e : (if cap = 0 then a else a.map (·.add (0 * 6))) = a := by
  split
  ·rfl
  ·cases a <;> simp [Addr.add]
 rw [e] at this
 simpa using this
theorem cut_run (a : Option Addr) (n cap lo hi : Nat) (h1 : lo ≤ hi) (h2 : hi ≤ n) (h3 : n ≤ cap) : ∀ w : World, (Instr.slice 35 (.slice a n cap) (some (.int .i64 lo)) (some (.int .i64 ((lo : Int) + ((hi - lo : Nat) : Int)))) none).run Tryd.prog w = .ok (.slice (if cap = lo then a else a.map (·.add (lo * 6))) (hi - lo) (cap - lo)) w := by
 intro w
 have hz : Tryd.prog.elem 35 = 34 := by kernel_rfl
 have hs : (sizeOf 34).run Tryd.prog w = .ok 6 w := by kernel_rfl
 rw [run_slice_lh w 35 a n cap (by rw [hz]; exact Tryd.underlying35) .i64 .i64 _ _ (by omega) (by omega) (by omega), hz, hs]
 simp only [Result.andThen, sliced, Int.toNat_natCast]
 have e : (((lo : Int) + ((hi - lo : Nat) : Int))).toNat = hi := by omega
 rw [e]
theorem cut_run_l (a : Option Addr) (n cap lo : Nat) (h2 : lo ≤ n) (h3 : n ≤ cap) (l' : Int) (hl' : l' = lo) : ∀ w : World, (Instr.slice 35 (.slice a n cap) (some (.int .i64 l')) none none).run Tryd.prog w = .ok (.slice (if cap = lo then a else a.map (·.add (lo * 6))) (n - lo) (cap - lo)) w := by
 intro w
 subst hl'
 have hz : Tryd.prog.elem 35 = 34 := by kernel_rfl
 have hs : (sizeOf 34).run Tryd.prog w = .ok 6 w := by kernel_rfl
 rw [run_slice_l w 35 a n cap (by rw [hz]; exact Tryd.underlying35) .i64 _ (by omega) (by omega), hz, hs]
 simp only [Result.andThen, sliced, Int.toNat_natCast]
def lenOf : Value → Nat | .slice _ n _ => n | _ => 0
end
end Go.Proofs.YtolkpkklinoegaaDoor
