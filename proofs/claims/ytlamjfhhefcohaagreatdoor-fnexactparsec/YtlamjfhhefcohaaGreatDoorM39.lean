import Derived.Test.YtlamjfhhefcohaaGreatDoorM38
import Derived.Deep.Cut
namespace Go.Proofs.YtlamjfhhefcohaaGreatDoor
set_option linter.unusedVariables false
set_option linter.unusedSimpArgs false
set_option maxRecDepth 100000
set_option maxHeartbeats 16000000
section
open Go.RowKit
theorem bel_g {B : Nat} {W w1 w2 : World} {v : Value} {ms : List Nd} (hb : Below B W w1) (hB : B ≤ w1.heap.size) (hr : NRow B w1 v ms) (hg : w1.grownBy w2 v.ownBlock) : Below B W w2 := hb.grown hg hB (fun j hj => (World.ownsRow.lt hr j hj).1)
def N1 (k x : Int) (s : ByteArray) (p : Nat) (w : World) (v : Value) : Prop := Nodes w (.slice (some ⟨p, 0, none⟩) 1 1) [⟨k, x, s⟩] ∧ v.ownBlock ≠ some p
theorem N1.step {k x : Int} {s : ByteArray} {p : Nat} {w1 w2 : World} {v v' : Value} (h : N1 k x s p w1 v) (hg : w1.grownBy w2 v.ownBlock) (h3 : ∀ k, v'.ownBlock = some k → v.ownBlock = some k ∨ w1.heap.size ≤ k) : N1 k x s p w2 v' := by
 have hp : p < w1.heap.size := by
  obtain ⟨a, c, e, -, -, hh⟩ := h.1
  obtain ⟨b, off, e2, hc⟩ := hh (by simp)
  simp only [Value.slice.injEq] at e
  obtain ⟨rfl, -, -⟩ := e
  simp at e2
  obtain ⟨rfl, rfl⟩ := e2
  exact World.block_lt_of_cell? _ _ (hc 0 (by simp)).1
 refine ⟨h.1.grown hg (fun g hg' e => ?_), fun e => ?_⟩
 ·simp only [Value.ownBlock, Option.some.injEq] at hg'
  subst hg'
  exact h.2 e
 ·rcases h3 p e with h' | h'
  ·exact h.2 h'
  ·omega
theorem N1.new {k x : Int} {s : ByteArray} {w : World} {B : Nat} {v : Value} {ms : List Nd} (h : NRow B w v ms) : N1 k x s w.heap.size (w.alloc (.cells #[.int .i64 k, .int .i64 x, .string s] 48)) v :=
 ⟨(nrow_lit w 0 (Nat.zero_le _) k x s).nodes, fun e => by have := (World.ownsRow.lt h _ e).2; omega⟩
theorem N1.newA {k x : Int} {s : ByteArray} (w : World) : N1 k x s w.heap.size ((w.alloc (.cells #[.int .i64 k, .int .i64 x, .string s] 48)).alloc (.cells #[] 48)) (.slice (some ⟨w.heap.size + 1, 0, none⟩) 0 0) :=
 ⟨(nrow_lit w 0 (Nat.zero_le _) k x s).nodes.below ((Below.refl _ _).alloc (Nat.le_refl _) _), by simp [Value.ownBlock]⟩
theorem n1_all (k x : Int) (s : ByteArray) (W : World) :
  (NRow W.heap.size ((W.drew.alloc (.cells #[] 48)).alloc (.cells #[.int .i64 k, .int .i64 x, .string s] 48)) (.slice (some ⟨W.heap.size, 0, none⟩) 0 0) [] ∧ N1 k x s (W.heap.size + 1) ((W.drew.alloc (.cells #[] 48)).alloc (.cells #[.int .i64 k, .int .i64 x, .string s] 48)) (.slice (some ⟨W.heap.size, 0, none⟩) 0 0)) ∧
  (NRow W.heap.size ((W.drew.alloc (.cells #[.int .i64 k, .int .i64 x, .string s] 48)).alloc (.cells #[] 48)) (.slice (some ⟨W.heap.size + 1, 0, none⟩) 0 0) [] ∧ N1 k x s W.heap.size ((W.drew.alloc (.cells #[.int .i64 k, .int .i64 x, .string s] 48)).alloc (.cells #[] 48)) (.slice (some ⟨W.heap.size + 1, 0, none⟩) 0 0)) := by
 have e : ∀ o, (W.drew.alloc o).heap.size = W.heap.size + 1 := fun o => by simp
 have a1 := (nrow_nil W.drew W.heap.size (Nat.le_refl _))
 have a2 := N1.new (k := k) (x := x) (s := s) a1
 have a3 := nrow_nil (W.drew.alloc (.cells #[.int .i64 k, .int .i64 x, .string s] 48)) W.heap.size (by simp)
 rw [e] at a2 a3
 exact ⟨⟨a1.below ((Below.refl _ _).alloc (Nat.le_refl _) _), a2⟩, a3, N1.newA W.drew⟩
theorem step_appJ {w W0 : World} {ops : Array Oper} {o : Oper} {a : Act} {K : Act → World → Prop} {Q : Exit → Act → World → Prop} {E : Prop} (hgd : o.guard = none) (s x : Operand)
  (ho : o.op = .call { callee := .builtin .append, args := #[s, x], argTypes := #[44, 44] })
  (v : Value) (ms : List Nd) (hs : a.eval s = v) (hown : NRow W0.heap.size w v ms) (hb : Below W0.heap.size W0 w) (u : Value) (ns : List Nd) (hx : a.eval x = u) (hN : Nodes w u ns)
  (hl : ms.length + ns.length ≤ 10000000)
  (h : ∀ v' w', NRow W0.heap.size w' v' (ms ++ ns) → Below W0.heap.size W0 w' → w.grownBy w' v.ownBlock → (∀ k, v'.ownBlock = some k → v.ownBlock = some k ∨ w.heap.size ≤ k) → K (a.put o.dst v') w') :
  if Region.wanted o (yielded ops a.tmps) = true then Oper.wp Tryz.prog o a w K Q else E :=
 step_appN hgd s x ho W0.heap.size v ms hs hown u ns hx hN hl hb.size fun v' w' h1 h2 h3 => h v' w' h1 (bel_g hb hb.size hown h2) h2 h3
end
section
open Go.RowKit
theorem Dr.box {g : Nat} {a : Option Addr} {len cap : Nat} {S : Nat → Prop} {w w' : World} {o : Obj} (h : Dr g a len cap S (w.alloc o) w') : Dr g a len cap S w w' := ⟨h.cur, ((Tcs.refl S w).alloc o).trans h.tcs⟩
end
end Go.Proofs.YtlamjfhhefcohaaGreatDoor
