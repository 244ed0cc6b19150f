import Derived.Test.YtbmcnjjhgjphmaaDoorFN
import Derived.Test.YtbmcnjjhgjphmaaDoorFR
import Derived.Deep.RegionHeldLaw
namespace Go.Proofs.YtbmcnjjhgjphmaaDoor
open Go.RowKit
set_option linter.unusedVariables false
set_option linter.unusedSimpArgs false

structure LI (w wr : World) (S : Nat → Prop) (r : List Nd) (left list : Value) (Ls : List (Value × List Nd)) (L : List Nd) : Prop where
  sum : (Ls.map (·.2)).flatten ++ L.reverse = r
  each : ∀ q ∈ Ls, Tv w S q.1 q.2
  row : VRow w.heap.size wr left (Ls.map (·.1))
  out : NRow w.heap.size wr list L
  ne : ∀ g, left.ownBlock = some g → list.ownBlock ≠ some g
  bel : Below w.heap.size w wr
theorem LI.len {w wr : World} {S : Nat → Prop} {r : List Nd} {left list : Value} {Ls : List (Value × List Nd)} {L : List Nd} (h : LI w wr S r left list Ls L) : Ls.length + L.length ≤ r.length := by
  have h1 : Ls.length ≤ (Ls.map (·.2)).flatten.length := by
    have h2 := h.each
    clear h
    induction Ls with
    | nil => simp
    | cons q Ls ih =>
      have h3 := (h2 q (by simp)).pos
      have h4 := ih (fun q hq => h2 q (by simp [hq]))
      simp only [List.map_cons, List.flatten_cons, List.length_append, List.length_cons]
      omega
  have h3 := congrArg List.length h.sum
  simp only [List.length_append, List.length_reverse] at h3
  omega
theorem LI.mid {w wr w1 w2 : World} {S : Nat → Prop} {r : List Nd} {left list : Value} {Ls : List (Value × List Nd)} {L : List Nd} (h : LI w wr S r left list Ls L) (hb1 : Below wr.heap.size wr w1) (hg2 : w1.grownBy w2 left.ownBlock) : NRow w.heap.size w2 list L ∧ w.heap.size ≤ w2.heap.size := by
  refine ⟨ownG (ownB h.out hb1) hg2 (fun g hg h' => h.ne g h' hg), ?_⟩
  have := h.bel.size
  have := hb1.size
  have := hg2.size
  omega
theorem LI.step {w wr w1 w2 w4 w5 : World} {S : Nat → Prop} {r l : List Nd} {v left list left' list' : Value} {Ls0 Ns : List (Value × List Nd)} {L : List Nd} {n : Nd} (h : LI w wr S r left list (Ls0 ++ [(v, l)]) L) (hl : l = (Ns.map (·.2)).flatten ++ [n]) (hN : ∀ q ∈ Ns, Tv w S q.1 q.2)
    (hb1 : Below wr.heap.size wr w1) (hr2 : VRow w.heap.size w2 left' (Ls0.map (·.1) ++ Ns.map (·.1))) (hg2 : w1.grownBy w2 left.ownBlock) (hf2 : ∀ k, left'.ownBlock = some k → left.ownBlock = some k ∨ w1.heap.size ≤ k)
    (hb3 : Below w2.heap.size w2 w4) (ho : NRow w.heap.size w5 list' (L ++ [n])) (hg5 : w4.grownBy w5 list.ownBlock) (hf5 : ∀ k, list'.ownBlock = some k → list.ownBlock = some k ∨ w4.heap.size ≤ k) :
    LI w w5 S r left' list' (Ls0 ++ Ns) (L ++ [n]) := by
  have hol : ∀ g, list.ownBlock = some g → w.heap.size ≤ g ∧ g < wr.heap.size := fun g hg => World.ownsRow.lt h.out g hg
  have hll : ∀ g, left.ownBlock = some g → w.heap.size ≤ g ∧ g < wr.heap.size := fun g hg => World.ownsRow.lt h.row g hg
  have hl2 : ∀ g, left'.ownBlock = some g → g < w2.heap.size := fun g hg => (World.ownsRow.lt hr2 g hg).2
  have s1 := hb1.size
  have s3 := hb3.size
  have hx : ∀ g, left'.ownBlock = some g → list.ownBlock ≠ some g := by
    intro g hg h'
    rcases hf2 g hg with h2 | h2
    · exact h.ne g h2 h'
    · have := (hol g h').2; omega
  have e1 : (Ls0 ++ Ns).map (·.1) = Ls0.map (·.1) ++ Ns.map (·.1) := by simp
  have hb2 : Below w.heap.size w w2 := (h.bel.trans (hb1.mono h.bel.size)).grown hg2 (Nat.le_trans h.bel.size s1) (fun g hg => (hll g hg).1)
  have hb4 : Below w.heap.size w w4 := hb2.trans (hb3.mono hb2.size)
  refine ⟨?_, fun q hq => ?_, ?_, ho, fun g hg h' => ?_, hb4.grown hg5 hb4.size (fun g hg => (hol g hg).1)⟩
  · have := h.sum
    rw [← this, hl]
    simp
  · rcases List.mem_append.1 hq with hq | hq
    · exact h.each q (by simp [hq])
    · exact hN q hq
  · rw [e1]
    exact ownG (ownB hr2 hb3) hg5 (fun g hg => hx g hg)
  · rcases hf5 g h' with h2 | h2
    · exact hx g hg h2
    · have := hl2 g hg; omega

end Go.Proofs.YtbmcnjjhgjphmaaDoor
