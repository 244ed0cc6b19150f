import Derived.Shelf.SlGeneric
import Derived.Shelf.SlicesQ.Reverse
import Derived.Ground.SlgnProg
import Derived.Lib.OwnBridge
import Derived.Test.YtolkpkklinoegaaDoorProg
import Derived.Test.YtolkpkklinoegaaDoorM26
namespace Go.Proofs.YtolkpkklinoegaaDoor
set_option linter.unusedVariables false
set_option linter.unusedSimpArgs false
set_option maxRecDepth 100000
set_option maxHeartbeats 16000000
section
open Go.Shelf
open Go.RowKit Go.Sort
def Tryd.lrev_ren : Go.Shelf.Ren := ⟨fun | 35 => 32 | n => n, fun | 22 => 23 | 23 => 32 | 3 => 3 | 4 => 4 | 0 => 0 | n => n, fun | n => n⟩
theorem Tryd.lrev : Go.Proofs.SlLaysE0.n35 Tryd.prog Tryd.lrev_ren := {
 mixed := by kernel_rfl
 f35 := ⟨Tryd.f32.name, by decide, Tryd.func32.trans (congrArg some (by kernel_rfl))⟩
 t0 := Tryd.underlying0
 a0 := Tryd.isAgg0
 z0 := Tryd.sizeOf0
 v0 := Tryd.zeroValue0
 t3 := Tryd.underlying3
 a3 := Tryd.isAgg3
 z3 := Tryd.sizeOf3
 v3 := Tryd.zeroValue3
 t4 := Tryd.underlying4
 a4 := Tryd.isAgg4
 z4 := Tryd.sizeOf4
 v4 := Tryd.zeroValue4
 t22 := Tryd.underlying23
 a22 := Tryd.isAgg23
 z22 := Tryd.sizeOf23
 v22 := Tryd.zeroValue23 }
def NFree (B : Nat) (w : World) (v : Value) (ns : List Nd) : Prop := ∃ g cap, v = .slice (some ⟨g, 0, none⟩) ns.length cap ∧ ns.length ≤ cap ∧ cap ≤ 9223372036854775807 ∧ B ≤ g ∧ g < w.heap.size ∧ NodesC w g 0 ns ∧ ∀ j, j < ns.length * 3 → w.frozen? ⟨g, j, none⟩ = false
theorem NFree.nodes {B : Nat} {w : World} {v : Value} {ns : List Nd} (h : NFree B w v ns) : Nodes w v ns := by
 obtain ⟨g, cap, rfl, h1, h2, _, _, h3, _⟩ := h
 exact ⟨_, cap, rfl, h1, h2, fun _ => ⟨g, 0, rfl, h3⟩⟩
theorem holds_nodes [Inhabited Nd] {w : World} {g : Nat} {ns : List Nd} (h : NodesC w g 0 ns) (hf : ∀ j, j < ns.length * 3 → w.frozen? ⟨g, j, none⟩ = false) : HoldsK encNd 3 w g 0 ns.toArray := by
 intro j hj
 rw [size_flatK] at hj
 simp only [List.size_toArray] at hj
 refine ⟨?_, by rw [Nat.zero_add]; exact hf j hj⟩
 rw [get_flatK _ _ _ _ (by simpa using hj), id]
 have hq : j / 3 < ns.length := by omega
 have e : ns.toArray[j / 3]! = ns[j / 3] := by simp [hq]
 rw [e]
 obtain ⟨h0, h1, h2⟩ := h (j / 3) hq
 have hm : j % 3 = 0 ∨ j % 3 = 1 ∨ j % 3 = 2 := by omega
 rcases hm with hm | hm | hm
 ·rw [hm, show 0 + j = 0 + j / 3 * 3 by omega, h0]; simp [encNd]
 ·rw [hm, show 0 + j = 0 + j / 3 * 3 + 1 by omega, h1]; simp [encNd]
 ·rw [hm, show 0 + j = 0 + j / 3 * 3 + 2 by omega, h2]; simp [encNd]
theorem nodes_holds [Inhabited Nd] {w : World} {g : Nat} {ns : List Nd} (h : HoldsK encNd 3 w g 0 ns.toArray) : NodesC w g 0 ns ∧ ∀ j, j < ns.length * 3 → w.frozen? ⟨g, j, none⟩ = false := by
 refine ⟨fun j hj => ?_, fun j hj => ?_⟩
 ·have e : ns.toArray[j]! = ns[j] := by simp [hj]
  refine ⟨?_, ?_, ?_⟩
  ·have := (h.cell (i := j) (c := 0) (by simpa using hj) (by omega)).1
   rw [e] at this; simpa [encNd] using this
  ·have := (h.cell (i := j) (c := 1) (by simpa using hj) (by omega)).1
   rw [e] at this; simpa [encNd] using this
  ·have := (h.cell (i := j) (c := 2) (by simpa using hj) (by omega)).1
   rw [e] at this; simpa [encNd] using this
 ·have := (h j (by rw [size_flatK]; simpa using hj)).2
  rwa [Nat.zero_add] at this
theorem encNd_len (n : Nd) : (encNd n).length = 3 := rfl
theorem encNd_one (n : Nd) : ∀ v ∈ encNd n, v.oneCell' = true := by
 intro v hv
 simp only [encNd, List.mem_cons, List.not_mem_nil, or_false] at hv
 rcases hv with rfl | rfl | rfl <;> rfl
theorem rev_any (B : Nat) (v : Value) (ns : List Nd) (w : World) (hl : ns.length ≤ 1048576) (h : NFree B w v ns) :
  Calls Tryd.prog 32 #[v] w fun e w' => e = .returned (.tuple #[]) ∧ NFree B w' v ns.reverse ∧ ∀ W b, b ≤ B → Below b W w → Below b W w' := by
 haveI : Inhabited Nd := ⟨⟨1, 0, ⟨#[]⟩⟩⟩
 obtain ⟨g, cap, rfl, h1, h2, h3, h4, h5, h6⟩ := h
 have hH := holds_nodes h5 h6
 have := AnyQ.slices_Reverse Tryd.lrev 3 Tryd.isAgg32 Tryd.sizeOf32 encNd encNd_len encNd_one g 0 cap ns.toArray w hH (by simp; omega)
 simp only [List.size_toArray] at this
 refine this.mono ?_
 rintro e w' ⟨rfl, n, rfl⟩
 refine ⟨rfl, ⟨g, cap, by simp, by simpa using h1, h2, h3, ?_, ?_⟩, fun W b hb hW => Lib.below_putRow hW (by omega)⟩
 ·simpa [putRowK, Sort.ahead] using h4
 ·have hh := holdsK_putRowK encNd 3 (Sort.ahead w n) g 0 ns.toArray ns.toArray.reverse (holdsK_ahead encNd 3 w n g 0 ns.toArray hH) (by simp)
  have e : ns.toArray.reverse = ns.reverse.toArray := by simp
  rw [e] at hh ⊢
  exact nodes_holds hh
end
end Go.Proofs.YtolkpkklinoegaaDoor
