import Derived.Test.YtdkpinbkmjoicaaTb
import Derived.Test.YtdkpinbkmjoicaaSw
import Derived.Test.YtdkpinbkmjoicaaRt
import Derived.Deep.RegionHeld3
import Derived.WalkLawsBesides
namespace Go.Proofs.Ytdkpinbkmjoicaa
open Go.RowKit
set_option linter.unusedVariables false
set_option linter.unusedSimpArgs false
theorem store_tab {ops : Array Oper} {rest : List Oper} {op : Oper} {a : Act} {w : World} {Q : Exit → Act → World → Prop} (hgd : op.guard = none) (x y : Operand) (ho : op.op = .store 55 x y)
    (w1 : World) (hw : w = w1.alloc (.cells zeroA 55)) (hx : a.eval x = .pointer (some ⟨w1.heap.size, 0, none⟩)) (hy : a.eval y = .agg tabA)
    (h : ∀ W2 : World, (∀ j, j < 35 → W2.cell? ⟨w1.heap.size, j, none⟩ = tabA[j]?) → Below w1.heap.size w1 W2 → w1.heap.size < W2.heap.size → wpList Try.prog ops Q rest (a.put op.dst undef) W2) :
    wpList Try.prog ops Q (op :: rest) a w := by
  subst hw
  have ht := there_new w1 zeroA 55 35 (Nat.le_refl 35)
  refine wpList_store_mid hgd 55 x y ho w1.heap.size 0 tabA hx hy ht Try.info55 tab_one (h _ ?_ ?_ ?_)
  · intro j hj
    have hj' : j < tabA.toList.length := hj
    have := World.cell?_setCells_in w1.heap.size tabA.toList 0 _ (fun i hi => (ht i hi).1) j hj'
    rw [Nat.zero_add] at this
    rw [this]
    simp
  · exact below_setCells (Nat.le_refl _) _ _ _ ((Below.refl _ _).alloc (Nat.le_refl _) _)
  · have : (w1.alloc (.cells zeroA 55)).heap.size ≤ ((w1.alloc (.cells zeroA 55)).setCells w1.heap.size 0 tabA.toList).heap.size := (below_setCells (B := 0) (Nat.zero_le _) tabA.toList 0 _ (Below.refl _ _)).size
    simp at this
    omega

theorem box5' {w w' : World} {t : TypeId} {a b c d e : Value} (h : Below (w.heap.size + 1) (w.alloc (.cells #[a, b, c, d, e] t)) w') :
    w'.cell? ⟨w.heap.size, 0, none⟩ = some a ∧ w'.cell? ⟨w.heap.size, 1, none⟩ = some b ∧ w'.cell? ⟨w.heap.size, 2, none⟩ = some c ∧ w'.cell? ⟨w.heap.size, 3, none⟩ = some d ∧ w'.cell? ⟨w.heap.size, 4, none⟩ = some e := by
  refine ⟨?_, ?_, ?_, ?_, ?_⟩ <;> (rw [h.cell (by simp)]; simp)

theorem later {W W' : World} (hb : Below W.heap.size W W') {b o : Nat} {v : Value} (h : W.cell? ⟨b, o, none⟩ = some v) : W'.cell? ⟨b, o, none⟩ = some v := by
  rw [hb.cell (p := ⟨b, o, none⟩) (World.block_lt_of_cell? _ _ h)]; exact h
theorem six_later {W W' : World} {b c j : Nat} {v0 v1 v2 v3 v4 t : Value} (hb : Below W.heap.size W W') 
    (k : W.cell? ⟨b, 0, none⟩ = some v0 ∧ W.cell? ⟨b, 1, none⟩ = some v1 ∧ W.cell? ⟨b, 2, none⟩ = some v2 ∧ W.cell? ⟨b, 3, none⟩ = some v3 ∧ W.cell? ⟨b, 4, none⟩ = some v4) (h : W.cell? ⟨c, j, none⟩ = some t) :
    (W'.cell? ⟨b, 0, none⟩ = some v0 ∧ W'.cell? ⟨b, 1, none⟩ = some v1 ∧ W'.cell? ⟨b, 2, none⟩ = some v2 ∧ W'.cell? ⟨b, 3, none⟩ = some v3 ∧ W'.cell? ⟨b, 4, none⟩ = some v4) ∧ W'.cell? ⟨c, j, none⟩ = some t :=
  ⟨⟨later hb k.1, later hb k.2.1, later hb k.2.2.1, later hb k.2.2.2.1, later hb k.2.2.2.2⟩, later hb h⟩
theorem below_drew' (W : World) : Below W.heap.size W W.drew := (Below.refl _ _).drew
end Go.Proofs.Ytdkpinbkmjoicaa
