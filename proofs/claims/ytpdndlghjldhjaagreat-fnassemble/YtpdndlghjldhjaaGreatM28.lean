import Derived.Test.YtpdndlghjldhjaaGreatM26
import Derived.Deep.RegionHeldLaw
namespace Go.Proofs.YtpdndlghjldhjaaGreat
set_option linter.unusedVariables false
set_option linter.unusedSimpArgs false
set_option maxRecDepth 100000
set_option maxHeartbeats 16000000
section
open Go.RowKit
end
section
open Go.RowKit
def GRow (B : Nat) (w : World) (v : Value) (its : List It) : Prop := w.ownsRow B 31 7 v its.length (flatI its)
theorem GRow.base {B B' : Nat} {w : World} {v : Value} {its : List It} (h : GRow B w v its) (hb : B' ≤ B) : GRow B' w v its := by
 obtain ⟨h1, h2⟩ := h
 refine ⟨h1, ?_⟩
 rcases h2 with h2 | ⟨g, cap, cur, rfl, h3, h4, h5⟩
 ·exact .inl h2
 ·exact .inr ⟨g, cap, cur, rfl, Nat.le_trans hb h3, h4, h5⟩
end
end Go.Proofs.YtpdndlghjldhjaaGreat
