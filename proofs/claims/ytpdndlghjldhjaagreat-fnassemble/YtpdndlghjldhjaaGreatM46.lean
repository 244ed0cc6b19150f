import Derived.Test.YtpdndlghjldhjaaGreatM45
import Derived.Test.YtpdndlghjldhjaaGreatM03
import Derived.Deep.RegionHeld3
import Derived.Test.YtpdndlghjldhjaaGreatM25
import Derived.Below
namespace Go.Proofs.YtpdndlghjldhjaaGreat
set_option linter.unusedVariables false
set_option linter.unusedSimpArgs false
set_option maxRecDepth 100000
set_option maxHeartbeats 16000000
section
open Go.RowKit
end
section
open Go.RowKit
end
section
open Go.RowKit
end
section
open Go.RowKit
def needL (e : List Nd) (d : Int) : Int := ((evN e []).headD (fun d => d)) d
theorem NF.eq {e : List Nd} {g : Int → Int} (h : NF e g) (d : Int) : needL e d = g d := by
 unfold needL; rw [h []]; rfl
def plE (e : List Nd) (d m : Int) : Int := if e.length = 0 then m else max m (needL e d)
def plU (s : St) (m : Nat) (p : Int) : Int := if m = 0 then p else if m = 1 then plE s.e 0 p else plE s.f 1 (plE s.e 0 p)
def places (body : List St) : Int := body.foldl (fun p s => plU s 2 p) 0
theorem places_snoc (l : List St) (s : St) : places (l ++ [s]) = plU s 2 (places l) := by simp [places]
def okE (e : List Nd) : Prop := e.length ≤ 2000 ∧ (0 < e.length → oneB e = true)
theorem needL_bd {e : List Nd} (h : okE e) (h0 : 0 < e.length) (d : Int) : d ≤ needL e d ∧ needL e d ≤ d + 14000 := by
 obtain ⟨g, h1, h2⟩ := NF.exists e.length e (Nat.le_refl _) (h.2 h0)
 rw [h1.eq]
 have := h2 d
 have := h.1
 omega
end
end Go.Proofs.YtpdndlghjldhjaaGreat
