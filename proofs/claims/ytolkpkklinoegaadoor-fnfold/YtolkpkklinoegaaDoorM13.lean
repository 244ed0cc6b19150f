import Derived.Test.YtolkpkklinoegaaDoorRows
import Derived.Test.YtolkpkklinoegaaDoorM04
import Derived.WalkKit
import Derived.WalkSpells
import Derived.ProofKit
import Derived.Deep.RegionHeld
import Derived.Lib.ItoaNum
import Derived.Lib.ConvBytes
namespace Go.Proofs.YtolkpkklinoegaaDoor
set_option linter.unusedVariables false
set_option linter.unusedSimpArgs false
set_option maxRecDepth 100000
set_option maxHeartbeats 16000000
section
open Go.RowKit
theorem conv2 (m : Nat) (W : World) (b : Nat) (h : W.cell? ⟨b, 0, none⟩ = some (.int .u8 (48 + (m : Int) % 10))) : (convert 22 9 (.slice (some ⟨b, 0, none⟩) 1 1)).run Tryd.prog W = .ok (.string ⟨#[dig m]⟩) W := by
 refine run_convert_bytes_back (P := Tryd.prog) W 22 9 5 ⟨b, 0, none⟩ 1 [dig m] Tryd.underlying22 Tryd.underlying5 Tryd.underlying9 (fun j hj => ?_)
 obtain rfl : j = 0 := by simpa using hj
 have e : (((dig m).toNat : Nat) : Int) = 48 + (m : Int) % 10 := by rw [dig_toNat]; omega
 simp [Addr.add, e, h]
theorem dec_len (N : Nat) : ∀ u, u ≤ N → (Lib.decDigits u).length ≤ u + 1 := by
 induction N with
 | zero =>
  intro u h
  rw [Lib.decDigits, dif_pos (by omega)]
  simp
 | succ n ih =>
  intro u h
  rw [Lib.decDigits]
  split
  ·simp
  ·have := ih (u / 10) (by omega)
   simp only [List.length_append, List.length_cons, List.length_nil]
   omega
end
end Go.Proofs.YtolkpkklinoegaaDoor
