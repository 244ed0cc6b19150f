import Derived.Test.YtlamjfhhefcohaaGreatDoorM39
namespace Go.Proofs.YtlamjfhhefcohaaGreatDoor
set_option linter.unusedVariables false
set_option linter.unusedSimpArgs false
set_option maxRecDepth 100000
set_option maxHeartbeats 16000000
section
open Go.RowKit
theorem Dr.app {g : Nat} {a : Option Addr} {len cap : Nat} {S : Nat → Prop} {w w1 w2 : World} {B : Nat} {v : Value} {ms : List Nd} (h : Dr g a len cap S w w1) (hL : Lo g a len S w.heap.size) (hr : NRow B w1 v ms) (hB : w.heap.size ≤ B) (hg : w1.grownBy w2 v.ownBlock) : Dr g a len cap S w w2 :=
 h.new hL (Tcs.of_grown (S := fun k => v.ownBlock = some k) hg (fun k hk => hk)) (fun k hk => Nat.le_trans hB (World.ownsRow.lt hr k hk).1)
end
end Go.Proofs.YtlamjfhhefcohaaGreatDoor
