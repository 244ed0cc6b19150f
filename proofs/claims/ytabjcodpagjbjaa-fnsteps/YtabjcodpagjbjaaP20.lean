import Derived.Test.YtabjcodpagjbjaaP07
namespace Go.Proofs.Ytabjcodpagjbjaa
open Go.RowKit
def CodesAt (w w' : World) (op : Int) (e : Ending) : Prop :=
  ∃ g, e = .returned (.slice (some ⟨g, 0, none⟩) 3 3) ∧ g < w'.heap.size ∧ w'.cell? ⟨g, 0, none⟩ = some (.int .i64 (oc op)) ∧ w'.cell? ⟨g, 1, none⟩ = some (.int .i64 (f3 op)) ∧ w'.cell? ⟨g, 2, none⟩ = some (.int .i64 (f7 op)) ∧ Below w.heap.size w w'
end Go.Proofs.Ytabjcodpagjbjaa
