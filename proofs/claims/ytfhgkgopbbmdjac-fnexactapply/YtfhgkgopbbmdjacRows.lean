/-
  No cell of these rows narrows 'for every input' (looked for: loops, veiled, ifaces, maps, wideKeys, modest, calm, conditions, laid).
  DERIVED. THE GIVEN ROWS OF THIS SEAT. 6 by the template 'for every input the law returns true; each argument reads behind the call as it read before'; 0 by the template 'total and deterministic' (their statements: YtfhgkgopbbmdjacTotals.lean).
  GIVEN WITH THE SEED: the statements are not yours to turn. If you find one false, say at which input.
  Laid BY PROGRAM, IN A SANDBOX (cutbox-rows.mjs): the forced cells as the released guide's own fill.sh prints them over the translation 4506790564725cb6… (all of the seat's roots in one cut). By AI agents, Wed Nov 11 2026. No macro, syntax, notation, axiom, sorry.
-/
import Derived.Test.YtfhgkgopbbmdjacChecked
import GoSem.Claim
import GoSem.ClaimJoined
import GoSem.ClaimMapViews
import Derived.JoinedTies
import Derived.KernelRfl
namespace Go.Proofs.Ytfhgkgopbbmdjac
/- THE CELL 'sum', in the pinned program and in every row, IS THE sha256 OF THE DUMP (.gsa) THAT YtfhgkgopbbmdjacProg.lean LOADS. Nothing in Lean hashes anything: it is a label: what it is worth is what the hold of that sum in a sandbox is worth. -/
noncomputable def Try.pinned : Pinned := { name := "ytfhgkgopbbmdjac", sum := "4506790564725cb600c9abde4f7f96744cfe3f0d601be33a0156f88564e6364a", checked := Try.checked }
namespace Rows
def none {H : Type} : Left H := { results := [], args := [] }

/-- 'laws.FnExactCalls': WHATEVER THE INPUT: true; the input reads as it did. -/
def fnExactCallsSpec : ChangeSpec := { name := "fnExactCalls", fn := fun _ => fun
  | [d1, d2] => { results := [.lit (.bool true)], args := [d1, d2] }
  | _ => none }
def fnExactCallsRow : OpenClaim := { program := "ytfhgkgopbbmdjac", sum := "4506790564725cb600c9abde4f7f96744cfe3f0d601be33a0156f88564e6364a", func := "loop.example/s01725/laws.FnExactCalls", spec := "fnExactCalls", recurses := true, apart := false }
def FnExactCallsSaid : Prop := fnExactCallsRow.holds Try.pinned (OpenSpec.ofChange fnExactCallsSpec)

/-- ITS FALSE NEIGHBOUR: 'it returns false'. Refute it at one input. -/
def fnExactCallsWrong : ChangeSpec := { name := "fnExactCalls", fn := fun _ => fun
  | [d1, d2] => { results := [.lit (.bool false)], args := [d1, d2] }
  | _ => none }
def FnExactCallsWrongFalsely : Prop := fnExactCallsRow.holds Try.pinned (OpenSpec.ofChange fnExactCallsWrong)

/-- 'laws.FnExactApply': WHATEVER THE INPUT: true; the input reads as it did. -/
def fnExactApplySpec : ChangeSpec := { name := "fnExactApply", fn := fun _ => fun
  | [d1, d2, d3] => { results := [.lit (.bool true)], args := [d1, d2, d3] }
  | _ => none }
def fnExactApplyRow : OpenClaim := { program := "ytfhgkgopbbmdjac", sum := "4506790564725cb600c9abde4f7f96744cfe3f0d601be33a0156f88564e6364a", func := "loop.example/s01725/laws.FnExactApply", spec := "fnExactApply", apart := false }
def FnExactApplySaid : Prop := fnExactApplyRow.holds Try.pinned (OpenSpec.ofChange fnExactApplySpec)

/-- ITS FALSE NEIGHBOUR: 'it returns false'. Refute it at one input. -/
def fnExactApplyWrong : ChangeSpec := { name := "fnExactApply", fn := fun _ => fun
  | [d1, d2, d3] => { results := [.lit (.bool false)], args := [d1, d2, d3] }
  | _ => none }
def FnExactApplyWrongFalsely : Prop := fnExactApplyRow.holds Try.pinned (OpenSpec.ofChange fnExactApplyWrong)

/-- 'laws.FnExactEvalC': WHATEVER THE INPUT: true; the input reads as it did. -/
def fnExactEvalCSpec : ChangeSpec := { name := "fnExactEvalC", fn := fun _ => fun
  | [d1, d2, d3, d4] => { results := [.lit (.bool true)], args := [d1, d2, d3, d4] }
  | _ => none }
def fnExactEvalCRow : OpenClaim := { program := "ytfhgkgopbbmdjac", sum := "4506790564725cb600c9abde4f7f96744cfe3f0d601be33a0156f88564e6364a", func := "loop.example/s01725/laws.FnExactEvalC", spec := "fnExactEvalC", recurses := true, apart := false }
def FnExactEvalCSaid : Prop := fnExactEvalCRow.holds Try.pinned (OpenSpec.ofChange fnExactEvalCSpec)

/-- ITS FALSE NEIGHBOUR: 'it returns false'. Refute it at one input. -/
def fnExactEvalCWrong : ChangeSpec := { name := "fnExactEvalC", fn := fun _ => fun
  | [d1, d2, d3, d4] => { results := [.lit (.bool false)], args := [d1, d2, d3, d4] }
  | _ => none }
def FnExactEvalCWrongFalsely : Prop := fnExactEvalCRow.holds Try.pinned (OpenSpec.ofChange fnExactEvalCWrong)

/-- 'laws.FnExactSimplify': WHATEVER THE INPUT: true; the input reads as it did. -/
def fnExactSimplifySpec : ChangeSpec := { name := "fnExactSimplify", fn := fun _ => fun
  | [d] => { results := [.lit (.bool true)], args := [d] }
  | _ => none }
def fnExactSimplifyRow : OpenClaim := { program := "ytfhgkgopbbmdjac", sum := "4506790564725cb600c9abde4f7f96744cfe3f0d601be33a0156f88564e6364a", func := "loop.example/s01725/laws.FnExactSimplify", spec := "fnExactSimplify", recurses := true, apart := false }
def FnExactSimplifySaid : Prop := fnExactSimplifyRow.holds Try.pinned (OpenSpec.ofChange fnExactSimplifySpec)

/-- ITS FALSE NEIGHBOUR: 'it returns false'. Refute it at one input. -/
def fnExactSimplifyWrong : ChangeSpec := { name := "fnExactSimplify", fn := fun _ => fun
  | [d] => { results := [.lit (.bool false)], args := [d] }
  | _ => none }
def FnExactSimplifyWrongFalsely : Prop := fnExactSimplifyRow.holds Try.pinned (OpenSpec.ofChange fnExactSimplifyWrong)

/-- 'laws.FnExactFrames': WHATEVER THE INPUT: true; the input reads as it did. -/
def fnExactFramesSpec : ChangeSpec := { name := "fnExactFrames", fn := fun _ => fun
  | [d] => { results := [.lit (.bool true)], args := [d] }
  | _ => none }
def fnExactFramesRow : OpenClaim := { program := "ytfhgkgopbbmdjac", sum := "4506790564725cb600c9abde4f7f96744cfe3f0d601be33a0156f88564e6364a", func := "loop.example/s01725/laws.FnExactFrames", spec := "fnExactFrames", recurses := true, apart := false }
def FnExactFramesSaid : Prop := fnExactFramesRow.holds Try.pinned (OpenSpec.ofChange fnExactFramesSpec)

/-- ITS FALSE NEIGHBOUR: 'it returns false'. Refute it at one input. -/
def fnExactFramesWrong : ChangeSpec := { name := "fnExactFrames", fn := fun _ => fun
  | [d] => { results := [.lit (.bool false)], args := [d] }
  | _ => none }
def FnExactFramesWrongFalsely : Prop := fnExactFramesRow.holds Try.pinned (OpenSpec.ofChange fnExactFramesWrong)

/-- 'laws.FnExactGen': WHATEVER THE INPUT: true; the input reads as it did. -/
def fnExactGenSpec : ChangeSpec := { name := "fnExactGen", fn := fun _ => fun
  | [d] => { results := [.lit (.bool true)], args := [d] }
  | _ => none }
def fnExactGenRow : OpenClaim := { program := "ytfhgkgopbbmdjac", sum := "4506790564725cb600c9abde4f7f96744cfe3f0d601be33a0156f88564e6364a", func := "loop.example/s01725/laws.FnExactGen", spec := "fnExactGen", recurses := true, apart := false }
def FnExactGenSaid : Prop := fnExactGenRow.holds Try.pinned (OpenSpec.ofChange fnExactGenSpec)

/-- ITS FALSE NEIGHBOUR: 'it returns false'. Refute it at one input. -/
def fnExactGenWrong : ChangeSpec := { name := "fnExactGen", fn := fun _ => fun
  | [d] => { results := [.lit (.bool false)], args := [d] }
  | _ => none }
def FnExactGenWrongFalsely : Prop := fnExactGenRow.holds Try.pinned (OpenSpec.ofChange fnExactGenWrong)

/- THE SECOND FORM. 'bulk': how many values and letters a reading holds, each counted each time it is reached (what is shared counts as often as it is met; a slice's spare places count too). A statement '..UptoSaid' is the law's where the arguments, and the package variables that the reading takes, are together of bulk at most 1048576: NARROWER than '..Said'. Prove '..Said' where nothing that the law and all that it calls make is longer than what came in: it says more and counts as full. Else prove '..UptoSaid'. A law counts once. -/
mutual
def uptoBulk {H : Type} : DataW H → Nat
  | .lit (.string bytes) => bytes.length + 1
  | .lit _ => 1
  | .nil => 1
  | .ptr d => uptoBulk d + 1
  | .slice elems spare => uptoBulkAll elems + uptoBulkAll spare + 1
  | .agg parts => uptoBulkAll parts + 1
  | .iface _ d => uptoBulk d + 1
  | .map entries => uptoBulkEntries entries + 1
  | .held _ => 1
def uptoBulkAll {H : Type} : List (DataW H) → Nat
  | [] => 0
  | d :: r => uptoBulk d + uptoBulkAll r
def uptoBulkEntries {H : Type} : List (Lit × DataW H) → Nat
  | [] => 0
  | x :: r => uptoBulkEntry x + uptoBulkEntries r
def uptoBulkEntry {H : Type} : Lit × DataW H → Nat
  | (.string bytes, d) => bytes.length + uptoBulk d + 1
  | (_, d) => uptoBulk d + 1
 end
def uptoSmall : (H : Type) → List (DataW H) → Bool := fun _ ds => decide (uptoBulkAll ds ≤ 1048576)
def OpenSpec.upto (s : _root_.Go.ChangeSpec) : _root_.Go.OpenSpec := { _root_.Go.OpenSpec.ofChange s with cond := some uptoSmall }

/-- 'laws.FnExactCalls', WHERE WHAT IT READS IS OF BULK AT MOST 1048576: true; the input reads as it did. -/
def fnExactCallsUptoRow : OpenClaim := { program := "ytfhgkgopbbmdjac", sum := "4506790564725cb600c9abde4f7f96744cfe3f0d601be33a0156f88564e6364a", func := "loop.example/s01725/laws.FnExactCalls", spec := "fnExactCalls", recurses := true, apart := false, narrowed := true }
def FnExactCallsUptoSaid : Prop := fnExactCallsUptoRow.holds Try.pinned (OpenSpec.upto fnExactCallsSpec)

/-- 'laws.FnExactApply', WHERE WHAT IT READS IS OF BULK AT MOST 1048576: true; the input reads as it did. -/
def fnExactApplyUptoRow : OpenClaim := { program := "ytfhgkgopbbmdjac", sum := "4506790564725cb600c9abde4f7f96744cfe3f0d601be33a0156f88564e6364a", func := "loop.example/s01725/laws.FnExactApply", spec := "fnExactApply", apart := false, narrowed := true }
def FnExactApplyUptoSaid : Prop := fnExactApplyUptoRow.holds Try.pinned (OpenSpec.upto fnExactApplySpec)

/-- 'laws.FnExactEvalC', WHERE WHAT IT READS IS OF BULK AT MOST 1048576: true; the input reads as it did. -/
def fnExactEvalCUptoRow : OpenClaim := { program := "ytfhgkgopbbmdjac", sum := "4506790564725cb600c9abde4f7f96744cfe3f0d601be33a0156f88564e6364a", func := "loop.example/s01725/laws.FnExactEvalC", spec := "fnExactEvalC", recurses := true, apart := false, narrowed := true }
def FnExactEvalCUptoSaid : Prop := fnExactEvalCUptoRow.holds Try.pinned (OpenSpec.upto fnExactEvalCSpec)

/-- 'laws.FnExactSimplify', WHERE WHAT IT READS IS OF BULK AT MOST 1048576: true; the input reads as it did. -/
def fnExactSimplifyUptoRow : OpenClaim := { program := "ytfhgkgopbbmdjac", sum := "4506790564725cb600c9abde4f7f96744cfe3f0d601be33a0156f88564e6364a", func := "loop.example/s01725/laws.FnExactSimplify", spec := "fnExactSimplify", recurses := true, apart := false, narrowed := true }
def FnExactSimplifyUptoSaid : Prop := fnExactSimplifyUptoRow.holds Try.pinned (OpenSpec.upto fnExactSimplifySpec)

/-- 'laws.FnExactFrames', WHERE WHAT IT READS IS OF BULK AT MOST 1048576: true; the input reads as it did. -/
def fnExactFramesUptoRow : OpenClaim := { program := "ytfhgkgopbbmdjac", sum := "4506790564725cb600c9abde4f7f96744cfe3f0d601be33a0156f88564e6364a", func := "loop.example/s01725/laws.FnExactFrames", spec := "fnExactFrames", recurses := true, apart := false, narrowed := true }
def FnExactFramesUptoSaid : Prop := fnExactFramesUptoRow.holds Try.pinned (OpenSpec.upto fnExactFramesSpec)

/-- 'laws.FnExactGen', WHERE WHAT IT READS IS OF BULK AT MOST 1048576: true; the input reads as it did. -/
def fnExactGenUptoRow : OpenClaim := { program := "ytfhgkgopbbmdjac", sum := "4506790564725cb600c9abde4f7f96744cfe3f0d601be33a0156f88564e6364a", func := "loop.example/s01725/laws.FnExactGen", spec := "fnExactGen", recurses := true, apart := false, narrowed := true }
def FnExactGenUptoSaid : Prop := fnExactGenUptoRow.holds Try.pinned (OpenSpec.upto fnExactGenSpec)

end Rows
end Go.Proofs.Ytfhgkgopbbmdjac
