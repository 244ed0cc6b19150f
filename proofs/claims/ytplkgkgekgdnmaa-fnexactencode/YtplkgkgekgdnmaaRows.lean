/-
  No cell of these rows narrows 'for every input' (looked for: loops, veiled, ifaces, maps, wideKeys, modest, calm, conditions, laid).
  DERIVED. THE GIVEN ROWS OF THIS SEAT. 6 by the template 'for every input the law returns true; each argument reads behind the call as it read before'; 0 by the template 'total and deterministic' (their statements: YtplkgkgekgdnmaaTotals.lean).
  GIVEN WITH THE SEED: the statements are not yours to turn. If you find one false, say at which input.
  Laid BY PROGRAM, IN A SANDBOX (cutbox-rows.mjs): the forced cells as the released guide's own fill.sh prints them over the translation df058f0ff649d9fe… (all of the seat's roots in one cut). By AI agents, Wed Nov 11 2026. No macro, syntax, notation, axiom, sorry.
-/
import Derived.Test.YtplkgkgekgdnmaaChecked
import GoSem.Claim
import GoSem.ClaimJoined
import GoSem.ClaimMapViews
import Derived.JoinedTies
import Derived.KernelRfl
namespace Go.Proofs.Ytplkgkgekgdnmaa
/- THE CELL 'sum', in the pinned program and in every row, IS THE sha256 OF THE DUMP (.gsa) THAT YtplkgkgekgdnmaaProg.lean LOADS. Nothing in Lean hashes anything: it is a label: what it is worth is what the hold of that sum in a sandbox is worth. -/
noncomputable def Try.pinned : Pinned := { name := "ytplkgkgekgdnmaa", sum := "df058f0ff649d9fea7704a45d48623d29a4491d73b2cd9cb64fc522960cad1b6", checked := Try.checked }
namespace Rows
def none {H : Type} : Left H := { results := [], args := [] }

/-- 'laws.FnExactValidInst': WHATEVER THE INPUT: true; the input reads as it did. -/
def fnExactValidInstSpec : ChangeSpec := { name := "fnExactValidInst", fn := fun _ => fun
  | [d] => { results := [.lit (.bool true)], args := [d] }
  | _ => none }
def fnExactValidInstRow : OpenClaim := { program := "ytplkgkgekgdnmaa", sum := "df058f0ff649d9fea7704a45d48623d29a4491d73b2cd9cb64fc522960cad1b6", func := "loop.example/s01725/laws.FnExactValidInst", spec := "fnExactValidInst", unfollowed := true, recurses := true, apart := false }
def FnExactValidInstSaid : Prop := fnExactValidInstRow.holds Try.pinned (OpenSpec.ofChange fnExactValidInstSpec)

/-- ITS FALSE NEIGHBOUR: 'it returns false'. Refute it at one input. -/
def fnExactValidInstWrong : ChangeSpec := { name := "fnExactValidInst", fn := fun _ => fun
  | [d] => { results := [.lit (.bool false)], args := [d] }
  | _ => none }
def FnExactValidInstWrongFalsely : Prop := fnExactValidInstRow.holds Try.pinned (OpenSpec.ofChange fnExactValidInstWrong)

/-- 'laws.FnExactEncode': WHATEVER THE INPUT: true; the input reads as it did. -/
def fnExactEncodeSpec : ChangeSpec := { name := "fnExactEncode", fn := fun _ => fun
  | [d] => { results := [.lit (.bool true)], args := [d] }
  | _ => none }
def fnExactEncodeRow : OpenClaim := { program := "ytplkgkgekgdnmaa", sum := "df058f0ff649d9fea7704a45d48623d29a4491d73b2cd9cb64fc522960cad1b6", func := "loop.example/s01725/laws.FnExactEncode", spec := "fnExactEncode", unfollowed := true, recurses := true, apart := false }
def FnExactEncodeSaid : Prop := fnExactEncodeRow.holds Try.pinned (OpenSpec.ofChange fnExactEncodeSpec)

/-- ITS FALSE NEIGHBOUR: 'it returns false'. Refute it at one input. -/
def fnExactEncodeWrong : ChangeSpec := { name := "fnExactEncode", fn := fun _ => fun
  | [d] => { results := [.lit (.bool false)], args := [d] }
  | _ => none }
def FnExactEncodeWrongFalsely : Prop := fnExactEncodeRow.holds Try.pinned (OpenSpec.ofChange fnExactEncodeWrong)

/-- 'laws.FnExactDecode': WHATEVER THE INPUT: true; the input reads as it did. -/
def fnExactDecodeSpec : ChangeSpec := { name := "fnExactDecode", fn := fun _ => fun
  | [d] => { results := [.lit (.bool true)], args := [d] }
  | _ => none }
def fnExactDecodeRow : OpenClaim := { program := "ytplkgkgekgdnmaa", sum := "df058f0ff649d9fea7704a45d48623d29a4491d73b2cd9cb64fc522960cad1b6", func := "loop.example/s01725/laws.FnExactDecode", spec := "fnExactDecode", unfollowed := true, recurses := true, apart := false }
def FnExactDecodeSaid : Prop := fnExactDecodeRow.holds Try.pinned (OpenSpec.ofChange fnExactDecodeSpec)

/-- ITS FALSE NEIGHBOUR: 'it returns false'. Refute it at one input. -/
def fnExactDecodeWrong : ChangeSpec := { name := "fnExactDecode", fn := fun _ => fun
  | [d] => { results := [.lit (.bool false)], args := [d] }
  | _ => none }
def FnExactDecodeWrongFalsely : Prop := fnExactDecodeRow.holds Try.pinned (OpenSpec.ofChange fnExactDecodeWrong)

/-- 'laws.FnExactValidImage': WHATEVER THE INPUT: true; the input reads as it did. -/
def fnExactValidImageSpec : ChangeSpec := { name := "fnExactValidImage", fn := fun _ => fun
  | [d] => { results := [.lit (.bool true)], args := [d] }
  | _ => none }
def fnExactValidImageRow : OpenClaim := { program := "ytplkgkgekgdnmaa", sum := "df058f0ff649d9fea7704a45d48623d29a4491d73b2cd9cb64fc522960cad1b6", func := "loop.example/s01725/laws.FnExactValidImage", spec := "fnExactValidImage", apart := false }
def FnExactValidImageSaid : Prop := fnExactValidImageRow.holds Try.pinned (OpenSpec.ofChange fnExactValidImageSpec)

/-- ITS FALSE NEIGHBOUR: 'it returns false'. Refute it at one input. -/
def fnExactValidImageWrong : ChangeSpec := { name := "fnExactValidImage", fn := fun _ => fun
  | [d] => { results := [.lit (.bool false)], args := [d] }
  | _ => none }
def FnExactValidImageWrongFalsely : Prop := fnExactValidImageRow.holds Try.pinned (OpenSpec.ofChange fnExactValidImageWrong)

/-- 'laws.FnExactBoot': WHATEVER THE INPUT: true; the input reads as it did. -/
def fnExactBootSpec : ChangeSpec := { name := "fnExactBoot", fn := fun _ => fun
  | [d1, d2] => { results := [.lit (.bool true)], args := [d1, d2] }
  | _ => none }
def fnExactBootRow : OpenClaim := { program := "ytplkgkgekgdnmaa", sum := "df058f0ff649d9fea7704a45d48623d29a4491d73b2cd9cb64fc522960cad1b6", func := "loop.example/s01725/laws.FnExactBoot", spec := "fnExactBoot", apart := false }
def FnExactBootSaid : Prop := fnExactBootRow.holds Try.pinned (OpenSpec.ofChange fnExactBootSpec)

/-- ITS FALSE NEIGHBOUR: 'it returns false'. Refute it at one input. -/
def fnExactBootWrong : ChangeSpec := { name := "fnExactBoot", fn := fun _ => fun
  | [d1, d2] => { results := [.lit (.bool false)], args := [d1, d2] }
  | _ => none }
def FnExactBootWrongFalsely : Prop := fnExactBootRow.holds Try.pinned (OpenSpec.ofChange fnExactBootWrong)

/-- 'laws.FnExactRunCpu': WHATEVER THE INPUT: true; the input reads as it did. -/
def fnExactRunCpuSpec : ChangeSpec := { name := "fnExactRunCpu", fn := fun _ => fun
  | [d1, d2, d3] => { results := [.lit (.bool true)], args := [d1, d2, d3] }
  | _ => none }
def fnExactRunCpuRow : OpenClaim := { program := "ytplkgkgekgdnmaa", sum := "df058f0ff649d9fea7704a45d48623d29a4491d73b2cd9cb64fc522960cad1b6", func := "loop.example/s01725/laws.FnExactRunCpu", spec := "fnExactRunCpu", unfollowed := true, recurses := true, apart := false }
def FnExactRunCpuSaid : Prop := fnExactRunCpuRow.holds Try.pinned (OpenSpec.ofChange fnExactRunCpuSpec)

/-- ITS FALSE NEIGHBOUR: 'it returns false'. Refute it at one input. -/
def fnExactRunCpuWrong : ChangeSpec := { name := "fnExactRunCpu", fn := fun _ => fun
  | [d1, d2, d3] => { results := [.lit (.bool false)], args := [d1, d2, d3] }
  | _ => none }
def FnExactRunCpuWrongFalsely : Prop := fnExactRunCpuRow.holds Try.pinned (OpenSpec.ofChange fnExactRunCpuWrong)

/- THE SECOND FORM. 'bulk': how many values and letters a reading holds, each counted each time it is reached (what is shared counts as often as it is met; a slice's spare places count too). A statement '..UptoSaid' is the law's where the arguments, and the package variables that the reading takes, are together of bulk at most 1048576: NARROWER than '..Said'. Prove '..Said' where nothing that the law and all that it calls make is longer than what came in: it says more and counts as full. Else prove '..UptoSaid'. A law counts once. -/
mutual
def uptoBulk {H : Type} : DataW H → Nat
  | .lit (.string bytes) => bytes.length + 1
  | .lit _ => 1
  | .nil => 1
  | .ptr d => uptoBulk d + 1
  | .slice elems spare => uptoBulkAll elems + uptoBulkAll spare + 1
  | .agg parts => uptoBulkAll parts + 1
  | .iface _ d => uptoBulk d + 1
  | .map entries => uptoBulkEntries entries + 1
  | .held _ => 1
def uptoBulkAll {H : Type} : List (DataW H) → Nat
  | [] => 0
  | d :: r => uptoBulk d + uptoBulkAll r
def uptoBulkEntries {H : Type} : List (Lit × DataW H) → Nat
  | [] => 0
  | x :: r => uptoBulkEntry x + uptoBulkEntries r
def uptoBulkEntry {H : Type} : Lit × DataW H → Nat
  | (.string bytes, d) => bytes.length + uptoBulk d + 1
  | (_, d) => uptoBulk d + 1
 end
def uptoSmall : (H : Type) → List (DataW H) → Bool := fun _ ds => decide (uptoBulkAll ds ≤ 1048576)
def OpenSpec.upto (s : _root_.Go.ChangeSpec) : _root_.Go.OpenSpec := { _root_.Go.OpenSpec.ofChange s with cond := some uptoSmall }

/-- 'laws.FnExactValidInst', WHERE WHAT IT READS IS OF BULK AT MOST 1048576: true; the input reads as it did. -/
def fnExactValidInstUptoRow : OpenClaim := { program := "ytplkgkgekgdnmaa", sum := "df058f0ff649d9fea7704a45d48623d29a4491d73b2cd9cb64fc522960cad1b6", func := "loop.example/s01725/laws.FnExactValidInst", spec := "fnExactValidInst", unfollowed := true, recurses := true, apart := false, narrowed := true }
def FnExactValidInstUptoSaid : Prop := fnExactValidInstUptoRow.holds Try.pinned (OpenSpec.upto fnExactValidInstSpec)

/-- 'laws.FnExactEncode', WHERE WHAT IT READS IS OF BULK AT MOST 1048576: true; the input reads as it did. -/
def fnExactEncodeUptoRow : OpenClaim := { program := "ytplkgkgekgdnmaa", sum := "df058f0ff649d9fea7704a45d48623d29a4491d73b2cd9cb64fc522960cad1b6", func := "loop.example/s01725/laws.FnExactEncode", spec := "fnExactEncode", unfollowed := true, recurses := true, apart := false, narrowed := true }
def FnExactEncodeUptoSaid : Prop := fnExactEncodeUptoRow.holds Try.pinned (OpenSpec.upto fnExactEncodeSpec)

/-- 'laws.FnExactDecode', WHERE WHAT IT READS IS OF BULK AT MOST 1048576: true; the input reads as it did. -/
def fnExactDecodeUptoRow : OpenClaim := { program := "ytplkgkgekgdnmaa", sum := "df058f0ff649d9fea7704a45d48623d29a4491d73b2cd9cb64fc522960cad1b6", func := "loop.example/s01725/laws.FnExactDecode", spec := "fnExactDecode", unfollowed := true, recurses := true, apart := false, narrowed := true }
def FnExactDecodeUptoSaid : Prop := fnExactDecodeUptoRow.holds Try.pinned (OpenSpec.upto fnExactDecodeSpec)

/-- 'laws.FnExactValidImage', WHERE WHAT IT READS IS OF BULK AT MOST 1048576: true; the input reads as it did. -/
def fnExactValidImageUptoRow : OpenClaim := { program := "ytplkgkgekgdnmaa", sum := "df058f0ff649d9fea7704a45d48623d29a4491d73b2cd9cb64fc522960cad1b6", func := "loop.example/s01725/laws.FnExactValidImage", spec := "fnExactValidImage", apart := false, narrowed := true }
def FnExactValidImageUptoSaid : Prop := fnExactValidImageUptoRow.holds Try.pinned (OpenSpec.upto fnExactValidImageSpec)

/-- 'laws.FnExactBoot', WHERE WHAT IT READS IS OF BULK AT MOST 1048576: true; the input reads as it did. -/
def fnExactBootUptoRow : OpenClaim := { program := "ytplkgkgekgdnmaa", sum := "df058f0ff649d9fea7704a45d48623d29a4491d73b2cd9cb64fc522960cad1b6", func := "loop.example/s01725/laws.FnExactBoot", spec := "fnExactBoot", apart := false, narrowed := true }
def FnExactBootUptoSaid : Prop := fnExactBootUptoRow.holds Try.pinned (OpenSpec.upto fnExactBootSpec)

/-- 'laws.FnExactRunCpu', WHERE WHAT IT READS IS OF BULK AT MOST 1048576: true; the input reads as it did. -/
def fnExactRunCpuUptoRow : OpenClaim := { program := "ytplkgkgekgdnmaa", sum := "df058f0ff649d9fea7704a45d48623d29a4491d73b2cd9cb64fc522960cad1b6", func := "loop.example/s01725/laws.FnExactRunCpu", spec := "fnExactRunCpu", unfollowed := true, recurses := true, apart := false, narrowed := true }
def FnExactRunCpuUptoSaid : Prop := fnExactRunCpuUptoRow.holds Try.pinned (OpenSpec.upto fnExactRunCpuSpec)

end Rows
end Go.Proofs.Ytplkgkgekgdnmaa
