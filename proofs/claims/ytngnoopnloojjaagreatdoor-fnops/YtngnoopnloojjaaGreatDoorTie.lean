/-
  DERIVED. GIVEN WITH THE SEED: THE PROGRAM's TIES (one call each: nine closed facts by the kernel) AND EACH ROW's TIE, after the 31st guide's Derived/Test/Toyas{Tie, Card}.lean. No idea stands in it: it is a product of the set-up. Laid BY PROGRAM, IN A SANDBOX (cutbox-door.mjs). By AI agents, Wed Nov 11 2026. No macro, syntax, notation, axiom, sorry.
-/
import Derived.Test.YtngnoopnloojjaaGreatDoorRows
import Derived.LaidByTextLater
import Derived.SevenTiedAt
import Derived.LaidSub
import Derived.LaidOnce
namespace Go.Proofs.YtngnoopnloojjaaGreatDoor
open Go
set_option maxRecDepth 100000
theorem seatTie1 : Tryz.prog.laidByTextLater [("math/bits.deBruijn32tab", Rows.laid_math_bits_deBruijn32tab), ("math/bits.deBruijn64tab", Rows.laid_math_bits_deBruijn64tab), ("internal/strconv.uint64pow10", Rows.laid_internal_strconv_uint64pow10), ("errors.errorType", Rows.laid_errors_errorType), ("strconv.ErrRange", Rows.laid_strconv_ErrRange), ("strconv.ErrSyntax", Rows.laid_strconv_ErrSyntax), ("loop.example/s01725/impl.nodeRules", Rows.laid_loop_example_s01725_impl_nodeRules), ("loop.example/s01725/impl.stmtRules", Rows.laid_loop_example_s01725_impl_stmtRules), ("loop.example/s01725/impl.binaries", Rows.laid_loop_example_s01725_impl_binaries), ("loop.example/s01725/impl.placeRegs", Rows.laid_loop_example_s01725_impl_placeRegs), ("loop.example/s01725/impl.binaryOps", Rows.laid_loop_example_s01725_impl_binaryOps)] [.data, .data, .data, .handle, .sentinel, .sentinel, .data, .data, .data, .data, .data] true :=
  Program.laidByTextLater_by_one 129 8 73 (by kernel_rfl) (by kernel_rfl) (by kernel_rfl) (by kernel_rfl) (by kernel_rfl) (by kernel_rfl) (fun _ _ => by kernel_rfl)
theorem noOwnUnsafe : Tryz.pinned.checked.prog.headLifts.contains "ownunsafe" = false := by kernel_rfl
theorem tie : Tryz.prog.laidByTextLater [("math/bits.deBruijn32tab", Rows.laid_math_bits_deBruijn32tab), ("math/bits.deBruijn64tab", Rows.laid_math_bits_deBruijn64tab), ("internal/strconv.uint64pow10", Rows.laid_internal_strconv_uint64pow10), ("errors.errorType", Rows.laid_errors_errorType), ("strconv.ErrRange", Rows.laid_strconv_ErrRange), ("strconv.ErrSyntax", Rows.laid_strconv_ErrSyntax), ("loop.example/s01725/impl.nodeRules", Rows.laid_loop_example_s01725_impl_nodeRules), ("loop.example/s01725/impl.stmtRules", Rows.laid_loop_example_s01725_impl_stmtRules), ("loop.example/s01725/impl.binaries", Rows.laid_loop_example_s01725_impl_binaries), ("loop.example/s01725/impl.placeRegs", Rows.laid_loop_example_s01725_impl_placeRegs), ("loop.example/s01725/impl.binaryOps", Rows.laid_loop_example_s01725_impl_binaryOps)] [.data, .data, .data, .handle, .sentinel, .sentinel, .data, .data, .data, .data, .data] true :=
  Program.laidByTextLater.sub seatTie1 ["math/bits.deBruijn32tab", "math/bits.deBruijn64tab", "internal/strconv.uint64pow10", "errors.errorType", "strconv.ErrRange", "strconv.ErrSyntax", "loop.example/s01725/impl.nodeRules", "loop.example/s01725/impl.stmtRules", "loop.example/s01725/impl.binaries", "loop.example/s01725/impl.placeRegs", "loop.example/s01725/impl.binaryOps"] (by kernel_rfl) (by kernel_rfl)
theorem fnOps_row_tie : Rows.fnOpsRow.laidByTextAt .later Tryz.pinned [.data, .data, .data, .handle, .sentinel, .sentinel, .data, .data, .data, .data, .data] true :=
  OpenClaim.laidByTextAt_later rfl rfl tie noOwnUnsafe
theorem fnOpsUpto_row_tie : Rows.fnOpsUptoRow.laidByTextAt .later Tryz.pinned [.data, .data, .data, .handle, .sentinel, .sentinel, .data, .data, .data, .data, .data] true :=
  OpenClaim.laidByTextAt_later rfl rfl tie noOwnUnsafe
end Go.Proofs.YtngnoopnloojjaaGreatDoor
