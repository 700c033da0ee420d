/- The closed facts of the card of FnExactEdgeEnds. No condition. -/
import Derived.Test.YtajbahfbldmckaaDoorLiftW
import Derived.Test.YtajbahfbldmckaaDoorCards
import Derived.SevenTiedAt
namespace Go.Proofs.YtajbahfbldmckaaDoor
open Go Go.ChangeShapes Go.WideShapes Go.ChangeAt Go.RowKit

set_option maxRecDepth 100000 in
theorem exactEdgeEnds_wf : Rows.fnExactEdgeEndsRow.wfByText (OpenSpec.ofChange Rows.fnExactEdgeEndsSpec) = true := by kernel_rfl
set_option maxRecDepth 100000 in
theorem exactEdgeEnds_main : Tryd.pinned.checked.prog.mainIs = some (Rows.fnExactEdgeEndsCard.stood.harness.1, Rows.fnExactEdgeEndsCard.stood.harness.2.toList) := by kernel_rfl
set_option maxRecDepth 100000 in
theorem exactEdgeEnds_looks : Rows.fnExactEdgeEndsCard.stood.looks = Tryd.pinned.checked.prog.looks [] := by kernel_rfl
set_option maxRecDepth 100000 in
theorem exactEdgeEnds_goes : false = Rows.fnExactEdgeEndsRow.goesBy Tryd.pinned.checked.prog := by kernel_rfl
set_option maxRecDepth 100000 in
theorem exactEdgeEnds_named : Tryd.prog.funcNamed "loop.example/g00870/laws.FnExactEdgeEnds" = some 11 := by kernel_rfl

end Go.Proofs.YtajbahfbldmckaaDoor
