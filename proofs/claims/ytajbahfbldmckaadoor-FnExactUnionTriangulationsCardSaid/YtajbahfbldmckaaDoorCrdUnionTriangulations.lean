/- The closed facts of the card of FnExactUnionTriangulations. No condition. -/
import Derived.Test.YtajbahfbldmckaaDoorLiftW
import Derived.Test.YtajbahfbldmckaaDoorCards
import Derived.SevenTiedAt
namespace Go.Proofs.YtajbahfbldmckaaDoor
open Go Go.ChangeShapes Go.WideShapes Go.ChangeAt Go.RowKit

set_option maxRecDepth 100000 in
theorem exactUnionTriangulations_wf : Rows.fnExactUnionTriangulationsRow.wfByText (OpenSpec.ofChange Rows.fnExactUnionTriangulationsSpec) = true := by kernel_rfl
set_option maxRecDepth 100000 in
theorem exactUnionTriangulations_main : Tryd.pinned.checked.prog.mainIs = some (Rows.fnExactUnionTriangulationsCard.stood.harness.1, Rows.fnExactUnionTriangulationsCard.stood.harness.2.toList) := by kernel_rfl
set_option maxRecDepth 100000 in
theorem exactUnionTriangulations_looks : Rows.fnExactUnionTriangulationsCard.stood.looks = Tryd.pinned.checked.prog.looks [] := by kernel_rfl
set_option maxRecDepth 100000 in
theorem exactUnionTriangulations_goes : false = Rows.fnExactUnionTriangulationsRow.goesBy Tryd.pinned.checked.prog := by kernel_rfl
set_option maxRecDepth 100000 in
theorem exactUnionTriangulations_named : Tryd.prog.funcNamed "loop.example/g00870/laws.FnExactUnionTriangulations" = some 7 := by kernel_rfl

end Go.Proofs.YtajbahfbldmckaaDoor
