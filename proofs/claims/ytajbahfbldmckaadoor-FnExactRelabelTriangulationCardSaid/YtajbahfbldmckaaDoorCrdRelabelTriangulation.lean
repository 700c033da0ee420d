/- The closed facts of the card of FnExactRelabelTriangulation. No condition. -/
import Derived.Test.YtajbahfbldmckaaDoorLiftW
import Derived.Test.YtajbahfbldmckaaDoorCards
import Derived.SevenTiedAt
namespace Go.Proofs.YtajbahfbldmckaaDoor
open Go Go.ChangeShapes Go.WideShapes Go.ChangeAt Go.RowKit

set_option maxRecDepth 100000 in
theorem exactRelabelTriangulation_wf : Rows.fnExactRelabelTriangulationRow.wfByText (OpenSpec.ofChange Rows.fnExactRelabelTriangulationSpec) = true := by kernel_rfl
set_option maxRecDepth 100000 in
theorem exactRelabelTriangulation_main : Tryd.pinned.checked.prog.mainIs = some (Rows.fnExactRelabelTriangulationCard.stood.harness.1, Rows.fnExactRelabelTriangulationCard.stood.harness.2.toList) := by kernel_rfl
set_option maxRecDepth 100000 in
theorem exactRelabelTriangulation_looks : Rows.fnExactRelabelTriangulationCard.stood.looks = Tryd.pinned.checked.prog.looks [] := by kernel_rfl
set_option maxRecDepth 100000 in
theorem exactRelabelTriangulation_goes : false = Rows.fnExactRelabelTriangulationRow.goesBy Tryd.pinned.checked.prog := by kernel_rfl
set_option maxRecDepth 100000 in
theorem exactRelabelTriangulation_named : Tryd.prog.funcNamed "loop.example/g00870/laws.FnExactRelabelTriangulation" = some 8 := by kernel_rfl

end Go.Proofs.YtajbahfbldmckaaDoor
