/- The closed facts of the card of FnExactEdgeBetween. No condition. -/
import Derived.Test.YtajbahfbldmckaaDoorLiftW
import Derived.Test.YtajbahfbldmckaaDoorCards
import Derived.SevenTiedAt
namespace Go.Proofs.YtajbahfbldmckaaDoor
open Go Go.ChangeShapes Go.WideShapes Go.ChangeAt Go.RowKit

set_option maxRecDepth 100000 in
theorem exactEdgeBetween_wf : Rows.fnExactEdgeBetweenRow.wfByText (OpenSpec.ofChange Rows.fnExactEdgeBetweenSpec) = true := by kernel_rfl
set_option maxRecDepth 100000 in
theorem exactEdgeBetween_main : Tryd.pinned.checked.prog.mainIs = some (Rows.fnExactEdgeBetweenCard.stood.harness.1, Rows.fnExactEdgeBetweenCard.stood.harness.2.toList) := by kernel_rfl
set_option maxRecDepth 100000 in
theorem exactEdgeBetween_looks : Rows.fnExactEdgeBetweenCard.stood.looks = Tryd.pinned.checked.prog.looks [] := by kernel_rfl
set_option maxRecDepth 100000 in
theorem exactEdgeBetween_goes : false = Rows.fnExactEdgeBetweenRow.goesBy Tryd.pinned.checked.prog := by kernel_rfl
set_option maxRecDepth 100000 in
theorem exactEdgeBetween_named : Tryd.prog.funcNamed "loop.example/g00870/laws.FnExactEdgeBetween" = some 12 := by kernel_rfl

end Go.Proofs.YtajbahfbldmckaaDoor
