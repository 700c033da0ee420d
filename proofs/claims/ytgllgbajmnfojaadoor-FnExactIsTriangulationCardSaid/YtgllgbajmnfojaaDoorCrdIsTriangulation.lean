/- The closed facts of the card of FnExactIsTriangulation. No condition. -/
import Derived.Test.YtgllgbajmnfojaaDoorLiftW
import Derived.Test.YtgllgbajmnfojaaDoorCards
import Derived.SevenTiedAt
namespace Go.Proofs.YtgllgbajmnfojaaDoor
open Go Go.ChangeShapes Go.WideShapes Go.ChangeAt Go.RowKit

set_option maxRecDepth 100000 in
theorem exactIsTriangulation_wf : Rows.fnExactIsTriangulationRow.wfByText (OpenSpec.ofChange Rows.fnExactIsTriangulationSpec) = true := by kernel_rfl
set_option maxRecDepth 100000 in
theorem exactIsTriangulation_main : Tryd.pinned.checked.prog.mainIs = some (Rows.fnExactIsTriangulationCard.stood.harness.1, Rows.fnExactIsTriangulationCard.stood.harness.2.toList) := by kernel_rfl
set_option maxRecDepth 100000 in
theorem exactIsTriangulation_looks : Rows.fnExactIsTriangulationCard.stood.looks = Tryd.pinned.checked.prog.looks [] := by kernel_rfl
set_option maxRecDepth 100000 in
theorem exactIsTriangulation_goes : false = Rows.fnExactIsTriangulationRow.goesBy Tryd.pinned.checked.prog := by kernel_rfl
set_option maxRecDepth 100000 in
theorem exactIsTriangulation_named : Tryd.prog.funcNamed "loop.example/g00870/laws.FnExactIsTriangulation" = some 3 := by kernel_rfl

end Go.Proofs.YtgllgbajmnfojaaDoor
