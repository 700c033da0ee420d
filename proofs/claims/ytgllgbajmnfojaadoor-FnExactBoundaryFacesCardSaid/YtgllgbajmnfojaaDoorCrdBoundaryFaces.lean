/- The closed facts of the card of FnExactBoundaryFaces. No condition. -/
import Derived.Test.YtgllgbajmnfojaaDoorLiftW
import Derived.Test.YtgllgbajmnfojaaDoorCards
import Derived.SevenTiedAt
namespace Go.Proofs.YtgllgbajmnfojaaDoor
open Go Go.ChangeShapes Go.WideShapes Go.ChangeAt Go.RowKit

set_option maxRecDepth 100000 in
theorem exactBoundaryFaces_wf : Rows.fnExactBoundaryFacesRow.wfByText (OpenSpec.ofChange Rows.fnExactBoundaryFacesSpec) = true := by kernel_rfl
set_option maxRecDepth 100000 in
theorem exactBoundaryFaces_main : Tryd.pinned.checked.prog.mainIs = some (Rows.fnExactBoundaryFacesCard.stood.harness.1, Rows.fnExactBoundaryFacesCard.stood.harness.2.toList) := by kernel_rfl
set_option maxRecDepth 100000 in
theorem exactBoundaryFaces_looks : Rows.fnExactBoundaryFacesCard.stood.looks = Tryd.pinned.checked.prog.looks [] := by kernel_rfl
set_option maxRecDepth 100000 in
theorem exactBoundaryFaces_goes : false = Rows.fnExactBoundaryFacesRow.goesBy Tryd.pinned.checked.prog := by kernel_rfl
set_option maxRecDepth 100000 in
theorem exactBoundaryFaces_named : Tryd.prog.funcNamed "loop.example/g00870/laws.FnExactBoundaryFaces" = some 5 := by kernel_rfl

end Go.Proofs.YtgllgbajmnfojaaDoor
