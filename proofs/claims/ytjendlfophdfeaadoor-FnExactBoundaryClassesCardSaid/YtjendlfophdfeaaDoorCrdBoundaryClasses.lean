/- The closed facts of the card of FnExactBoundaryClasses. No condition. -/
import Derived.Test.YtjendlfophdfeaaDoorLiftW
import Derived.Test.YtjendlfophdfeaaDoorCards
import Derived.SevenTiedAt
namespace Go.Proofs.YtjendlfophdfeaaDoor
open Go Go.ChangeShapes Go.WideShapes Go.ChangeAt Go.RowKit

set_option maxRecDepth 100000 in
theorem exactBoundaryClasses_wf : Rows.fnExactBoundaryClassesRow.wfByText (OpenSpec.ofChange Rows.fnExactBoundaryClassesSpec) = true := by kernel_rfl
set_option maxRecDepth 100000 in
theorem exactBoundaryClasses_main : Tryd.pinned.checked.prog.mainIs = some (Rows.fnExactBoundaryClassesCard.stood.harness.1, Rows.fnExactBoundaryClassesCard.stood.harness.2.toList) := by kernel_rfl
set_option maxRecDepth 100000 in
theorem exactBoundaryClasses_looks : Rows.fnExactBoundaryClassesCard.stood.looks = Tryd.pinned.checked.prog.looks [] := by kernel_rfl
set_option maxRecDepth 100000 in
theorem exactBoundaryClasses_goes : false = Rows.fnExactBoundaryClassesRow.goesBy Tryd.pinned.checked.prog := by kernel_rfl
set_option maxRecDepth 100000 in
theorem exactBoundaryClasses_named : Tryd.prog.funcNamed "loop.example/g00870/laws.FnExactBoundaryClasses" = some 13 := by kernel_rfl

end Go.Proofs.YtjendlfophdfeaaDoor
