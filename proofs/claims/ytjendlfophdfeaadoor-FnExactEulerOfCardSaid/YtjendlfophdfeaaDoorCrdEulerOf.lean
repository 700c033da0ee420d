/- The closed facts of the card of FnExactEulerOf. No condition. -/
import Derived.Test.YtjendlfophdfeaaDoorLiftW
import Derived.Test.YtjendlfophdfeaaDoorCards
import Derived.SevenTiedAt
namespace Go.Proofs.YtjendlfophdfeaaDoor
open Go Go.ChangeShapes Go.WideShapes Go.ChangeAt Go.RowKit

set_option maxRecDepth 100000 in
theorem exactEulerOf_wf : Rows.fnExactEulerOfRow.wfByText (OpenSpec.ofChange Rows.fnExactEulerOfSpec) = true := by kernel_rfl
set_option maxRecDepth 100000 in
theorem exactEulerOf_main : Tryd.pinned.checked.prog.mainIs = some (Rows.fnExactEulerOfCard.stood.harness.1, Rows.fnExactEulerOfCard.stood.harness.2.toList) := by kernel_rfl
set_option maxRecDepth 100000 in
theorem exactEulerOf_looks : Rows.fnExactEulerOfCard.stood.looks = Tryd.pinned.checked.prog.looks [] := by kernel_rfl
set_option maxRecDepth 100000 in
theorem exactEulerOf_goes : false = Rows.fnExactEulerOfRow.goesBy Tryd.pinned.checked.prog := by kernel_rfl
set_option maxRecDepth 100000 in
theorem exactEulerOf_named : Tryd.prog.funcNamed "loop.example/g00870/laws.FnExactEulerOf" = some 9 := by kernel_rfl

end Go.Proofs.YtjendlfophdfeaaDoor
