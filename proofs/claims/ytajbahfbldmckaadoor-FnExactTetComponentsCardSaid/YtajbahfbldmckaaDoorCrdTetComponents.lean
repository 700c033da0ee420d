/- The closed facts of the card of FnExactTetComponents. No condition. -/
import Derived.Test.YtajbahfbldmckaaDoorLiftW
import Derived.Test.YtajbahfbldmckaaDoorCards
import Derived.SevenTiedAt
namespace Go.Proofs.YtajbahfbldmckaaDoor
open Go Go.ChangeShapes Go.WideShapes Go.ChangeAt Go.RowKit

set_option maxRecDepth 100000 in
theorem exactTetComponents_wf : Rows.fnExactTetComponentsRow.wfByText (OpenSpec.ofChange Rows.fnExactTetComponentsSpec) = true := by kernel_rfl
set_option maxRecDepth 100000 in
theorem exactTetComponents_main : Tryd.pinned.checked.prog.mainIs = some (Rows.fnExactTetComponentsCard.stood.harness.1, Rows.fnExactTetComponentsCard.stood.harness.2.toList) := by kernel_rfl
set_option maxRecDepth 100000 in
theorem exactTetComponents_looks : Rows.fnExactTetComponentsCard.stood.looks = Tryd.pinned.checked.prog.looks [] := by kernel_rfl
set_option maxRecDepth 100000 in
theorem exactTetComponents_goes : false = Rows.fnExactTetComponentsRow.goesBy Tryd.pinned.checked.prog := by kernel_rfl
set_option maxRecDepth 100000 in
theorem exactTetComponents_named : Tryd.prog.funcNamed "loop.example/g00870/laws.FnExactTetComponents" = some 6 := by kernel_rfl

end Go.Proofs.YtajbahfbldmckaaDoor
