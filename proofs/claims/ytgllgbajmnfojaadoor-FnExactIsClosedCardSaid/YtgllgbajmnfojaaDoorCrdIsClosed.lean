/- The closed facts of the card of FnExactIsClosed. No condition. -/
import Derived.Test.YtgllgbajmnfojaaDoorLiftW
import Derived.Test.YtgllgbajmnfojaaDoorCards
import Derived.SevenTiedAt
namespace Go.Proofs.YtgllgbajmnfojaaDoor
open Go Go.ChangeShapes Go.WideShapes Go.ChangeAt Go.RowKit

set_option maxRecDepth 100000 in
theorem exactIsClosed_wf : Rows.fnExactIsClosedRow.wfByText (OpenSpec.ofChange Rows.fnExactIsClosedSpec) = true := by kernel_rfl
set_option maxRecDepth 100000 in
theorem exactIsClosed_main : Tryd.pinned.checked.prog.mainIs = some (Rows.fnExactIsClosedCard.stood.harness.1, Rows.fnExactIsClosedCard.stood.harness.2.toList) := by kernel_rfl
set_option maxRecDepth 100000 in
theorem exactIsClosed_looks : Rows.fnExactIsClosedCard.stood.looks = Tryd.pinned.checked.prog.looks [] := by kernel_rfl
set_option maxRecDepth 100000 in
theorem exactIsClosed_goes : false = Rows.fnExactIsClosedRow.goesBy Tryd.pinned.checked.prog := by kernel_rfl
set_option maxRecDepth 100000 in
theorem exactIsClosed_named : Tryd.prog.funcNamed "loop.example/g00870/laws.FnExactIsClosed" = some 4 := by kernel_rfl

end Go.Proofs.YtgllgbajmnfojaaDoor
