/- The closed facts of the card of FnExactGlueFaces. No condition. -/
import Derived.Test.YtajbahfbldmckaaDoorLiftW
import Derived.Test.YtajbahfbldmckaaDoorCards
import Derived.SevenTiedAt
namespace Go.Proofs.YtajbahfbldmckaaDoor
open Go Go.ChangeShapes Go.WideShapes Go.ChangeAt Go.RowKit

set_option maxRecDepth 100000 in
theorem exactGlueFaces_wf : Rows.fnExactGlueFacesRow.wfByText (OpenSpec.ofChange Rows.fnExactGlueFacesSpec) = true := by kernel_rfl
set_option maxRecDepth 100000 in
theorem exactGlueFaces_main : Tryd.pinned.checked.prog.mainIs = some (Rows.fnExactGlueFacesCard.stood.harness.1, Rows.fnExactGlueFacesCard.stood.harness.2.toList) := by kernel_rfl
set_option maxRecDepth 100000 in
theorem exactGlueFaces_looks : Rows.fnExactGlueFacesCard.stood.looks = Tryd.pinned.checked.prog.looks [] := by kernel_rfl
set_option maxRecDepth 100000 in
theorem exactGlueFaces_goes : false = Rows.fnExactGlueFacesRow.goesBy Tryd.pinned.checked.prog := by kernel_rfl
set_option maxRecDepth 100000 in
theorem exactGlueFaces_named : Tryd.prog.funcNamed "loop.example/g00870/laws.FnExactGlueFaces" = some 4 := by kernel_rfl

end Go.Proofs.YtajbahfbldmckaaDoor
