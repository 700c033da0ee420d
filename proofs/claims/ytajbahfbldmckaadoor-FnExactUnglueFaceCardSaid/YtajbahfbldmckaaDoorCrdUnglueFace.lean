/- The closed facts of the card of FnExactUnglueFace. No condition. -/
import Derived.Test.YtajbahfbldmckaaDoorLiftW
import Derived.Test.YtajbahfbldmckaaDoorCards
import Derived.SevenTiedAt
namespace Go.Proofs.YtajbahfbldmckaaDoor
open Go Go.ChangeShapes Go.WideShapes Go.ChangeAt Go.RowKit

set_option maxRecDepth 100000 in
theorem exactUnglueFace_wf : Rows.fnExactUnglueFaceRow.wfByText (OpenSpec.ofChange Rows.fnExactUnglueFaceSpec) = true := by kernel_rfl
set_option maxRecDepth 100000 in
theorem exactUnglueFace_main : Tryd.pinned.checked.prog.mainIs = some (Rows.fnExactUnglueFaceCard.stood.harness.1, Rows.fnExactUnglueFaceCard.stood.harness.2.toList) := by kernel_rfl
set_option maxRecDepth 100000 in
theorem exactUnglueFace_looks : Rows.fnExactUnglueFaceCard.stood.looks = Tryd.pinned.checked.prog.looks [] := by kernel_rfl
set_option maxRecDepth 100000 in
theorem exactUnglueFace_goes : false = Rows.fnExactUnglueFaceRow.goesBy Tryd.pinned.checked.prog := by kernel_rfl
set_option maxRecDepth 100000 in
theorem exactUnglueFace_named : Tryd.prog.funcNamed "loop.example/g00870/laws.FnExactUnglueFace" = some 5 := by kernel_rfl

end Go.Proofs.YtajbahfbldmckaaDoor
