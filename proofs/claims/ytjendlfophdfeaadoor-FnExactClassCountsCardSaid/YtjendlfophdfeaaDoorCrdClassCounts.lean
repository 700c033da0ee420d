/- The closed facts of the card of FnExactClassCounts. No condition. -/
import Derived.Test.YtjendlfophdfeaaDoorLiftW
import Derived.Test.YtjendlfophdfeaaDoorCards
import Derived.SevenTiedAt
namespace Go.Proofs.YtjendlfophdfeaaDoor
open Go Go.ChangeShapes Go.WideShapes Go.ChangeAt Go.RowKit

set_option maxRecDepth 100000 in
theorem exactClassCounts_wf : Rows.fnExactClassCountsRow.wfByText (OpenSpec.ofChange Rows.fnExactClassCountsSpec) = true := by kernel_rfl
set_option maxRecDepth 100000 in
theorem exactClassCounts_main : Tryd.pinned.checked.prog.mainIs = some (Rows.fnExactClassCountsCard.stood.harness.1, Rows.fnExactClassCountsCard.stood.harness.2.toList) := by kernel_rfl
set_option maxRecDepth 100000 in
theorem exactClassCounts_looks : Rows.fnExactClassCountsCard.stood.looks = Tryd.pinned.checked.prog.looks [] := by kernel_rfl
set_option maxRecDepth 100000 in
theorem exactClassCounts_goes : false = Rows.fnExactClassCountsRow.goesBy Tryd.pinned.checked.prog := by kernel_rfl
set_option maxRecDepth 100000 in
theorem exactClassCounts_named : Tryd.prog.funcNamed "loop.example/g00870/laws.FnExactClassCounts" = some 8 := by kernel_rfl

end Go.Proofs.YtjendlfophdfeaaDoor
