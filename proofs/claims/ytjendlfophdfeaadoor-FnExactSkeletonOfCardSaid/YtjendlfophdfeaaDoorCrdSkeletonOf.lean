/- The closed facts of the card of FnExactSkeletonOf. No condition. -/
import Derived.Test.YtjendlfophdfeaaDoorLiftW
import Derived.Test.YtjendlfophdfeaaDoorCards
import Derived.SevenTiedAt
namespace Go.Proofs.YtjendlfophdfeaaDoor
open Go Go.ChangeShapes Go.WideShapes Go.ChangeAt Go.RowKit

set_option maxRecDepth 100000 in
theorem exactSkeletonOf_wf : Rows.fnExactSkeletonOfRow.wfByText (OpenSpec.ofChange Rows.fnExactSkeletonOfSpec) = true := by kernel_rfl
set_option maxRecDepth 100000 in
theorem exactSkeletonOf_main : Tryd.pinned.checked.prog.mainIs = some (Rows.fnExactSkeletonOfCard.stood.harness.1, Rows.fnExactSkeletonOfCard.stood.harness.2.toList) := by kernel_rfl
set_option maxRecDepth 100000 in
theorem exactSkeletonOf_looks : Rows.fnExactSkeletonOfCard.stood.looks = Tryd.pinned.checked.prog.looks [] := by kernel_rfl
set_option maxRecDepth 100000 in
theorem exactSkeletonOf_goes : false = Rows.fnExactSkeletonOfRow.goesBy Tryd.pinned.checked.prog := by kernel_rfl
set_option maxRecDepth 100000 in
theorem exactSkeletonOf_named : Tryd.prog.funcNamed "loop.example/g00870/laws.FnExactSkeletonOf" = some 7 := by kernel_rfl

end Go.Proofs.YtjendlfophdfeaaDoor
