/- The closed facts of the row of FnExactBoundaryClasses. No condition. -/
import Derived.Test.YtjendlfophdfeaaDoorLiftW
namespace Go.Proofs.YtjendlfophdfeaaDoor
open Go Go.ChangeShapes Go.WideShapes Go.ChangeAt Go.RowKit

set_option maxRecDepth 100000 in
set_option maxHeartbeats 8000000 in
theorem exactBoundaryClasses_facts : joinedFacts Tryd.pinned.checked.prog 13 Tryd.f13 Rows.fnExactBoundaryClassesSpec Rows.fnExactBoundaryClassesRow = true := by
  unfold joinedFacts
  repeat' with_reducible refine Bool.and_eq_true_iff.2 ⟨?_, ?_⟩
  all_goals as_aux_lemma => kernel_rfl

end Go.Proofs.YtjendlfophdfeaaDoor
