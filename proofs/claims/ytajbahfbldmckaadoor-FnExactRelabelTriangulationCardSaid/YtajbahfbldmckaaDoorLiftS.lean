/- How a list of lists that is passed to a law is read; numbers' bounds. No condition. -/
import Derived.Test.YtajbahfbldmckaaDoorLiftP
namespace Go.Proofs.YtajbahfbldmckaaDoor
open Go.ChangeShapes Go.WideShapes Go.ChangeAt Go.RowKit Go.Joins Go.Deep

theorem wf_in {n : Int} (h : (Lit.int .i64 n).wf = true) : -9223372036854775808 ≤ n ∧ n ≤ 9223372036854775807 := by
  simp only [Lit.wf, Bool.and_eq_true, decide_eq_true_eq] at h
  exact h

end Go.Proofs.YtajbahfbldmckaaDoor
