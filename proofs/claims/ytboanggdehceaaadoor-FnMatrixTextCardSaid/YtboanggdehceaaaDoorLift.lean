/- How a matrix that is passed to a law is read: its two numbers and its list. No condition. -/
import Derived.Test.YtboanggdehceaaaDoorMatC
import Derived.OpenShut
import Derived.ShutString
import Derived.ChangeOld
namespace Go.Proofs.YtboanggdehceaaaDoor
open Go.ChangeShapes Go.WideShapes Go.ChangeAt Go.RowKit Go.Joins

theorem own : ownKnob Tryd.prog.godebug = none := by kernel_rfl
theorem laidOut : laidOutB Tryd.prog = true := by kernel_rfl
end Go.Proofs.YtboanggdehceaaaDoor
