/- The test of a triangulation on both sides, as the laws' walks take it. No condition but those that each theorem names. -/
import Derived.Test.YtjendlfophdfeaaDoorFcJ
import Derived.Test.YtjendlfophdfeaaDoorFcK
namespace Go.Proofs.YtjendlfophdfeaaDoor
open Go.RowKit
namespace Fc

theorem isTri_spec (A : Option Addr) (c : Nat) (rs : List Rw) (w : World) (h : RdS w w.heap.size A rs) (hn : rs.length ≤ 1048576) :
    Calls Tryd.prog 33 #[.agg #[.slice A rs.length c]] w fun e w' => e = .returned (.bool (decide (Tr.Is (vals rs)))) ∧ Below w.heap.size w w' := isTri_specT A rs.length c (vals rs) w h.rdt hn
theorem isTri_impl (A : Option Addr) (c : Nat) (rs : List Rw) (w : World) (h : RdS w w.heap.size A rs) (hn : rs.length ≤ 1048576) (hv : Vs w) :
    Calls Tryd.prog 31 #[.agg #[.slice A rs.length c]] w fun e w' => e = .returned (.bool (decide (Tr.Is (vals rs)))) ∧ Below w.heap.size w w' := isTri_implT A rs.length c (vals rs) w h.rdt hv hn

end Fc
end Go.Proofs.YtjendlfophdfeaaDoor
