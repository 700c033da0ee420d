/- From the cards' condition to the walks' facts on the table and on the boundary's face. No condition but those that each theorem names. -/
import Derived.Test.YtjendlfophdfeaaDoorPfL
namespace Go.Proofs.YtjendlfophdfeaaDoor
open Go Go.ChangeShapes Go.WideShapes Go.ChangeAt Go.RowKit
namespace Fc

/-- The variable that holds what describes a boundary face. -/
def Bf (W : World) : Prop := W.cell? ⟨0, 0, none⟩ = some (.int .i64 (-1)) ∧ W.cell? ⟨0, 1, none⟩ = some (.int .i64 0)
theorem Bf.below {W W' : World} {B : Nat} (h : Bf W) (hb : Below B W W') (hB : 0 < B) : Bf W' := ⟨(hb.cell (p := ⟨0, 0, none⟩) hB).trans h.1, (hb.cell (p := ⟨0, 1, none⟩) hB).trans h.2⟩
/-- Both variables. -/
def Vs (W : World) : Prop := Tb W ∧ Bf W
theorem Vs.pos {W : World} (h : Vs W) : 1 < W.heap.size ∧ 0 < W.heap.size := ⟨h.1.pos, World.block_lt_of_cell? W ⟨0, 0, none⟩ h.2.1⟩
theorem Vs.below {W W' : World} {B : Nat} (h : Vs W) (hb : Below B W W') (hB : 1 < B) : Vs W' := ⟨h.1.below hb (by omega), h.2.below hb (by omega)⟩

end Fc
end Go.Proofs.YtjendlfophdfeaaDoor
