/- Contracts of the laws' helpers over a number and a list: sizes, copies, comparisons, marks. No condition but those that each theorem names. -/
import Derived.Test.YtjendlfophdfeaaDoorMatE
import Derived.Lib.SmallJoins
namespace Go.Proofs.YtjendlfophdfeaaDoor
open Go.RowKit

/-- A struct's two cells. -/
def BoxG (w : World) (g : Nat) (x y : Value) : Prop := w.cell? ⟨g, 0, none⟩ = some x ∧ w.cell? ⟨g, 1, none⟩ = some y
theorem BoxG.below {w w' : World} {g : Nat} {x y : Value} {B : Nat} (h : BoxG w g x y) (hb : Below B w w') (hg : g < B) : BoxG w' g x y :=
  ⟨(hb.cell (p := ⟨g, 0, none⟩) hg).trans h.1, (hb.cell (p := ⟨g, 1, none⟩) hg).trans h.2⟩
theorem BoxG.new (w : World) (t : TypeId) (x y : Value) : BoxG (w.alloc (.cells #[x, y] t)) w.heap.size x y := by
  refine ⟨?_, ?_⟩ <;> simp [go_sem]
theorem BoxG.kept {w w' : World} {lo hi g : Nat} {x y : Value} (h : BoxG w g x y) (hk : Kept lo hi w w') (hg : g < w.heap.size) (hn : ¬ (lo ≤ g ∧ g < hi)) : BoxG w' g x y :=
  ⟨(World.cell?_of_block (a := ⟨g, 0, none⟩) (hk.block g hg hn)).trans h.1, (World.cell?_of_block (a := ⟨g, 1, none⟩) (hk.block g hg hn)).trans h.2⟩
/-- What a copy of a number and a list hands back: the list in new memory. -/
def MadeG (w : World) (r : Int) (n : Nat) (zs : List Int) (e : Ending) (w' : World) : Prop :=
  ∃ g, e = .returned (.agg #[.int .i64 r, .slice (some ⟨g, 0, none⟩) n n]) ∧ Blk w' g zs ∧ w.heap.size ≤ g ∧ Below w.heap.size w w'

end Go.Proofs.YtjendlfophdfeaaDoor
