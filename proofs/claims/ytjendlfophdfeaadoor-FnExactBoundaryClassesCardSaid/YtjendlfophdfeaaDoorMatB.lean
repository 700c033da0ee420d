/- Contracts of the functions that copy, compare, mark and check matrices. No condition but those that each theorem names. -/
import Derived.Test.YtjendlfophdfeaaDoorMatA
import Derived.Deep.AppendLies
import Derived.Lib.SmallJoins
namespace Go.Proofs.YtjendlfophdfeaaDoor
open Go.RowKit

theorem bcell {W w1 : World} (hb : Below W.heap.size W w1) : (∀ b o, b < W.heap.size → w1.cell? ⟨b, o, none⟩ = W.cell? ⟨b, o, none⟩) ∧ (∀ b o, b < W.heap.size → w1.frozen? ⟨b, o, none⟩ = W.frozen? ⟨b, o, none⟩) :=
  ⟨fun b o h => hb.cell (p := ⟨b, o, none⟩) h, fun b o h => hb.frozen (p := ⟨b, o, none⟩) h⟩

theorem Ints.into {w W : World} {A : Option Addr} {n : Nat} {zs : List Int} (h : Ints w w.heap.size A n zs) (hb : Below w.heap.size w W) : Ints W W.heap.size A n zs := (h.below hb).more hb.size
theorem al1 (w : World) (o1 : Obj) : Below w.heap.size w (w.alloc o1) := (Below.refl _ _).alloc (Nat.le_refl _) o1
theorem al2 (w : World) (o1 o2 : Obj) : Below w.heap.size w ((w.alloc o1).alloc o2) := (al1 w o1).alloc (by simp) o2
theorem al3 (w : World) (o1 o2 o3 : Obj) : Below w.heap.size w (((w.alloc o1).alloc o2).alloc o3) := (al2 w o1 o2).alloc (by simp; omega) o3
theorem al4 (w : World) (o1 o2 o3 o4 : Obj) : Below w.heap.size w ((((w.alloc o1).alloc o2).alloc o3).alloc o4) := (al3 w o1 o2 o3).alloc (by simp; omega) o4
theorem on1 {w W : World} (o1 : Obj) (h : Below (w.alloc o1).heap.size (w.alloc o1) W) : Below w.heap.size w W := (al1 w o1).trans (h.mono (by simp))
theorem on2 {w W : World} (o1 o2 : Obj) (h : Below ((w.alloc o1).alloc o2).heap.size ((w.alloc o1).alloc o2) W) : Below w.heap.size w W := (al2 w o1 o2).trans (h.mono (by simp; omega))
theorem on3 {w W : World} (o1 o2 o3 : Obj) (h : Below (((w.alloc o1).alloc o2).alloc o3).heap.size (((w.alloc o1).alloc o2).alloc o3) W) : Below w.heap.size w W := (al3 w o1 o2 o3).trans (h.mono (by simp; omega))

/-- What 'toMatrix' hands back: a copy in new memory. -/
def MadeM (w : World) (r q : Int) (n : Nat) (zs : List Int) (e : Ending) (w' : World) : Prop :=
  ∃ g, e = .returned (.agg #[.int .i64 r, .int .i64 q, .slice (some ⟨g, 0, none⟩) n n]) ∧ Blk w' g zs ∧ w.heap.size ≤ g ∧ Below w.heap.size w w'

end Go.Proofs.YtjendlfophdfeaaDoor
