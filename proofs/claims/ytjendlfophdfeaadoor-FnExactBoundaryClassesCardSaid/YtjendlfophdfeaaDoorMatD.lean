/- Contracts of the functions that read one entry of a matrix, the program's and the specification's. No condition but those that each theorem names. -/
import Derived.Test.YtjendlfophdfeaaDoorMatC
namespace Go.Proofs.YtjendlfophdfeaaDoor
open Go.RowKit

def Box3 (w : World) (g : Nat) (x y z : Value) : Prop := w.cell? ⟨g, 0, none⟩ = some x ∧ w.cell? ⟨g, 1, none⟩ = some y ∧ w.cell? ⟨g, 2, none⟩ = some z
theorem Box3.below {w w' : World} {g : Nat} {x y z : Value} {B : Nat} (h : Box3 w g x y z) (hb : Below B w w') (hg : g < B) : Box3 w' g x y z :=
  ⟨(hb.cell (p := ⟨g, 0, none⟩) hg).trans h.1, (hb.cell (p := ⟨g, 1, none⟩) hg).trans h.2.1, (hb.cell (p := ⟨g, 2, none⟩) hg).trans h.2.2⟩
theorem Box3.new (w : World) (t : TypeId) (x y z : Value) : Box3 (w.alloc (.cells #[x, y, z] t)) w.heap.size x y z := by
  refine ⟨?_, ?_, ?_⟩ <;> simp [go_sem]
theorem undrew {w w' : World} (h : Below w.drew.heap.size w.drew w') : Below w.heap.size w w' := ((Below.refl _ _).drew).trans h

section
variable (r q : Int) (A : Option Addr) (n c : Nat) (zs : List Int) (w : World) (h : Ints w w.heap.size A n zs) (hn : n ≤ 1048576)
include h hn
end

/-- What 'EntryAt' answers. -/
def EntryIs (r q : Int) (zs : List Int) (i j : Int) (x : Int) (b : Bool) : Prop :=
  ((MOk r q zs ∧ 0 ≤ i ∧ i < r ∧ 0 ≤ j ∧ j < q) → x = zs.getD (i * q + j).toNat 0 ∧ b = true) ∧ (¬ (MOk r q zs ∧ 0 ≤ i ∧ i < r ∧ 0 ≤ j ∧ j < q) → x = 0 ∧ b = false)
theorem EntryIs.same {r q : Int} {zs : List Int} {i j x y : Int} {b d : Bool} (h : EntryIs r q zs i j x b) (h' : EntryIs r q zs i j y d) : x = y ∧ b = d := by
  by_cases c : MOk r q zs ∧ 0 ≤ i ∧ i < r ∧ 0 ≤ j ∧ j < q
  · exact ⟨(h.1 c).1.trans (h'.1 c).1.symm, (h.1 c).2.trans (h'.1 c).2.symm⟩
  · exact ⟨(h.2 c).1.trans (h'.2 c).1.symm, (h.2 c).2.trans (h'.2 c).2.symm⟩
def SaysE (r q : Int) (zs : List Int) (i j : Int) (w : World) (e : Ending) (w' : World) : Prop :=
  ∃ x b, e = .returned (.tuple #[.int .i64 x, .bool b]) ∧ EntryIs r q zs i j x b ∧ Below w.heap.size w w'

theorem iq_le {i q r : Int} (_h : 0 ≤ i) (h1 : i < r) (h2 : 0 ≤ q) : i * q + q ≤ r * q := by
  have : (i + 1) * q ≤ r * q := Int.mul_le_mul_of_nonneg_right (by omega) h2
  rw [Int.add_mul] at this
  omega

end Go.Proofs.YtjendlfophdfeaaDoor
