/- Contracts of the two functions that say whether a matrix is valid, the program's and the specification's. No condition but those that each theorem names. -/
import Derived.Test.YtjendlfophdfeaaDoorMatB
namespace Go.Proofs.YtjendlfophdfeaaDoor
open Go.RowKit

def MOk (r q : Int) (zs : List Int) : Prop :=
  0 ≤ r ∧ r ≤ 48 ∧ 0 ≤ q ∧ q ≤ 48 ∧ (zs.length : Int) = r * q ∧ ∀ i, i < zs.length → -1000000000000 ≤ zs.getD i 0 ∧ zs.getD i 0 ≤ 1000000000000
def SaysB (P : Prop) (B : Nat) (w : World) (e : Ending) (w' : World) : Prop := ∃ b, e = .returned (.bool b) ∧ (b = true ↔ P) ∧ Below B w w'
theorem SaysB.yes {P : Prop} {B : Nat} {w : World} {e : Ending} {w' : World} (h : SaysB P B w e w') (hP : P) : e = .returned (.bool true) ∧ Below B w w' := by
  obtain ⟨b, rfl, hb, hw⟩ := h
  exact ⟨by rw [hb.2 hP], hw⟩
theorem SaysB.no {P : Prop} {B : Nat} {w : World} {e : Ending} {w' : World} (h : SaysB P B w e w') (hP : ¬ P) : e = .returned (.bool false) ∧ Below B w w' := by
  obtain ⟨b, rfl, hb, hw⟩ := h
  cases b
  · exact ⟨rfl, hw⟩
  · exact absurd (hb.1 rfl) hP
theorem rq_lo {r q : Int} (h : 0 ≤ r) (h' : 0 ≤ q) : 0 ≤ r * q := Int.mul_nonneg h h'
theorem rq_hi {r q : Int} (_h : 0 ≤ r) (h2 : r ≤ 48) (h' : 0 ≤ q) (h3 : q ≤ 48) : r * q ≤ 2304 := by
  have := Int.mul_le_mul h2 h3 h' (by omega : (0:Int) ≤ 48); omega

/-- All of the first k numbers lie within the limit. -/
def Within (zs : List Int) (k : Nat) : Prop := ∀ i, i < k → -1000000000000 ≤ zs.getD i 0 ∧ zs.getD i 0 ≤ 1000000000000

theorem within_succ {zs : List Int} {k : Nat} (h : Within zs k) (hk : -1000000000000 ≤ zs.getD k 0 ∧ zs.getD k 0 ≤ 1000000000000) : Within zs (k + 1) := fun i hi => by
  by_cases e : i = k
  · subst e; exact hk
  · exact h i (by omega)

end Go.Proofs.YtjendlfophdfeaaDoor
