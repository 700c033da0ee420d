/- Contracts of the two functions that say whether a group is valid. No condition but those that each theorem names. -/
import Derived.Test.YtpkjjcfcpmcdiaaGrpA
import Derived.Deep.RegionHeld3
namespace Go.Proofs.Ytpkjjcfcpmcdiaa
open Go.RowKit

/-- Each of the first k numbers but the first is divided by the one before it; 0 divides 0 alone. -/
def Chain (ts : List Int) (k : Nat) : Prop := ∀ i, 0 < i → i < k → (ts.getD (i - 1) 0 = 0 → ts.getD i 0 = 0) ∧ (ts.getD (i - 1) 0 ≠ 0 → (ts.getD i 0).tmod (ts.getD (i - 1) 0) = 0)
def InTor (ts : List Int) (k : Nat) : Prop := ∀ i, i < k → 2 ≤ ts.getD i 0 ∧ ts.getD i 0 ≤ 1000000000000
def AOk (r : Int) (ts : List Int) : Prop := 0 ≤ r ∧ r ≤ 48 ∧ ts.length ≤ 48 ∧ InTor ts ts.length ∧ Chain ts ts.length
theorem Chain.succ {ts : List Int} {k : Nat} (h : Chain ts k) (hk : 0 < k → (ts.getD (k - 1) 0 = 0 → ts.getD k 0 = 0) ∧ (ts.getD (k - 1) 0 ≠ 0 → (ts.getD k 0).tmod (ts.getD (k - 1) 0) = 0)) : Chain ts (k + 1) := fun i h0 h1 => by
  by_cases e : i = k
  · subst e; exact hk h0
  · exact h i h0 (by omega)
theorem InTor.succ {ts : List Int} {k : Nat} (h : InTor ts k) (hk : 2 ≤ ts.getD k 0 ∧ ts.getD k 0 ≤ 1000000000000) : InTor ts (k + 1) := fun i hi => by
  by_cases e : i = k
  · subst e; exact hk
  · exact h i (by omega)
theorem tmod_facts {x y : Int} (hx : -1000000000000 ≤ x ∧ x ≤ 1000000000000) (_hy : y ≠ 0) : wrap64 (x.tmod y) = x.tmod y ∧ IntKind.i64.wrap (x.tmod y) = x.tmod y := by
  have h1 := Int.mul_tdiv_add_tmod x y
  have h2 : (x.tmod y).natAbs ≤ x.natAbs := by rw [Int.natAbs_tmod]; exact Nat.mod_le _ _
  have h3 : -1000000000000 ≤ x.tmod y ∧ x.tmod y ≤ 1000000000000 := by omega
  exact ⟨IntWalk.wrap64_in _ ⟨by omega, by omega⟩, IntWalk.i64_in _ (by omega)⟩

end Go.Proofs.Ytpkjjcfcpmcdiaa
