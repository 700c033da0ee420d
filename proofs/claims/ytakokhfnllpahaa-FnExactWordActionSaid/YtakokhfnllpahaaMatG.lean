/- Contracts of the functions that transpose a matrix, the program's and the specification's. No condition but those that each theorem names. -/
import Derived.Test.YtakokhfnllpahaaMatF
import Derived.Deep.RegionHeld3
import Derived.IntWalk
namespace Go.Proofs.Ytakokhfnllpahaa
open Go.RowKit

/-- The entries of the transposed matrix behind the first t stores. -/
def trs (R C : Nat) (zs : List Int) : Nat → List Int
  | 0 => List.replicate (C * R) 0
  | t + 1 => (trs R C zs t).set ((t % C) * R + t / C) (zs.getD t 0)
theorem trs_len (R C : Nat) (zs : List Int) (t : Nat) : (trs R C zs t).length = C * R := by
  induction t with
  | zero => simp [trs]
  | succ t ih => simp [trs, ih]
theorem trs_step {R C : Nat} (zs : List Int) {i j : Nat} (hj : j < C) : trs R C zs (i * C + j + 1) = (trs R C zs (i * C + j)).set (j * R + i) (zs.getD (i * C + j) 0) := by
  rw [trs]
  have h1 : (i * C + j) % C = j := by rw [Nat.add_comm, Nat.add_mul_mod_self_right, Nat.mod_eq_of_lt hj]
  have h2 : (i * C + j) / C = i := by rw [Nat.add_comm, Nat.add_mul_div_right _ _ (by omega), Nat.div_eq_of_lt hj, Nat.zero_add]
  rw [h1, h2]
theorem rc_le {R C : Nat} (h : R ≤ 48) (h' : C ≤ 48) : R * C ≤ 2304 := Nat.mul_le_mul h h'
theorem ij_lt {R C i j : Nat} (hi : i < R) (hj : j < C) : i * C + j < R * C := by
  have h1 : (i + 1) * C ≤ R * C := Nat.mul_le_mul_right C hi
  rw [Nat.add_mul] at h1
  omega
theorem castM (i C : Nat) : (i : Int) * (C : Int) = ((i * C : Nat) : Int) := by simp
theorem castI (i C j : Nat) : (i : Int) * (C : Int) + (j : Int) = ((i * C + j : Nat) : Int) := by simp

end Go.Proofs.Ytakokhfnllpahaa
