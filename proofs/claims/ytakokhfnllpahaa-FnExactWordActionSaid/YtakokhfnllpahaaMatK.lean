/- The product of two matrices: its entries, and the program's contract. No condition but those that each theorem names. -/
import Derived.Test.YtakokhfnllpahaaMatJ
namespace Go.Proofs.Ytakokhfnllpahaa
open Go.RowKit

/-- The entries of the product behind the first t stores. -/
def pl (K C : Nat) (zs ys : List Int) (N : Nat) : Nat → List Int
  | 0 => List.replicate N 0
  | t + 1 => (pl K C zs ys N t).set t (dotS K C zs ys (t / C) (t % C) K)
theorem pl_len (K C : Nat) (zs ys : List Int) (N t : Nat) : (pl K C zs ys N t).length = N := by
  induction t with
  | zero => simp [pl]
  | succ t ih => simp [pl, ih]
theorem ij_idx {C i j : Nat} (hj : j < C) : (i * C + j) % C = j ∧ (i * C + j) / C = i :=
  ⟨by rw [Nat.add_comm, Nat.add_mul_mod_self_right, Nat.mod_eq_of_lt hj], by rw [Nat.add_comm, Nat.add_mul_div_right _ _ (by omega), Nat.div_eq_of_lt hj, Nat.zero_add]⟩
theorem pl_step {K C : Nat} (zs ys : List Int) (N : Nat) {i j : Nat} (hj : j < C) : pl K C zs ys N (i * C + j + 1) = (pl K C zs ys N (i * C + j)).set (i * C + j) (dotS K C zs ys i j K) := by
  rw [pl, (ij_idx hj).1, (ij_idx hj).2]
/-- The first t entries stay within the limit. -/
def Fits (K C : Nat) (zs ys : List Int) (t : Nat) : Prop := ∀ u, u < t → dotM K C zs ys (u / C) (u % C) K ≤ 1000000000000
theorem fits_step {K C : Nat} {zs ys : List Int} {i j : Nat} (hj : j < C) (h : Fits K C zs ys (i * C + j)) (hm : dotM K C zs ys i j K ≤ 1000000000000) : Fits K C zs ys (i * C + j + 1) := fun u hu => by
  by_cases e : u = i * C + j
  · subst e; rw [(ij_idx hj).1, (ij_idx hj).2]; exact hm
  · exact h u (by omega)
theorem fits_not {K C R : Nat} {zs ys : List Int} {i j : Nat} (hi : i < R) (hj : j < C) (hm : ¬ dotM K C zs ys i j K ≤ 1000000000000) : ¬ Fits K C zs ys (R * C) := fun h => hm (by
  have := h (i * C + j) (ij_lt hi hj)
  rw [(ij_idx hj).1, (ij_idx hj).2] at this
  exact this)
def MulSays (w : World) (R K C : Nat) (zs ys : List Int) (e : Ending) (w' : World) : Prop :=
  (Fits K C zs ys (R * C) → ResM w R C (pl K C zs ys (R * C) (R * C)) (.int .i64 0) e w') ∧ (¬ Fits K C zs ys (R * C) → ResM w 0 0 [] (.int .i64 3) e w')

end Go.Proofs.Ytakokhfnllpahaa
