/- Contracts of the functions below the product of two matrices, the program's: absolute values, a row times a column. No condition but those that each theorem names. -/
import Derived.Test.YtakokhfnllpahaaMatG
namespace Go.Proofs.Ytakokhfnllpahaa
open Go.RowKit

/-- The absolute value. -/
def mg (x : Int) : Int := (x.natAbs : Int)
theorem mg_nonneg (x : Int) : 0 ≤ mg x := by unfold mg; omega
theorem mg_of_neg {x : Int} (h : x < 0) : -x = mg x := by unfold mg; omega
theorem mg_of_nonneg {x : Int} (h : ¬ x < 0) : x = mg x := by unfold mg; omega
theorem mg_pos {x : Int} (h : x ≠ 0) : 1 ≤ mg x := by unfold mg; omega
theorem mg_le {x b : Int} (h : -b ≤ x ∧ x ≤ b) : mg x ≤ b := by unfold mg; omega
theorem mg_ge {x b : Int} (h : mg x ≤ b) : -b ≤ x ∧ x ≤ b := by unfold mg at h; omega
theorem mg_mul (x y : Int) : mg (x * y) = mg x * mg y := by unfold mg; rw [Int.natAbs_mul]; simp
theorem mg_zero : mg 0 = 0 := rfl

/-- The sum of the first k products of row i and column j, and of their absolute values. -/
def dotS (K C : Nat) (zs ys : List Int) (i j : Nat) : Nat → Int
  | 0 => 0
  | k + 1 => dotS K C zs ys i j k + zs.getD (i * K + k) 0 * ys.getD (k * C + j) 0
def dotM (K C : Nat) (zs ys : List Int) (i j : Nat) : Nat → Int
  | 0 => 0
  | k + 1 => dotM K C zs ys i j k + mg (zs.getD (i * K + k) 0 * ys.getD (k * C + j) 0)
theorem dotM_nonneg (K C : Nat) (zs ys : List Int) (i j k : Nat) : 0 ≤ dotM K C zs ys i j k := by
  induction k with
  | zero => simp [dotM]
  | succ k ih => rw [dotM]; have := mg_nonneg (zs.getD (i * K + k) 0 * ys.getD (k * C + j) 0); omega
theorem dotM_mono (K C : Nat) (zs ys : List Int) (i j : Nat) {k l : Nat} (h : k ≤ l) : dotM K C zs ys i j k ≤ dotM K C zs ys i j l := by
  induction l with
  | zero => have : k = 0 := by omega
            subst this; omega
  | succ l ih =>
    by_cases e : k = l + 1
    · subst e; omega
    · have := ih (by omega)
      rw [dotM]
      have := mg_nonneg (zs.getD (i * K + l) 0 * ys.getD (l * C + j) 0)
      omega
theorem dotS_le (K C : Nat) (zs ys : List Int) (i j k : Nat) : mg (dotS K C zs ys i j k) ≤ dotM K C zs ys i j k := by
  induction k with
  | zero => simp [dotM, dotS, mg]
  | succ k ih =>
    rw [dotM, dotS]
    unfold mg at ih ⊢
    omega
theorem div_lt_mul {l m y : Int} (hm : 1 ≤ m) (h : l / m < y) : l < m * y := by
  have := (Int.le_ediv_iff_mul_le (a := y) (b := l) (c := m) (by omega))
  rw [Int.mul_comm]
  by_cases e : l < y * m
  · exact e
  · have := this.2 (by omega); omega
theorem le_div_mul {l m y : Int} (hm : 1 ≤ m) (h : ¬ l / m < y) : m * y ≤ l := by
  have := (Int.le_ediv_iff_mul_le (a := y) (b := l) (c := m) (by omega)).1 (by omega)
  rw [Int.mul_comm]; exact this

set_option maxHeartbeats 400000 in
theorem mag_impl (x b : Int) (w : World) (h0 : -b ≤ x) (_h1 : x ≤ b) (hb : b ≤ 4611686018427387904) : Calls Try.prog 118 #[.int .i64 x] w fun e w' => e = .returned (.int .i64 (mg x)) ∧ w = w' := by
  by_cases h : x < 0
  · rw [← mg_of_neg h]
    go_enter Try.func118, Try.ntmps118
    go_wp2
    go_ret
    exact ⟨rfl, rfl⟩
  · rw [← mg_of_nonneg h]
    go_enter Try.func118, Try.ntmps118
    go_wp2
    go_ret
    exact ⟨rfl, rfl⟩

def RtcSays (w : World) (s m : Int) (e : Ending) (w' : World) : Prop :=
  (m ≤ 1000000000000 → e = .returned (.tuple #[.int .i64 s, .bool true])) ∧ (¬ m ≤ 1000000000000 → e = .returned (.tuple #[.int .i64 0, .bool false])) ∧ Below w.heap.size w w'

end Go.Proofs.Ytakokhfnllpahaa
