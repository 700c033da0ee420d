/- Contracts of the functions that make matrices of zeros, store one entry, and make identity matrices, the program's and the specification's. No condition but those that each theorem names. -/
import Derived.Test.YtakokhfnllpahaaMatE
namespace Go.Proofs.Ytakokhfnllpahaa
open Go.RowKit

/-- A matrix in new memory, with a second result beside it. -/
def ResM (w : World) (r q : Int) (zs : List Int) (x : Value) (e : Ending) (w' : World) : Prop :=
  ∃ A c, e = .returned (.tuple #[.agg #[.int .i64 r, .int .i64 q, .slice A zs.length c], x]) ∧ Own w' w.heap.size w'.heap.size A zs.length c zs ∧ Below w.heap.size w w'
/-- A matrix of N zeros in new memory: its block is g. -/
def ZeroM (w : World) (r q : Int) (N : Nat) (e : Ending) (w' : World) : Prop :=
  ∃ g, e = .returned (.agg #[.int .i64 r, .int .i64 q, .slice (some ⟨g, 0, none⟩) N N]) ∧ Blk w' g (List.replicate N 0) ∧ w.heap.size ≤ g ∧ g < w'.heap.size ∧ Below w.heap.size w w'

/-- The entries of an identity matrix behind the first i stores. -/
def ones (N : Nat) : Nat → List Int
  | 0 => List.replicate (N * N) 0
  | i + 1 => (ones N i).set (i * N + i) 1
theorem ones_len (N i : Nat) : (ones N i).length = N * N := by
  induction i with
  | zero => simp [ones]
  | succ i ih => simp [ones, ih]
theorem sq_le {N : Nat} (h : N ≤ 48) : N * N ≤ 2304 := Nat.mul_le_mul h h
theorem diag_lt {N i : Nat} (h : i < N) : i * N + i < N * N := by
  have h1 : (i + 1) * N ≤ N * N := Nat.mul_le_mul_right N h
  rw [Nat.add_mul] at h1
  omega

/-- A matrix in new memory. -/
def ResS (w : World) (r q : Int) (zs : List Int) (e : Ending) (w' : World) : Prop :=
  ∃ A c, e = .returned (.agg #[.int .i64 r, .int .i64 q, .slice A zs.length c]) ∧ Own w' w.heap.size w'.heap.size A zs.length c zs ∧ Below w.heap.size w w'

end Go.Proofs.Ytakokhfnllpahaa
