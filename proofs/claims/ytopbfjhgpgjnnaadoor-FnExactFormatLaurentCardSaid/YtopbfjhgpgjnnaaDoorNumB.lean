/- The text of a matrix, by the specification. No condition but those that each theorem names. -/
import Derived.Test.YtopbfjhgpgjnnaaDoorMatD
import Derived.Test.YtopbfjhgpgjnnaaDoorNumA
import Derived.Deep.RegionHeld3
namespace Go.Proofs.YtopbfjhgpgjnnaaDoor
open Go.RowKit

/-- A text and, for each of the first k numbers, a blank and the number. -/
def blanked (h : List UInt8) (zs : List Int) : Nat → List UInt8
  | 0 => h
  | k + 1 => blanked h zs k ++ 32 :: Lib.itoa (zs.getD k 0)
/-- The text of the sides. -/
def sides (r q : Int) : List UInt8 := Lib.itoa r ++ 120 :: (Lib.itoa q ++ [58])
theorem blanked_len (h : List UInt8) (zs : List Int) (hz : ∀ i, i < zs.length → -1000000000000 ≤ zs.getD i 0 ∧ zs.getD i 0 ≤ 1000000000000) (k : Nat) (hk : k ≤ zs.length) : (blanked h zs k).length ≤ h.length + 22 * k := by
  induction k with
  | zero => simp [blanked]
  | succ k ih =>
    have := ih (by omega)
    have ⟨z0, z1⟩ := hz k (by omega)
    have := itoa_len (zs.getD k 0) (by omega) (by omega)
    rw [blanked, List.length_append, List.length_cons]
    omega

end Go.Proofs.YtopbfjhgpgjnnaaDoor
