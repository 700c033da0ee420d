/- The program's map from permutations to their indices. No condition but those that each theorem names. -/
import Derived.Test.YtajbahfbldmckaaDoorPfH
import Derived.Maps.OwnOps
import Derived.Maps.OwnSet
import Derived.DeepKeys4
import Derived.Carry
namespace Go.Proofs.YtajbahfbldmckaaDoor
open Go.RowKit

set_option maxRecDepth 100000 in
theorem wideK : (match Tryd.prog.underlying 78 with | some (.array _ _) | some (.struct _) => true | _ => false) = true := by rw [Tryd.underlying78]
set_option maxRecDepth 100000 in
theorem rowK : (78 : TypeId) < Tryd.prog.types.size := of_decide_eq_true (by kernel_rfl)
set_option maxRecDepth 100000 in
theorem laidOutK : laidOutB Tryd.prog = true := by kernel_rfl
set_option maxRecDepth 100000 in
theorem lawK : Maps.Keyed Tryd.prog 78 := Maps.Keyed.of_law (deep_law_laid laidOutK (m := 2) (by omega) rowK (by kernel_rfl) wideK)
def arr (a b c d : Nat) : Value := .agg #[.int .u8 (a : Int), .int .u8 (b : Int), .int .u8 (c : Int), .int .u8 (d : Int)]
noncomputable def keyL (a b c d : Nat) : Lit := (keyOf Tryd.prog 78 (arr a b c d)).getD (.bool false)
set_option maxRecDepth 100000 in
theorem key_some : ∀ a, a < 4 → ∀ b, b < 4 → ∀ c, c < 4 → ∀ d, d < 4 → (keyOf Tryd.prog 78 (arr a b c d)).isSome = true := by decide +kernel
set_option maxRecDepth 100000 in
theorem keyL_of {a b c d : Nat} (ha : a < 4) (hb : b < 4) (hc : c < 4) (hd : d < 4) : keyOf Tryd.prog 78 (arr a b c d) = some (keyL a b c d) := by
  have h := key_some a ha b hb c hc d hd
  unfold keyL
  rcases Option.isSome_iff_exists.1 h with ⟨x, hx⟩
  rw [hx]; rfl
/-- The key of a list of four numbers. -/
noncomputable def keyI (l : List Int) : Lit := keyL (l.getD 0 0).toNat (l.getD 1 0).toNat (l.getD 2 0).toNat (l.getD 3 0).toNat
/-- What the map holds when k permutations have been entered. -/
noncomputable def MD : Nat → DataW Unit
  | 0 => .map []
  | k + 1 => (MD k).put (keyI (P4.im k)) (.lit (.int .i64 (k : Int)))
def dval : DataW Unit → Option Int
  | .lit (.int .i64 c) => some c
  | _ => none
set_option maxRecDepth 100000 in
theorem look_all : ∀ a, a < 4 → ∀ b, b < 4 → ∀ c, c < 4 → ∀ d, d < 4 → dval ((MD 24).atKey (keyL a b c d) (.lit (.int .i64 0))) = some (if P4.ix [(a : Int), (b : Int), (c : Int), (d : Int)] < 24 then (P4.ix [(a : Int), (b : Int), (c : Int), (d : Int)] : Int) else 0) := by decide +kernel
set_option maxRecDepth 100000 in
theorem has_all : ∀ a, a < 4 → ∀ b, b < 4 → ∀ c, c < 4 → ∀ d, d < 4 → Maps.has (MD 24) (keyL a b c d) = decide (P4.ix [(a : Int), (b : Int), (c : Int), (d : Int)] < 24) := by decide +kernel
end Go.Proofs.YtajbahfbldmckaaDoor
