/- The product of two matrices: the specification's functions below it. No condition but those that each theorem names. -/
import Derived.Test.YtakokhfnllpahaaMatK
namespace Go.Proofs.Ytakokhfnllpahaa
open Go.RowKit

set_option maxHeartbeats 400000 in
theorem abs_spec (x b : Int) (w : World) (h0 : -b ≤ x) (h1 : x ≤ b) (hb : b ≤ 4611686018427387904) : Calls Try.prog 66 #[.int .i64 x] w fun e w' => e = .returned (.int .i64 (mg x)) ∧ w = w' := by
  by_cases h : x < -x
  · have he : -x = mg x := by unfold mg; omega
    rw [← he]
    clear he
    go_enter Try.func66, Try.ntmps66
    go_wp2
    go_ret
    exact ⟨rfl, rfl⟩
  · have he : x = mg x := by unfold mg; omega
    rw [← he]
    clear he
    go_enter Try.func66, Try.ntmps66
    go_wp2
    go_ret
    exact ⟨rfl, rfl⟩

def TimesSays (x y : Int) (w : World) (e : Ending) (w' : World) : Prop :=
  (mg (x * y) ≤ 1000000000000 → e = .returned (.tuple #[.int .i64 (x * y), .bool true])) ∧ (¬ mg (x * y) ≤ 1000000000000 → e = .returned (.tuple #[.int .i64 0, .bool false])) ∧ w = w'
end Go.Proofs.Ytakokhfnllpahaa
