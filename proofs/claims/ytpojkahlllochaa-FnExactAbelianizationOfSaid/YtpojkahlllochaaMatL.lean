/- The product of two matrices: the specification's functions below it. No condition but those that each theorem names. -/
import Derived.Test.YtpojkahlllochaaMatK
namespace Go.Proofs.Ytpojkahlllochaa
open Go.RowKit

set_option maxHeartbeats 400000 in
theorem abs_spec (x b : Int) (w : World) (h0 : -b ≤ x) (h1 : x ≤ b) (hb : b ≤ 4611686018427387904) : Calls Try.prog 148 #[.int .i64 x] w fun e w' => e = .returned (.int .i64 (mg x)) ∧ w = w' := by
  by_cases h : x < -x
  · have he : -x = mg x := by unfold mg; omega
    rw [← he]
    clear he
    go_enter Try.func148, Try.ntmps148
    go_wp2
    go_ret
    exact ⟨rfl, rfl⟩
  · have he : x = mg x := by unfold mg; omega
    rw [← he]
    clear he
    go_enter Try.func148, Try.ntmps148
    go_wp2
    go_ret
    exact ⟨rfl, rfl⟩

def TimesSays (x y : Int) (w : World) (e : Ending) (w' : World) : Prop :=
  (mg (x * y) ≤ 1000000000000 → e = .returned (.tuple #[.int .i64 (x * y), .bool true])) ∧ (¬ mg (x * y) ≤ 1000000000000 → e = .returned (.tuple #[.int .i64 0, .bool false])) ∧ w = w'
set_option maxHeartbeats 1000000 in
theorem times_spec (x y : Int) (w : World) (hx : -1000000000000 ≤ x ∧ x ≤ 1000000000000) (hy : -1000000000000 ≤ y ∧ y ≤ 1000000000000) :
    Calls Try.prog 163 #[.int .i64 x, .int .i64 y, .int .i64 1000000000000] w (TimesSays x y w) := by
  by_cases hx0 : x = 0
  · subst hx0
    go_enter Try.func163, Try.ntmps163
    go_wp2
    go_ret2
    exact ⟨fun _ => by simp, fun h => absurd (by simp [mg]) h, rfl⟩
  have t : (x == 0) = false := by simpa using hx0
  have t' : (x != 0) = true := by simpa using hx0
  have y1 := mg_pos hx0
  have y2 := mg_le hx
  have y3 := mg_nonneg y
  have y4 := mg_le hy
  clear hx0
  go_enter Try.func163, Try.ntmps163
  go_wp2_with fail
  refine (abs_spec y 1000000000000 _ hy.1 hy.2 (by omega)).mono ?_
  rintro e w8 ⟨rfl, rfl⟩
  go_wp2_with fail
  refine (abs_spec x 1000000000000 _ hx.1 hx.2 (by omega)).mono ?_
  rintro e w8 ⟨rfl, rfl⟩
  by_cases hg : 1000000000000 / mg x < mg y
  · have d : decide (1000000000000 / mg x < mg y) = true := by simpa using hg
    go_wp2
    go_ret2
    have g1 := div_lt_mul y1 hg
    exact ⟨fun h => absurd h (by rw [mg_mul]; omega), fun _ => rfl, rfl⟩
  · have d : decide (1000000000000 / mg x < mg y) = false := by simpa using hg
    have g1 := le_div_mul y1 hg
    have g2 := mg_mul x y
    have g3 : -1000000000000 ≤ x * y ∧ x * y ≤ 1000000000000 := mg_ge (by omega)
    clear g1 g2
    go_wp2
    go_ret2
    exact ⟨fun _ => rfl, fun h => absurd (mg_le g3) h, rfl⟩

end Go.Proofs.Ytpojkahlllochaa
