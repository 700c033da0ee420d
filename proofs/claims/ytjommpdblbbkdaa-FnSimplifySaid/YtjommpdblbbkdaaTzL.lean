/- What the specification asks of a move: l04Missing and l04Possible. No condition but those that each theorem names. -/
import Derived.Test.YtjommpdblbbkdaaTzI
import Derived.Test.YtjommpdblbbkdaaWdIc
namespace Go.Proofs.Ytjommpdblbbkdaa
open Go.RowKit

/-- A relator or a generator that the move uses does not exist. -/
def missing (r : Int) (n : Nat) (K I J : Int) : Bool := decide (K ≠ 6 ∧ ¬ (0 ≤ I ∧ I ≤ (n : Int) - 1)) || decide (K = 3 ∧ ¬ (0 ≤ J ∧ J ≤ (n : Int) - 1)) || decide (K = 5 ∧ ¬ (1 ≤ J ∧ J ≤ r))

set_option maxRecDepth 100000 in
set_option maxHeartbeats 8000000 in
theorem missing_spec (r K I J : Int) (A Aw : Option Addr) (n c nw cw : Nat) (w : World) (hn : n ≤ 1048576) :
    Calls Try.prog 33 #[.agg #[.int .i64 r, .slice A n c], .agg #[.int .i64 K, .int .i64 I, .int .i64 J, .slice Aw nw cw]] w fun e w' => e = .returned (.bool (missing r n K I J)) ∧ Below w.heap.size w w' := by
  have D := Lib.hid (al2 w (Obj.cells #[.int .i64 r, .slice A n c] 26) (Obj.cells #[.int .i64 K, .int .i64 I, .int .i64 J, .slice Aw nw cw] 36))
  have w1 : IntKind.i64.wrap ((n : Int) - 1) = (n : Int) - 1 := IntWalk.i64_in _ (by omega)
  by_cases k6 : K = 6
  · have MV := Lib.hid (show missing r n K I J = false from by unfold missing; simp [k6])
    subst k6
    go_enter Try.func33, Try.ntmps33
    go_wp2
    go_ret
    rw [MV.out]
    exact ⟨rfl, D.out⟩
  · have t6 : ((K != 6) : Bool) = true := by simpa using k6
    by_cases hi : 0 ≤ I ∧ I ≤ (n : Int) - 1
    case neg =>
      have MV := Lib.hid (show missing r n K I J = true from by unfold missing; simp [k6]; omega)
      have HI := Lib.hid hi
      clear hi
      go_enter Try.func33, Try.ntmps33
      go_wp2_with (go_at_call 31; (with_reducible refine (in_no _ _ _ _ HI.out).mono ?_); rintro e w' ⟨rfl, rfl⟩)
      go_ret
      rw [MV.out]
      exact ⟨rfl, D.out⟩
    have HI := Lib.hid hi
    clear hi
    by_cases k3 : K = 3
    · subst k3
      by_cases hj : 0 ≤ J ∧ J ≤ (n : Int) - 1
      · have MV := Lib.hid (show missing r n 3 I J = false from by unfold missing; simp [hj]; have := HI.out; omega)
        have HJ := Lib.hid hj
        clear hj
        go_enter Try.func33, Try.ntmps33
        go_wp2_with (go_at_call 31; first | ((with_reducible refine (in_yes I _ _ _ HI.out.1 HI.out.2).mono ?_); rintro e w' ⟨rfl, rfl⟩) | ((with_reducible refine (in_yes J _ _ _ HJ.out.1 HJ.out.2).mono ?_); rintro e w' ⟨rfl, rfl⟩))
        go_ret
        rw [MV.out]
        exact ⟨rfl, D.out⟩
      · have MV := Lib.hid (show missing r n 3 I J = true from by unfold missing; simp; omega)
        have HJ := Lib.hid hj
        clear hj
        go_enter Try.func33, Try.ntmps33
        go_wp2_with (go_at_call 31; first | ((with_reducible refine (in_yes I _ _ _ HI.out.1 HI.out.2).mono ?_); rintro e w' ⟨rfl, rfl⟩) | ((with_reducible refine (in_no J _ _ _ HJ.out).mono ?_); rintro e w' ⟨rfl, rfl⟩))
        go_ret
        rw [MV.out]
        exact ⟨rfl, D.out⟩
    · have t3 : ((K == 3) : Bool) = false := by simpa using k3
      by_cases k5 : K = 5
      · subst k5
        by_cases hj : 1 ≤ J ∧ J ≤ r
        · have MV := Lib.hid (show missing r n 5 I J = false from by unfold missing; simp [hj]; have := HI.out; omega)
          have HJ := Lib.hid hj
          clear hj
          go_enter Try.func33, Try.ntmps33
          go_wp2_with (go_at_call 31; first | ((with_reducible refine (in_yes I 0 _ _ HI.out.1 HI.out.2).mono ?_); rintro e w' ⟨rfl, rfl⟩) | ((with_reducible refine (in_yes J 1 _ _ HJ.out.1 HJ.out.2).mono ?_); rintro e w' ⟨rfl, rfl⟩))
          go_ret
          rw [MV.out]
          exact ⟨rfl, D.out⟩
        · have MV := Lib.hid (show missing r n 5 I J = true from by unfold missing; simp; omega)
          have HJ := Lib.hid hj
          clear hj
          go_enter Try.func33, Try.ntmps33
          go_wp2_with (go_at_call 31; first | ((with_reducible refine (in_yes I 0 _ _ HI.out.1 HI.out.2).mono ?_); rintro e w' ⟨rfl, rfl⟩) | ((with_reducible refine (in_no J 1 _ _ HJ.out).mono ?_); rintro e w' ⟨rfl, rfl⟩))
          go_ret
          rw [MV.out]
          exact ⟨rfl, D.out⟩
      · have t5 : ((K == 5) : Bool) = false := by simpa using k5
        have MV := Lib.hid (show missing r n K I J = false from by unfold missing; simp [k3, k5]; have := HI.out; omega)
        go_enter Try.func33, Try.ntmps33
        go_wp2_with (go_at_call 31; (with_reducible refine (in_yes I _ _ _ HI.out.1 HI.out.2).mono ?_); rintro e w' ⟨rfl, rfl⟩)
        go_ret
        rw [MV.out]
        exact ⟨rfl, D.out⟩

end Go.Proofs.Ytjommpdblbbkdaa
