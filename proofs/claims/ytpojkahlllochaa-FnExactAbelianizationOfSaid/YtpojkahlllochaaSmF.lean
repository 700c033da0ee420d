/- Contracts of the functions that change one line of a matrix, the program's. No condition but those that each theorem names. -/
import Derived.Test.YtpojkahlllochaaMatL
import Derived.Test.YtpojkahlllochaaSmA
namespace Go.Proofs.Ytpojkahlllochaa
open Go.RowKit

theorem prod_le {x y q : Int} (hx : -1000000000000 ≤ x ∧ x ≤ 1000000000000) (h : -1000000000000 ≤ x - y * q ∧ x - y * q ≤ 1000000000000) : -2000000000000 ≤ y * q ∧ y * q ≤ 2000000000000 := by omega
theorem quo_ok {y q : Int} (hy : y ≠ 0) (h : -2000000000000 ≤ y * q ∧ y * q ≤ 2000000000000) : ¬ 2000000000000 / mg y < mg q := by
  intro g
  have := div_lt_mul (mg_pos hy) g
  have e := mg_mul y q
  have := mg_le h
  omega
theorem quo_no {y q : Int} (hy : y ≠ 0) (h : ¬ 2000000000000 / mg y < mg q) : -2000000000000 ≤ y * q ∧ y * q ≤ 2000000000000 := by
  have := le_div_mul (mg_pos hy) h
  rw [← mg_mul] at this
  exact mg_ge this

set_option maxHeartbeats 1000000 in
theorem sp_yes (x y q : Int) (w : World) (hx : -1000000000000 ≤ x ∧ x ≤ 1000000000000) (hy : -1000000000000 ≤ y ∧ y ≤ 1000000000000) (hq : -4000000000000 ≤ q ∧ q ≤ 4000000000000)
    (h : -1000000000000 ≤ x - y * q ∧ x - y * q ≤ 1000000000000) :
    Calls Try.prog 147 #[.int .i64 x, .int .i64 y, .int .i64 q] w fun e w' => e = .returned (.tuple #[.int .i64 (x - y * q), .bool true]) ∧ w = w' := by
  obtain ⟨p0, p1⟩ := prod_le hx h
  obtain ⟨x0, x1⟩ := hx
  obtain ⟨y0, y1⟩ := hy
  obtain ⟨q0, q1⟩ := hq
  obtain ⟨h0, h1⟩ := h
  have d : decide (mg (x - y * q) ≤ 1000000000000) = true := by simpa using mg_le ⟨h0, h1⟩
  by_cases hy0 : y = 0
  · have t1 : (y == 0) = true := by simpa using hy0
    have t2 : (y != 0) = false := by simpa using hy0
    clear hy0
    go_enter Try.func147, Try.ntmps147
    go_wp2_with (go_at_call 95; (with_reducible refine (mag_impl _ 4000000000000 _ (by omega) (by omega) (by omega)).mono ?_); rintro e w' ⟨rfl, rfl⟩)
    go_ret2
    exact ⟨rfl, rfl⟩
  · have t1 : (y == 0) = false := by simpa using hy0
    have t2 : (y != 0) = true := by simpa using hy0
    have hm := mg_pos hy0
    have q3 := quo_ok hy0 ⟨p0, p1⟩
    have d2 : decide (2000000000000 / mg y < mg q) = false := by simpa using q3
    clear hy0
    go_enter Try.func147, Try.ntmps147
    go_wp2_with (go_at_call 95; (with_reducible refine (mag_impl _ 4000000000000 _ (by omega) (by omega) (by omega)).mono ?_); rintro e w' ⟨rfl, rfl⟩)
    go_ret2
    exact ⟨rfl, rfl⟩

set_option maxHeartbeats 1000000 in
theorem sp_no (x y q : Int) (hx : -1000000000000 ≤ x ∧ x ≤ 1000000000000) (hy : -1000000000000 ≤ y ∧ y ≤ 1000000000000) (hq : -4000000000000 ≤ q ∧ q ≤ 4000000000000)
    (h : ¬ (-1000000000000 ≤ x - y * q ∧ x - y * q ≤ 1000000000000)) :
    ∃ v, ∀ w, Calls Try.prog 147 #[.int .i64 x, .int .i64 y, .int .i64 q] w fun e w' => e = .returned (.tuple #[.int .i64 v, .bool false]) ∧ w = w' := by
  obtain ⟨x0, x1⟩ := hx
  obtain ⟨y0, y1⟩ := hy
  obtain ⟨q0, q1⟩ := hq
  by_cases hy0 : y = 0
  · subst hy0
    exfalso
    apply h
    rw [Int.zero_mul]
    omega
  · have t1 : (y == 0) = false := by simpa using hy0
    have t2 : (y != 0) = true := by simpa using hy0
    have hm := mg_pos hy0
    by_cases q3 : 2000000000000 / mg y < mg q
    · have d2 : decide (2000000000000 / mg y < mg q) = true := by simpa using q3
      clear hy0 h
      refine ⟨0, fun w => ?_⟩
      go_enter Try.func147, Try.ntmps147
      go_wp2_with (go_at_call 95; (with_reducible refine (mag_impl _ 4000000000000 _ (by omega) (by omega) (by omega)).mono ?_); rintro e w' ⟨rfl, rfl⟩)
      go_ret2
      exact ⟨rfl, rfl⟩
    · obtain ⟨p0, p1⟩ := quo_no hy0 q3
      have d2 : decide (2000000000000 / mg y < mg q) = false := by simpa using q3
      have d : decide (mg (x - y * q) ≤ 1000000000000) = false := by
        simp only [decide_eq_false_iff_not]
        exact fun g => h (mg_ge g)
      clear hy0 h
      refine ⟨x - y * q, fun w => ?_⟩
      go_enter Try.func147, Try.ntmps147
      go_wp2_with (go_at_call 95; (with_reducible refine (mag_impl _ 4000000000000 _ (by omega) (by omega) (by omega)).mono ?_); rintro e w' ⟨rfl, rfl⟩)
      go_ret2
      exact ⟨rfl, rfl⟩

set_option maxHeartbeats 1000000 in
theorem fq_impl (x y : Int) (w : World) (hx : -1000000000000 ≤ x ∧ x ≤ 1000000000000) (hy : 0 < y ∧ y ≤ 1000000000000) :
    Calls Try.prog 145 #[.int .i64 x, .int .i64 y] w fun e w' => e = .returned (.int .i64 (Sm.fq x y)) ∧ w = w' := by
  have h1 := Int.mul_tdiv_add_tmod x y
  have h2 := Int.tmod_lt_of_pos x hy.1
  have h3 : -y < x.tmod y := by
    have := Int.tmod_lt_of_pos (-x) hy.1
    rw [Int.neg_tmod] at this
    omega
  have b := Sm.fq_bound hy.1 hx.1 hx.2
  unfold Sm.fq at b ⊢
  obtain ⟨x0, x1⟩ := hx
  obtain ⟨y0, y1⟩ := hy
  have n0 : ¬ y = 0 := by omega
  have t0 : (y == 0) = false := by simpa using n0
  by_cases hn : x.tmod y < 0
  · rw [if_pos hn] at b ⊢
    have b0 : -1000000000001 ≤ x.tdiv y := by omega
    have b1 : x.tdiv y ≤ 1000000000001 := by omega
    have w1 : wrap64 (x.tdiv y) = x.tdiv y := IntWalk.wrap64_in _ ⟨by omega, by omega⟩
    have w2 : IntKind.i64.wrap (x.tdiv y) = x.tdiv y := IntWalk.i64_in _ (by omega)
    have w3 : wrap64 (x.tmod y) = x.tmod y := IntWalk.wrap64_in _ ⟨by omega, by omega⟩
    have w4 : IntKind.i64.wrap (x.tmod y) = x.tmod y := IntWalk.i64_in _ (by omega)
    have d : decide (x.tmod y < 0) = true := by simpa using hn
    clear h1 h2 h3 b
    go_enter Try.func145, Try.ntmps145
    go_wp2
    go_ret
    exact ⟨rfl, rfl⟩
  · rw [if_neg hn] at b ⊢
    have w1 : wrap64 (x.tdiv y) = x.tdiv y := IntWalk.wrap64_in _ ⟨by omega, by omega⟩
    have w2 : IntKind.i64.wrap (x.tdiv y) = x.tdiv y := IntWalk.i64_in _ (by omega)
    have w3 : wrap64 (x.tmod y) = x.tmod y := IntWalk.wrap64_in _ ⟨by omega, by omega⟩
    have w4 : IntKind.i64.wrap (x.tmod y) = x.tmod y := IntWalk.i64_in _ (by omega)
    have d : decide (x.tmod y < 0) = false := by simpa using hn
    clear h1 h2 h3 b
    go_enter Try.func145, Try.ntmps145
    go_wp2
    go_ret
    exact ⟨rfl, rfl⟩

end Go.Proofs.Ytpojkahlllochaa
