/- The ends of edges and the edges between vertices, of both sides. No condition but those that each theorem names. -/
import Derived.Test.YtajbahfbldmckaaDoorFcS
import Derived.Test.YtajbahfbldmckaaDoorPfE
namespace Go.Proofs.YtajbahfbldmckaaDoor
open Go.RowKit
namespace Eg
/-- The two ends of each edge. -/
def tab : List (List Int) := [[0, 1], [0, 2], [0, 3], [1, 2], [1, 3], [2, 3]]
def end0 (e : Nat) : Int := (tab.getD e []).getD 0 0
def end1 (e : Nat) : Int := (tab.getD e []).getD 1 0
/-- The edge between two vertices. -/
def num : List (List Int) := [[-1, 0, 1, 2], [0, -1, 3, 4], [1, 3, -1, 5], [2, 4, 5, -1]]
def nb (a b : Nat) : Int := (num.getD a []).getD b 0
theorem nb_hit : ∀ a : Nat, a < 4 → ∀ b : Nat, b < 4 → ∀ e : Nat, e < 6 → end0 e = min (a : Int) b ∧ end1 e = max (a : Int) b → nb a b = e := by decide +kernel
theorem nb_miss : ∀ a : Nat, a < 4 → ∀ b : Nat, b < 4 → (∀ e : Nat, e < 6 → ¬ (end0 e = min (a : Int) b ∧ end1 e = max (a : Int) b)) → nb a b = -1 := by decide +kernel

set_option maxRecDepth 100000 in
set_option maxHeartbeats 4000000 in
theorem l08Ends_spec (e : Nat) (w : World) (he : e < 6) : Calls Tryd.prog 90 #[.int .i64 (e : Int)] w fun x w' => x = .returned (.tuple #[.int .i64 (end0 e), .int .i64 (end1 e)]) ∧ Below w.heap.size w w' := by
  have hcase : e = 0 ∨ e = 1 ∨ e = 2 ∨ e = 3 ∨ e = 4 ∨ e = 5 := by omega
  clear he
  rcases hcase with rfl | rfl | rfl | rfl | rfl | rfl
  all_goals
    go_enter Tryd.func90, Tryd.ntmps90
    go_wp2_with (go_region)
    all_goals
      first
        | exact bodyPost_ret (v := .tuple #[.int .i64 0, .int .i64 1]) (by simp [results, Tryd.results90, go_sem]) rfl ⟨rfl, (al2 _ _ _).drew⟩
        | exact bodyPost_ret (v := .tuple #[.int .i64 0, .int .i64 2]) (by simp [results, Tryd.results90, go_sem]) rfl ⟨rfl, (al2 _ _ _).drew⟩
        | exact bodyPost_ret (v := .tuple #[.int .i64 0, .int .i64 3]) (by simp [results, Tryd.results90, go_sem]) rfl ⟨rfl, (al2 _ _ _).drew⟩
        | exact bodyPost_ret (v := .tuple #[.int .i64 1, .int .i64 2]) (by simp [results, Tryd.results90, go_sem]) rfl ⟨rfl, (al2 _ _ _).drew⟩
        | exact bodyPost_ret (v := .tuple #[.int .i64 1, .int .i64 3]) (by simp [results, Tryd.results90, go_sem]) rfl ⟨rfl, (al2 _ _ _).drew⟩
        | exact bodyPost_ret (v := .tuple #[.int .i64 2, .int .i64 3]) (by simp [results, Tryd.results90, go_sem]) rfl ⟨rfl, (al2 _ _ _).drew⟩

/-- What EdgeEnds hands back. -/
def ends0 (e : Int) : Int := if 0 ≤ e ∧ e < 6 then end0 e.toNat else -1
def ends1 (e : Int) : Int := if 0 ≤ e ∧ e < 6 then end1 e.toNat else -1
/-- What EdgeBetween hands back. -/
def btw (a b : Int) : Int := if (0 ≤ a ∧ a < 4) ∧ (0 ≤ b ∧ b < 4) then nb a.toNat b.toNat else -1

set_option maxRecDepth 100000 in
set_option maxHeartbeats 4000000 in
theorem ends_spec (e : Int) (w : World) : Calls Tryd.prog 38 #[.int .i64 e] w fun x w' => x = .returned (.tuple #[.int .i64 (ends0 e), .int .i64 (ends1 e)]) ∧ Below w.heap.size w w' := by
  by_cases he : 0 ≤ e ∧ e < 6
  case neg =>
    have R := Lib.hid (show ends0 e = -1 ∧ ends1 e = -1 from by unfold ends0 ends1; rw [if_neg he, if_neg he]; exact ⟨rfl, rfl⟩)
    go_enter Tryd.func38, Tryd.ntmps38
    go_wp2_with fail
    refine (Fc.in_spec_no e 0 5 _ (by omega)).mono ?_
    rintro x w1 ⟨rfl, rfl⟩
    clear he
    go_wp2
    refine bodyPost_ret (v := .tuple #[.int .i64 (-1), .int .i64 (-1)]) (by simp [results, Tryd.results38, go_sem]) rfl ?_
    rw [R.out.1, R.out.2]
    exact ⟨rfl, Below.refl _ _⟩
  obtain ⟨k, rfl⟩ := Int.eq_ofNat_of_zero_le he.1
  have hk : k < 6 := by omega
  have R := Lib.hid (show ends0 (k : Int) = end0 k ∧ ends1 (k : Int) = end1 k from by unfold ends0 ends1; rw [if_pos he, if_pos he]; exact ⟨rfl, rfl⟩)
  go_enter Tryd.func38, Tryd.ntmps38
  go_wp2_with fail
  refine (Fc.in_spec_yes (k : Int) 0 5 _ (by omega) (by omega)).mono ?_
  rintro x w1 ⟨rfl, rfl⟩
  clear he
  go_wp2_with fail
  refine (l08Ends_spec k _ hk).mono ?_
  rintro x w1 ⟨rfl, hb⟩
  have D := Lib.hid hb
  clear hb
  go_wp2
  refine bodyPost_ret (v := .tuple #[.int .i64 (end0 k), .int .i64 (end1 k)]) (by simp [results, Tryd.results38, go_sem]) rfl ?_
  rw [R.out.1, R.out.2]
  exact ⟨rfl, D.out⟩

set_option maxRecDepth 100000 in
set_option maxHeartbeats 8000000 in
theorem l08Edge_spec (a b : Nat) (w : World) (ha : a < 4) (hb : b < 4) : Calls Tryd.prog 92 #[.int .i64 (a : Int), .int .i64 (b : Int)] w fun x w' => x = .returned (.int .i64 (nb a b)) ∧ Below w.heap.size w w' := by
  have HIT := Lib.hid (nb_hit a ha b hb)
  have MISS := Lib.hid (nb_miss a ha b hb)
  obtain ⟨m, hm⟩ : ∃ m, min (a : Int) b = m := ⟨_, rfl⟩
  obtain ⟨M, hM⟩ : ∃ M, max (a : Int) b = M := ⟨_, rfl⟩
  rw [hm, hM] at HIT MISS
  by_cases hab : (a : Int) ≤ (b : Int)
  case pos =>
    by_cases heq : a = b
    case pos =>
      subst heq
      obtain ⟨rfl, rfl⟩ : m = (a : Int) ∧ M = (a : Int) := by omega
      clear hab
      clear hm hM
      go_enter Tryd.func92, Tryd.ntmps92
      go_wp2
      go_loopw [5] (fun i W => ∃ k : Nat, k ≤ 6 ∧ i = .int .i64 k ∧ (∀ e, e < k → ¬ (end0 e = (a : Int) ∧ end1 e = (a : Int))) ∧ Below w.heap.size w W) (fun i _ => 6 - (intOf i).toNat)
      case atStart => exact ⟨0, by omega, rfl, fun e he => absurd he (Nat.not_lt_zero _), Below.refl _ _⟩
      case round =>
        obtain ⟨k, hk, rfl, hno, hbel⟩ := hrel
        have NO := Lib.hid hno
        have BW := Lib.hid hbel
        clear hno hbel
        by_cases h6 : k < 6
        case neg =>
          obtain rfl : k = 6 := by omega
          go_wp2
          go_ret
          exact ⟨by rw [MISS.out NO.out]; rfl, BW.out⟩
        have i1 : (k : Int) < 6 := by omega
        go_wp2_with fail
        refine (l08Ends_spec k _ h6).mono ?_
        rintro x w1 ⟨rfl, hb1⟩
        have D1 := Lib.hid (BW.out.trans (hb1.mono BW.out.size))
        clear hb1
        obtain ⟨x0, hx0⟩ : ∃ x0, end0 k = x0 := ⟨_, rfl⟩
        obtain ⟨x1, hx1⟩ : ∃ x1, end1 k = x1 := ⟨_, rfl⟩
        have X0 := Lib.hid hx0
        have X1 := Lib.hid hx1
        rw [hx0, hx1]
        clear hx0 hx1
        by_cases y0 : x0 = (a : Int)
        · by_cases y1 : x1 = (a : Int)
          · have u0 : (x0 == (a : Int)) = true := by simpa using y0
            have u1 : (x1 == (a : Int)) = true := by simpa using y1
            have R := Lib.hid (HIT.out k h6 ⟨by rw [X0.out]; exact y0, by rw [X1.out]; exact y1⟩)
            clear y0 y1
            go_wp2
            go_ret
            exact ⟨by rw [R.out]; rfl, D1.out⟩
          · have u0 : (x0 == (a : Int)) = true := by simpa using y0
            have u1 : (x1 == (a : Int)) = false := by simpa using y1
            have NN := Lib.hid (show ∀ e, e < k + 1 → ¬ (end0 e = (a : Int) ∧ end1 e = (a : Int)) from fun e he => by
              by_cases hek : e = k
              · subst hek; rw [X0.out, X1.out]; exact fun h => y1 h.2
              · exact NO.out e (by omega))
            clear y0 y1
            go_wp2
            go_roundw
            case rel => exact ⟨k + 1, by omega, by go_num, NN.out, D1.out⟩
            case measure => simp [intOf]; omega
        · have u0 : (x0 == (a : Int)) = false := by simpa using y0
          have NN := Lib.hid (show ∀ e, e < k + 1 → ¬ (end0 e = (a : Int) ∧ end1 e = (a : Int)) from fun e he => by
            by_cases hek : e = k
            · subst hek; rw [X0.out, X1.out]; exact fun h => y0 h.1
            · exact NO.out e (by omega))
          clear y0
          go_wp2
          go_roundw
          case rel => exact ⟨k + 1, by omega, by go_num, NN.out, D1.out⟩
          case measure => simp [intOf]; omega
    case neg =>
      have hlt : (a : Int) < (b : Int) := by omega
      obtain ⟨rfl, rfl⟩ : m = (a : Int) ∧ M = (b : Int) := by omega
      clear hm hM
      go_enter Tryd.func92, Tryd.ntmps92
      go_wp2
      go_loopw [5] (fun i W => ∃ k : Nat, k ≤ 6 ∧ i = .int .i64 k ∧ (∀ e, e < k → ¬ (end0 e = (a : Int) ∧ end1 e = (b : Int))) ∧ Below w.heap.size w W) (fun i _ => 6 - (intOf i).toNat)
      case atStart => exact ⟨0, by omega, rfl, fun e he => absurd he (Nat.not_lt_zero _), Below.refl _ _⟩
      case round =>
        obtain ⟨k, hk, rfl, hno, hbel⟩ := hrel
        have NO := Lib.hid hno
        have BW := Lib.hid hbel
        clear hno hbel
        by_cases h6 : k < 6
        case neg =>
          obtain rfl : k = 6 := by omega
          go_wp2
          go_ret
          exact ⟨by rw [MISS.out NO.out]; rfl, BW.out⟩
        have i1 : (k : Int) < 6 := by omega
        go_wp2_with fail
        refine (l08Ends_spec k _ h6).mono ?_
        rintro x w1 ⟨rfl, hb1⟩
        have D1 := Lib.hid (BW.out.trans (hb1.mono BW.out.size))
        clear hb1
        obtain ⟨x0, hx0⟩ : ∃ x0, end0 k = x0 := ⟨_, rfl⟩
        obtain ⟨x1, hx1⟩ : ∃ x1, end1 k = x1 := ⟨_, rfl⟩
        have X0 := Lib.hid hx0
        have X1 := Lib.hid hx1
        rw [hx0, hx1]
        clear hx0 hx1
        by_cases y0 : x0 = (a : Int)
        · by_cases y1 : x1 = (b : Int)
          · have u0 : (x0 == (a : Int)) = true := by simpa using y0
            have u1 : (x1 == (b : Int)) = true := by simpa using y1
            have R := Lib.hid (HIT.out k h6 ⟨by rw [X0.out]; exact y0, by rw [X1.out]; exact y1⟩)
            clear y0 y1
            go_wp2
            go_ret
            exact ⟨by rw [R.out]; rfl, D1.out⟩
          · have u0 : (x0 == (a : Int)) = true := by simpa using y0
            have u1 : (x1 == (b : Int)) = false := by simpa using y1
            have NN := Lib.hid (show ∀ e, e < k + 1 → ¬ (end0 e = (a : Int) ∧ end1 e = (b : Int)) from fun e he => by
              by_cases hek : e = k
              · subst hek; rw [X0.out, X1.out]; exact fun h => y1 h.2
              · exact NO.out e (by omega))
            clear y0 y1
            go_wp2
            go_roundw
            case rel => exact ⟨k + 1, by omega, by go_num, NN.out, D1.out⟩
            case measure => simp [intOf]; omega
        · have u0 : (x0 == (a : Int)) = false := by simpa using y0
          have NN := Lib.hid (show ∀ e, e < k + 1 → ¬ (end0 e = (a : Int) ∧ end1 e = (b : Int)) from fun e he => by
            by_cases hek : e = k
            · subst hek; rw [X0.out, X1.out]; exact fun h => y0 h.1
            · exact NO.out e (by omega))
          clear y0
          go_wp2
          go_roundw
          case rel => exact ⟨k + 1, by omega, by go_num, NN.out, D1.out⟩
          case measure => simp [intOf]; omega
  case neg =>
    obtain ⟨rfl, rfl⟩ : m = (b : Int) ∧ M = (a : Int) := by omega
    clear hm hM
    go_enter Tryd.func92, Tryd.ntmps92
    go_wp2
    go_loopw [5] (fun i W => ∃ k : Nat, k ≤ 6 ∧ i = .int .i64 k ∧ (∀ e, e < k → ¬ (end0 e = (b : Int) ∧ end1 e = (a : Int))) ∧ Below w.heap.size w W) (fun i _ => 6 - (intOf i).toNat)
    case atStart => exact ⟨0, by omega, rfl, fun e he => absurd he (Nat.not_lt_zero _), Below.refl _ _⟩
    case round =>
      obtain ⟨k, hk, rfl, hno, hbel⟩ := hrel
      have NO := Lib.hid hno
      have BW := Lib.hid hbel
      clear hno hbel
      by_cases h6 : k < 6
      case neg =>
        obtain rfl : k = 6 := by omega
        go_wp2
        go_ret
        exact ⟨by rw [MISS.out NO.out]; rfl, BW.out⟩
      have i1 : (k : Int) < 6 := by omega
      go_wp2_with fail
      refine (l08Ends_spec k _ h6).mono ?_
      rintro x w1 ⟨rfl, hb1⟩
      have D1 := Lib.hid (BW.out.trans (hb1.mono BW.out.size))
      clear hb1
      obtain ⟨x0, hx0⟩ : ∃ x0, end0 k = x0 := ⟨_, rfl⟩
      obtain ⟨x1, hx1⟩ : ∃ x1, end1 k = x1 := ⟨_, rfl⟩
      have X0 := Lib.hid hx0
      have X1 := Lib.hid hx1
      rw [hx0, hx1]
      clear hx0 hx1
      by_cases y0 : x0 = (b : Int)
      · by_cases y1 : x1 = (a : Int)
        · have u0 : (x0 == (b : Int)) = true := by simpa using y0
          have u1 : (x1 == (a : Int)) = true := by simpa using y1
          have R := Lib.hid (HIT.out k h6 ⟨by rw [X0.out]; exact y0, by rw [X1.out]; exact y1⟩)
          clear y0 y1
          go_wp2
          go_ret
          exact ⟨by rw [R.out]; rfl, D1.out⟩
        · have u0 : (x0 == (b : Int)) = true := by simpa using y0
          have u1 : (x1 == (a : Int)) = false := by simpa using y1
          have NN := Lib.hid (show ∀ e, e < k + 1 → ¬ (end0 e = (b : Int) ∧ end1 e = (a : Int)) from fun e he => by
            by_cases hek : e = k
            · subst hek; rw [X0.out, X1.out]; exact fun h => y1 h.2
            · exact NO.out e (by omega))
          clear y0 y1
          go_wp2
          go_roundw
          case rel => exact ⟨k + 1, by omega, by go_num, NN.out, D1.out⟩
          case measure => simp [intOf]; omega
      · have u0 : (x0 == (b : Int)) = false := by simpa using y0
        have NN := Lib.hid (show ∀ e, e < k + 1 → ¬ (end0 e = (b : Int) ∧ end1 e = (a : Int)) from fun e he => by
          by_cases hek : e = k
          · subst hek; rw [X0.out, X1.out]; exact fun h => y0 h.1
          · exact NO.out e (by omega))
        clear y0
        go_wp2
        go_roundw
        case rel => exact ⟨k + 1, by omega, by go_num, NN.out, D1.out⟩
        case measure => simp [intOf]; omega
end Eg
end Go.Proofs.YtajbahfbldmckaaDoor
