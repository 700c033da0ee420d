/- The library's sort of a short list, and its search in a list. No condition but those that each theorem names. -/
import Derived.Test.YtiibedpacnficaaOrA
import Derived.Test.YtiibedpacnficaaWdC
import Derived.Outline
import Derived.Deep.Cut
namespace Go.Proofs.Ytiibedpacnficaa
open Go.RowKit

theorem less_any (x y : Int) (w : World) : Calls Try.prog 106 #[.int .i64 x, .int .i64 y] w fun e w' => e = .returned (.bool (decide (x < y))) ∧ w = w' := by
  by_cases h : x < y
  · have t0 : decide (x < y) = true := by simpa using h
    rw [t0]
    go_enter Try.func106, Try.ntmps106
    go_wp2
    go_ret
    exact ⟨rfl, rfl⟩
  · have t0 : decide (x < y) = false := by simpa using h
    rw [t0]
    go_enter Try.func106, Try.ntmps106
    go_wp2
    go_ret
    exact ⟨rfl, rfl⟩

set_option maxHeartbeats 8000000 in
theorem insertion_any (A : Option Addr) (n c : Nat) (l : List Int) (lo hi : Nat) (w : World) (h : Own w lo hi A n c l) (h1 : 1 ≤ n) (h4 : n ≤ 4) :
    Calls Try.prog 100 #[.slice A n c, .int .i64 0, .int .i64 n] w fun e w' => e = .returned (.tuple #[]) ∧ Own w' lo hi A n c (Ob.srt l (n - 1)) ∧ Kept lo hi w w' := by
  have HL := Lib.hid h.len
  have H := Lib.hid h
  clear h
  go_enter Try.func100, Try.ntmps100
  go_wp2
  go_loopw [6] (fun i W => ∃ k : Nat, k + 1 ≤ n ∧ i = .int .i64 ((k : Int) + 1) ∧ Own W lo hi A n c (Ob.srt l k) ∧ Kept lo hi w W) (fun i _ => n - (intOf i).toNat)
  case atStart => exact ⟨0, h1, rfl, H.out, Kept.refl _ _ _⟩
  case round =>
    obtain ⟨k, hk, rfl, ho, hkp⟩ := hrel
    have O := Lib.hid ho
    have KP := Lib.hid hkp
    clear ho hkp
    by_cases hlt : k + 1 < n
    · have i1 : (k : Int) + 1 < (n : Int) := by omega
      have SL := Lib.hid (Ob.srt_len l k)
      have SK := Lib.hid (show Ob.srt l (k + 1) = Ob.sink (Ob.srt l k) (k + 1) from rfl)
      obtain ⟨g0, z0, hA, hg1, hg2, _, _, _⟩ := O.out.at_ (k := 0) (by omega)
      subst hA
      go_wp2
      obtain ⟨wo, hwo⟩ : ∃ wo : World, wo = wr := ⟨_, rfl⟩
      rw [← hwo] at O KP ⊢
      clear hwo
      go_loopw [7] (fun jj W => ∃ (j : Nat) (l' : List Int), j ≤ k + 1 ∧ jj = .int .i64 j ∧ Own W lo hi (some ⟨g0, 0, none⟩) n c l' ∧ Ob.sink l' j = Ob.sink (Ob.srt l k) (k + 1) ∧ Kept lo hi w W) (fun jj _ => (intOf jj).toNat)
      case atStart => exact ⟨k + 1, _, Nat.le_refl _, by go_num, O.out, rfl, KP.out⟩
      case round =>
        obtain ⟨j, l', hj, rfl, ho2, hsk, hkp2⟩ := hrel
        have O2 := Lib.hid ho2
        have K2 := Lib.hid hkp2
        have HS := Lib.hid hsk
        clear ho2 hkp2 hsk
        by_cases hj0 : j = 0
        · subst hj0
          have FIN := Lib.hid (show l' = Ob.srt l (k + 1) from by rw [SK.out, ← HS.out]; rfl)
          go_wp2
          go_quiet (fail)
          all_goals
            go_wp2
            go_roundw
            case rel => exact ⟨k + 1, by omega, by go_num, by rw [← FIN.out]; exact O2.out, K2.out.drewN _⟩
            case measure => simp [intOf]; omega
        obtain ⟨J, rfl⟩ : ∃ J, j = J + 1 := ⟨j - 1, by omega⟩
        obtain ⟨gx, x, e1, _, _, hx, hcx, hfx⟩ := O2.out.at_ (k := J + 1) (by omega)
        cases e1
        obtain ⟨gy, y, e2, _, _, hy, hcy, hfy⟩ := O2.out.at_ (k := J) (by omega)
        cases e2
        have j0 : ((J : Int) + 1 - 1) = (J : Int) := by omega
        have w1 : IntKind.i64.wrap ((J : Int) + 1 - 1) = (J : Int) := (congrArg _ (show ((J : Int) + 1 - 1) = (J : Int) from by omega)).trans (IntWalk.i64_in _ (by omega))
        have j1 : (0 : Int) < (J : Int) + 1 := by omega
        have j1' : decide ((0 : Int) < (J : Int) + 1) = true := decide_eq_true j1
        have j2 : (J : Int) + 1 < (n : Int) := by omega
        have j3 : (J : Int) < (n : Int) := by omega
        have j4 : (0 : Int) ≤ (J : Int) := by omega
        have j5 : ((J : Int) + 1).toNat = J + 1 := by omega
        have j6 : (0 : Int) ≤ (J : Int) + 1 := by omega
        by_cases hlt2 : x < y
        · have STEP := Lib.hid (show Ob.sink ((l'.set (J + 1) y).set J x) J = Ob.sink (Ob.srt l k) (k + 1) from by
            rw [← HS.out]
            show _ = if l'.getD (J + 1) 0 < l'.getD J 0 then _ else _
            rw [hx, hy, if_pos hlt2])
          have LS := Lib.hid (less_any x y)
          rw [show decide (x < y) = true from by simpa using hlt2] at LS
          clear hx hy hlt2
          go_wp2
          go_quiet ((go_at_call 106; exact Calls.quiet_of_same ((LS.out _).mono fun _ _ h => ⟨h.1, h.2.symm⟩)))
          go_wp2
          go_region
          all_goals
            go_wp2
            go_roundw
            case rel =>
              refine ⟨J, (l'.set (J + 1) y).set J x, by omega, by go_num, ?_, STEP.out, ?_⟩
              · first
                  | exact (O2.out.set_ (J + 1) y).set_ J x
                  | exact ((O2.out.drewN _).set_ (J + 1) y).set_ J x
                  | (trace_state; fail)
              · first
                  | exact ((K2.out.drewN _).set_ (by omega) (by omega) _).set_ (by omega) (by omega) _
                  | (trace_state; fail)
            case measure => first | (simp [intOf]; done) | (simp [intOf]; omega)
        · have FIN := Lib.hid (show l' = Ob.srt l (k + 1) from by
            rw [SK.out, ← HS.out]
            show _ = if l'.getD (J + 1) 0 < l'.getD J 0 then _ else _
            rw [hx, hy, if_neg hlt2])
          have LS := Lib.hid (less_any x y)
          rw [show decide (x < y) = false from by simpa using hlt2] at LS
          clear hx hy hlt2
          go_wp2
          go_quiet ((go_at_call 106; exact Calls.quiet_of_same ((LS.out _).mono fun _ _ h => ⟨h.1, h.2.symm⟩)))
          all_goals
            go_wp2
            go_roundw
            case rel => exact ⟨k + 1, by omega, by go_num, by rw [← FIN.out]; exact O2.out, K2.out.drewN _⟩
            case measure => simp [intOf]; omega
    · have i1 : ¬ (k : Int) + 1 < (n : Int) := by omega
      obtain rfl : n = k + 1 := by omega
      go_wp2
      go_end0
      exact ⟨rfl, O.out, KP.out⟩
end Go.Proofs.Ytiibedpacnficaa
