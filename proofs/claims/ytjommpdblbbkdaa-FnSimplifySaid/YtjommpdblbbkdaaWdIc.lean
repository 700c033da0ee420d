/- How often a letter occurs in a word: the specification's l04Count. No condition but those that each theorem names. -/
import Derived.Test.YtjommpdblbbkdaaWdP
namespace Go.Proofs.Ytjommpdblbbkdaa
open Go.RowKit

set_option maxHeartbeats 1000000 in
theorem count_spec (A : Option Addr) (n c : Nat) (zs : List Int) (x : Int) (B : Nat) (w : World) (h : Ints w B A n zs) (hn : n ≤ 1048576) :
    Calls Try.prog 56 #[.slice A n c, .int .i64 x] w fun e w' => e = .returned (.int .i64 (zs.count x : Int)) ∧ w = w' := by
  have hl := Lib.hid h.1
  have H := Lib.hid h
  clear h
  go_enter Try.func56, Try.ntmps56
  go_wp2
  go_loop [6, 5] (fun i m => ∃ k : Nat, k ≤ n ∧ i = .int .i64 k ∧ m = .int .i64 ((zs.take k).count x : Int)) (fun i _ => n - (intOf i).toNat)
  case atStart => exact ⟨0, Nat.zero_le _, rfl, by simp⟩
  case round =>
    obtain ⟨k, hk, rfl, rfl⟩ := hrel
    have hcl : (zs.take k).count x ≤ k := Nat.le_trans List.count_le_length (List.length_take_le _ _)
    by_cases hlt : k < n
    · have NX := Lib.hid (show (zs.take (k + 1)).count x = (zs.take k).count x + (if zs.getD k 0 = x then 1 else 0) from by
        rw [Wd.take_snoc zs (by rw [hl.out]; exact hlt), List.count_append, List.count_singleton]
        by_cases e : zs.getD k 0 = x
        · simp
        · have e' : (zs.getD k 0 == x) = false := by simpa using e
          rw [e', if_neg e]; simp)
      obtain ⟨q, hq⟩ : ∃ q, (zs.take k).count x = q := ⟨_, rfl⟩
      obtain ⟨b, off, z, rfl, hb, hz, hc⟩ := H.out.at_z hlt
      rw [hq] at NX hcl ⊢
      rw [hz] at NX
      clear hq hz
      by_cases e : z = x
      · have te : (z == x) = true := by simpa using e
        have N2 := Lib.hid (show (zs.take (k + 1)).count x = q + 1 from by rw [NX.out, if_pos e])
        clear e
        go_wp2
        go_round
        case rel => exact ⟨k + 1, by omega, by go_num, by rw [N2.out]; go_num⟩
        case measure => simp [intOf]; omega
      · have te : (z == x) = false := by simpa using e
        have N2 := Lib.hid (show (zs.take (k + 1)).count x = q from by rw [NX.out, if_neg e]; rfl)
        clear e
        go_wp2
        go_round
        case rel => exact ⟨k + 1, by omega, by go_num, by rw [N2.out]⟩
        case measure => simp [intOf]; omega
    · obtain rfl : k = n := by omega
      have TA := Lib.hid (show (zs.take k).count x = zs.count x from by rw [List.take_of_length_le (Nat.le_of_eq hl.out)])
      rw [TA.out]
      go_wp2
      go_ret
      exact ⟨rfl, rfl⟩

end Go.Proofs.Ytjommpdblbbkdaa
