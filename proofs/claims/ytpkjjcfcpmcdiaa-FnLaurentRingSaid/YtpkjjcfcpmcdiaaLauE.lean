/- Contracts of the functions that give a polynomial's value at a sign, the program's and the specification's. No condition but those that each theorem names. -/
import Derived.Test.YtpkjjcfcpmcdiaaLauB
import Derived.Test.YtpkjjcfcpmcdiaaGrpB
namespace Go.Proofs.Ytpkjjcfcpmcdiaa
open Go.RowKit

/-- The sum of the first k terms at the sign s. -/
def evS (s low : Int) (zs : List Int) : Nat → Int
  | 0 => 0
  | k + 1 => evS s low zs k + (if (low + (k : Int)).tmod 2 = 0 then zs.getD k 0 else s * zs.getD k 0)
theorem evS_even (s low : Int) (zs : List Int) {k : Nat} (h : (low + (k : Int)).tmod 2 = 0) : evS s low zs (k + 1) = evS s low zs k + zs.getD k 0 := by rw [evS, if_pos h]
theorem evS_odd (s low : Int) (zs : List Int) {k : Nat} (h : ¬ (low + (k : Int)).tmod 2 = 0) : evS s low zs (k + 1) = evS s low zs k + s * zs.getD k 0 := by rw [evS, if_neg h]
theorem evS_le {s low : Int} {zs : List Int} (hs : s = 1 ∨ s = -1) (hz : ∀ i, -1000000000000 ≤ zs.getD i 0 ∧ zs.getD i 0 ≤ 1000000000000) : ∀ k : Nat, -((k : Int) * 1000000000000) ≤ evS s low zs k ∧ evS s low zs k ≤ (k : Int) * 1000000000000
  | 0 => by simp [evS]
  | k + 1 => by
    have h1 := evS_le hs hz k (low := low)
    have h2 := hz k
    rw [evS]
    obtain ⟨x, hx⟩ : ∃ x, zs.getD k 0 = x := ⟨_, rfl⟩
    rw [hx] at h2 ⊢
    rcases hs with rfl | rfl <;> split <;> omega
theorem evS_bound {s low : Int} {zs : List Int} (hs : s = 1 ∨ s = -1) (hz : ∀ i, -1000000000000 ≤ zs.getD i 0 ∧ zs.getD i 0 ≤ 1000000000000) {k : Nat} (hk : k ≤ 160) : -1000000000000000 ≤ evS s low zs k ∧ evS s low zs k ≤ 1000000000000000 := by
  have := evS_le (low := low) hs hz k
  omega

section
variable (r e : Int) (A : Option Addr) (n c : Nat) (zs : List Int) (w : World) (h : Ints w w.heap.size A n zs) (hn : n ≤ 1048576)
include h hn

set_option maxHeartbeats 2000000 in
theorem ev_impl_no (hP : ¬ (Lau.LOk r zs ∧ (e = 1 ∨ e = -1))) : Calls Try.prog 11 #[.agg #[.int .i64 r, .slice A n c], .int .i64 e] w fun e1 w' => e1 = .returned (.tuple #[.int .i64 0, .bool false]) ∧ Below w.heap.size w w' := by
  by_cases hL : Lau.LOk r zs
  · have HL := Lib.hid (isLi_yes r A n c zs _ (h.into (al1 w (Obj.cells #[.int .i64 r, .slice A n c] 26))) hn hL)
    have e1 : ¬ e = 1 := fun x => hP ⟨hL, .inl x⟩
    have e2 : ¬ e = -1 := fun x => hP ⟨hL, .inr x⟩
    have t1 : (e != 1) = true := by simpa using e1
    have t2 : (e != -1) = true := by simpa using e2
    have t3 : (e == 1) = false := by simpa using e1
    have t4 : (e == -1) = false := by simpa using e2
    clear h hP hL e1 e2
    go_enter Try.func11, Try.ntmps11
    go_wp2_with fail
    refine HL.out.mono ?_
    rintro e1 w1 ⟨rfl, hb⟩
    have HB := Lib.hid (on1 _ hb)
    clear hb
    go_wp2
    go_ret2
    exact ⟨rfl, HB.out⟩
  · have HL := Lib.hid (isLi_no r A n c zs _ (h.into (al1 w (Obj.cells #[.int .i64 r, .slice A n c] 26))) hn hL)
    clear h hP hL
    go_enter Try.func11, Try.ntmps11
    go_wp2_with fail
    refine HL.out.mono ?_
    rintro e1 w1 ⟨rfl, hb⟩
    have HB := Lib.hid (on1 _ hb)
    clear hb
    go_wp2
    go_ret2
    exact ⟨rfl, HB.out⟩

end

section
variable (r : Int) (A : Option Addr) (n c : Nat) (zs : List Int) (w : World) (h : Ints w w.heap.size A n zs) (hn : n ≤ 1048576)
include h hn
set_option maxHeartbeats 4000000 in
theorem ev_impl_one (hP : Lau.LOk r zs) : Calls Try.prog 11 #[.agg #[.int .i64 r, .slice A n c], .int .i64 1] w fun e1 w' => e1 = .returned (.tuple #[.int .i64 (evS 1 r zs n), .bool true]) ∧ Below w.heap.size w w' := by
  have HL := Lib.hid (isLi_yes r A n c zs _ (h.into (al1 w (Obj.cells #[.int .i64 r, .slice A n c] 26))) hn hP)
  have X0 := Lib.hid (BoxG.new w 26 (.int .i64 r) (.slice A n c))
  have H := Lib.hid h
  have n160 : n ≤ 160 := by have := hP.len; have := h.1; omega
  have hlow := hP.low
  have HP := Lib.hid hP
  clear h hP
  go_enter Try.func11, Try.ntmps11
  go_wp2_with fail
  refine HL.out.mono ?_
  rintro e1 w1 ⟨rfl, hb⟩
  have HB := Lib.hid (on1 _ hb)
  have H1 := Lib.hid (H.out.into HB.out)
  obtain ⟨x0, x1⟩ := X0.out.below hb (by simp)
  clear hb
  go_wp2
  go_loop [23, 6] (fun x y => ∃ k : Nat, k ≤ n ∧ x = .int .i64 k ∧ y = .int .i64 (evS 1 r zs k)) (fun x _ => n - (intOf x).toNat)
  case atStart => exact ⟨0, Nat.zero_le _, rfl, rfl⟩
  case round =>
    obtain ⟨k, hk, rfl, rfl⟩ := hrel
    by_cases hlt : k < n
    · obtain ⟨v1, v2⟩ := evS_bound (s := 1) (low := r) (zs := zs) (by omega) HP.out.ent' (k := k) (by omega)
      obtain ⟨b, off, z, rfl, _, hz, hc⟩ := H1.out.at_z hlt
      have hbz := HP.out.ent' k
      rw [hz] at hbz
      obtain ⟨b1, b2⟩ := hbz
      have i2 : (0 : Int) ≤ (k : Int) := by omega
      have i3 : (k : Int) < (n : Int) := by omega
      obtain ⟨w3, w4⟩ := tmod_facts (x := r + (k : Int)) (y := 2) (by omega) (by decide)
      by_cases hp : (r + (k : Int)).tmod 2 = 0
      · have Q := Lib.hid (show evS 1 r zs (k + 1) = evS 1 r zs k + z from by rw [evS_even _ _ _ hp, hz])
        have t1 : ((r + (k : Int)).tmod 2 == 0) = true := by simpa using hp
        have t2 : ((r + (k : Int)).tmod 2 != 0) = false := by simpa using hp
        obtain ⟨v, hv⟩ : ∃ v, evS 1 r zs k = v := ⟨_, rfl⟩
        rw [hv] at Q v1 v2
        rw [hv]
        clear hz hp hv
        go_wp2
        go_round
        case rel => exact ⟨k + 1, by omega, by go_num, by rw [Q.out]⟩
        case measure => simp [intOf]; omega
      · have Q := Lib.hid (show evS 1 r zs (k + 1) = evS 1 r zs k + 1 * z from by rw [evS_odd _ _ _ hp, hz])
        have t1 : ((r + (k : Int)).tmod 2 == 0) = false := by simpa using hp
        have t2 : ((r + (k : Int)).tmod 2 != 0) = true := by simpa using hp
        obtain ⟨v, hv⟩ : ∃ v, evS 1 r zs k = v := ⟨_, rfl⟩
        rw [hv] at Q v1 v2
        rw [hv]
        clear hz hp hv
        go_wp2
        go_round
        case rel => exact ⟨k + 1, by omega, by go_num, by rw [Q.out]; first | rfl | (congr 1; omega)⟩
        case measure => simp [intOf]; omega
    · obtain rfl : k = n := by omega
      go_wp2
      go_ret2
      exact ⟨rfl, HB.out⟩
set_option maxHeartbeats 4000000 in
theorem ev_impl_neg (hP : Lau.LOk r zs) : Calls Try.prog 11 #[.agg #[.int .i64 r, .slice A n c], .int .i64 (-1)] w fun e1 w' => e1 = .returned (.tuple #[.int .i64 (evS (-1) r zs n), .bool true]) ∧ Below w.heap.size w w' := by
  have HL := Lib.hid (isLi_yes r A n c zs _ (h.into (al1 w (Obj.cells #[.int .i64 r, .slice A n c] 26))) hn hP)
  have X0 := Lib.hid (BoxG.new w 26 (.int .i64 r) (.slice A n c))
  have H := Lib.hid h
  have n160 : n ≤ 160 := by have := hP.len; have := h.1; omega
  have hlow := hP.low
  have HP := Lib.hid hP
  clear h hP
  go_enter Try.func11, Try.ntmps11
  go_wp2_with fail
  refine HL.out.mono ?_
  rintro e1 w1 ⟨rfl, hb⟩
  have HB := Lib.hid (on1 _ hb)
  have H1 := Lib.hid (H.out.into HB.out)
  obtain ⟨x0, x1⟩ := X0.out.below hb (by simp)
  clear hb
  go_wp2
  go_loop [23, 6] (fun x y => ∃ k : Nat, k ≤ n ∧ x = .int .i64 k ∧ y = .int .i64 (evS (-1) r zs k)) (fun x _ => n - (intOf x).toNat)
  case atStart => exact ⟨0, Nat.zero_le _, rfl, rfl⟩
  case round =>
    obtain ⟨k, hk, rfl, rfl⟩ := hrel
    by_cases hlt : k < n
    · obtain ⟨v1, v2⟩ := evS_bound (s := (-1)) (low := r) (zs := zs) (by omega) HP.out.ent' (k := k) (by omega)
      obtain ⟨b, off, z, rfl, _, hz, hc⟩ := H1.out.at_z hlt
      have hbz := HP.out.ent' k
      rw [hz] at hbz
      obtain ⟨b1, b2⟩ := hbz
      have i2 : (0 : Int) ≤ (k : Int) := by omega
      have i3 : (k : Int) < (n : Int) := by omega
      obtain ⟨w3, w4⟩ := tmod_facts (x := r + (k : Int)) (y := 2) (by omega) (by decide)
      by_cases hp : (r + (k : Int)).tmod 2 = 0
      · have Q := Lib.hid (show evS (-1) r zs (k + 1) = evS (-1) r zs k + z from by rw [evS_even _ _ _ hp, hz])
        have t1 : ((r + (k : Int)).tmod 2 == 0) = true := by simpa using hp
        have t2 : ((r + (k : Int)).tmod 2 != 0) = false := by simpa using hp
        obtain ⟨v, hv⟩ : ∃ v, evS (-1) r zs k = v := ⟨_, rfl⟩
        rw [hv] at Q v1 v2
        rw [hv]
        clear hz hp hv
        go_wp2
        go_round
        case rel => exact ⟨k + 1, by omega, by go_num, by rw [Q.out]⟩
        case measure => simp [intOf]; omega
      · have Q := Lib.hid (show evS (-1) r zs (k + 1) = evS (-1) r zs k + (-1) * z from by rw [evS_odd _ _ _ hp, hz])
        have t1 : ((r + (k : Int)).tmod 2 == 0) = false := by simpa using hp
        have t2 : ((r + (k : Int)).tmod 2 != 0) = true := by simpa using hp
        obtain ⟨v, hv⟩ : ∃ v, evS (-1) r zs k = v := ⟨_, rfl⟩
        rw [hv] at Q v1 v2
        rw [hv]
        clear hz hp hv
        go_wp2
        go_round
        case rel => exact ⟨k + 1, by omega, by go_num, by rw [Q.out]; first | rfl | (congr 1; omega)⟩
        case measure => simp [intOf]; omega
    · obtain rfl : k = n := by omega
      go_wp2
      go_ret2
      exact ⟨rfl, HB.out⟩
end
section
variable (r : Int) (A : Option Addr) (n c : Nat) (zs : List Int) (w : World) (h : Ints w w.heap.size A n zs) (hn : n ≤ 1048576)
include h hn
end

end Go.Proofs.Ytpkjjcfcpmcdiaa
