/- The library's sort of a short list from its outside, and its search in a list. No condition but those that each theorem names. -/
import Derived.Test.YtiibedpacnficaaOrB
import Derived.Lib.Tables
namespace Go.Proofs.Ytiibedpacnficaa
open Go.RowKit

set_option maxHeartbeats 8000000 in
theorem len64_any (x : Nat) (h : x ≤ 4) (w : World) : Calls Try.prog 110 #[.int .u64 x] w fun e w' => (∃ v : Int, e = .returned (.int .i64 v)) ∧ w' = w := by
  have x0 : (0 : Int) ≤ (x : Int) := by omega
  have x1 : (x : Int) ≤ 255 := by omega
  have x2 : ¬ (4294967296 : Int) ≤ (x : Int) := by omega
  have x3 : ¬ (65536 : Int) ≤ (x : Int) := by omega
  have x4 : ¬ (256 : Int) ≤ (x : Int) := by omega
  have x5 : (x : Int) % 256 = (x : Int) := by omega
  go_enter Try.func110, Try.ntmps110
  go_wp2
  go_ret
  exact ⟨⟨_, rfl⟩, rfl⟩

set_option maxHeartbeats 8000000 in
theorem len_any (x : Nat) (h : x ≤ 4) (w : World) : Calls Try.prog 87 #[.int .u64 x] w fun e w' => (∃ v : Int, e = .returned (.int .i64 v)) ∧ w' = w := by
  have HL := Lib.hid (len64_any x h)
  go_enter Try.func87, Try.ntmps87
  go_wp2_with fail
  refine (HL.out _).mono ?_
  rintro e w1 ⟨⟨v, rfl⟩, rfl⟩
  go_wp2
  go_ret
  exact ⟨⟨_, rfl⟩, rfl⟩

set_option maxHeartbeats 8000000 in
theorem pdq_any (A : Option Addr) (n c : Nat) (l : List Int) (lo hi : Nat) (v : Int) (w : World) (h : Own w lo hi A n c l) (h1 : 1 ≤ n) (h4 : n ≤ 4) :
    Calls Try.prog 86 #[.slice A n c, .int .i64 0, .int .i64 n, .int .i64 v] w fun e w' => e = .returned (.tuple #[]) ∧ Own w' lo hi A n c (Ob.srt l (n - 1)) ∧ Kept lo hi w w' := by
  have HI := Lib.hid (insertion_any A n c l lo hi w h h1 h4)
  clear h
  have n0 : (n : Int) ≤ 12 := by omega
  have n1 : (0 : Int) ≤ (n : Int) := by omega
  go_enter Try.func86, Try.ntmps86
  go_wp2
  go_loopw [1, 2, 3, 8] (fun a1 a2 a3 b W => a1 = .int .i64 0 ∧ a2 = .int .i64 n ∧ a3 = .int .i64 v ∧ b = .bool true ∧ W = w) (fun _ _ _ _ _ => 0)
  case atStart => exact ⟨rfl, rfl, rfl, rfl, rfl⟩
  case round =>
    obtain ⟨rfl, rfl, rfl, rfl, rfl⟩ := hrel
    go_wp2_with fail
    refine HI.out.mono ?_
    rintro e w1 ⟨rfl, ho, hk⟩
    have O := Lib.hid ho
    have K := Lib.hid hk
    clear ho hk
    go_wp2
    refine bodyPost_ret (results_none rfl _ _ _) rfl ?_
    exact ⟨rfl, O.out, K.out⟩

set_option maxHeartbeats 8000000 in
theorem sort_any (A : Option Addr) (n c : Nat) (l : List Int) (lo hi : Nat) (w : World) (h : Own w lo hi A n c l) (h1 : 1 ≤ n) (h4 : n ≤ 4) :
    Calls Try.prog 64 #[.slice A n c] w fun e w' => e = .returned (.tuple #[]) ∧ Own w' lo hi A n c (Ob.srt l (n - 1)) ∧ Kept lo hi w w' := by
  have HI := Lib.hid (fun v => pdq_any A n c l lo hi v w h h1 h4)
  have HL := Lib.hid (len_any n h4)
  clear h
  have w1 : IntKind.u64.wrap (n : Int) = (n : Int) := by rw [IntKind.wrap_u64]; omega
  go_enter Try.func64, Try.ntmps64
  go_wp2_with fail
  refine (HL.out _).mono ?_
  rintro e w1 ⟨⟨v, rfl⟩, rfl⟩
  go_wp2_with fail
  refine (HI.out v).mono ?_
  rintro e w1 ⟨rfl, ho, hk⟩
  have O := Lib.hid ho
  have K := Lib.hid hk
  clear ho hk
  go_wp2
  go_end0
  exact ⟨rfl, O.out, K.out⟩

set_option maxHeartbeats 1000000 in
theorem index_any (A : Option Addr) (n c : Nat) (l : List Int) (y : Int) (w : World) (h : Ints w w.heap.size A n l) (hn : n ≤ 2304) :
    Calls Try.prog 99 #[.slice A n c, .int .i64 y] w fun e w' => (((∀ i, i < n → l.getD i 0 ≠ y) ∧ e = .returned (.int .i64 (-1))) ∨ ∃ k : Nat, k < n ∧ l.getD k 0 = y ∧ e = .returned (.int .i64 k)) ∧ w = w' := by
  have H := Lib.hid h
  clear h
  go_enter Try.func99, Try.ntmps99
  go_wp2
  go_loop [8, 5] (fun x _ => ∃ k : Nat, k ≤ n ∧ x = .int .i64 k ∧ ∀ i, i < k → l.getD i 0 ≠ y) (fun x _ => n - (intOf x).toNat)
  case atStart => exact ⟨0, Nat.zero_le _, rfl, fun i hi => by omega⟩
  case round =>
    obtain ⟨k, hk, rfl, hin⟩ := hrel
    have HI := Lib.hid hin
    clear hin
    by_cases hlt : k < n
    · obtain ⟨b, off, z, rfl, hb, hz, hc⟩ := H.out.at_z hlt
      have i0 : (0 : Int) ≤ (k : Int) := by omega
      have i1 : (k : Int) < (n : Int) := by omega
      have HZ := Lib.hid hz
      clear hz
      by_cases hz0 : y = z
      · have t1 : (y == z) = true := by simpa using hz0
        have HZ0 := Lib.hid hz0
        clear hz0
        go_wp2
        go_ret
        exact ⟨.inr ⟨k, hlt, by show l.getD k 0 = y; rw [HZ.out]; exact HZ0.out.symm, rfl⟩, rfl⟩
      · have t1 : (y == z) = false := by simpa using hz0
        have HZ0 := Lib.hid hz0
        clear hz0
        go_wp2
        go_round
        case rel => exact ⟨k + 1, by omega, by go_num, fun i hi => (if e : i = k then (by rw [e, HZ.out]; exact fun h => HZ0.out h.symm) else HI.out i (by omega))⟩
        case measure => simp [intOf]; omega
    · obtain rfl : k = n := by omega
      go_wp2
      go_ret
      exact ⟨.inl ⟨HI.out, rfl⟩, rfl⟩

theorem mem_getD {l : List Int} {y : Int} : y ∈ l ↔ ∃ k, k < l.length ∧ l.getD k 0 = y := by
  constructor
  · intro h
    obtain ⟨k, hk, e⟩ := List.getElem_of_mem h
    exact ⟨k, hk, by rw [List.getD_eq_getElem?_getD, List.getElem?_eq_getElem hk]; exact e⟩
  · rintro ⟨k, hk, rfl⟩
    exact Ob.getD_mem' hk

set_option maxHeartbeats 1000000 in
theorem contains_any (A : Option Addr) (n c : Nat) (l : List Int) (y : Int) (w : World) (h : Ints w w.heap.size A n l) (hl : l.length = n) (hn : n ≤ 2304) :
    Calls Try.prog 85 #[.slice A n c, .int .i64 y] w fun e w' => e = .returned (.bool (decide (y ∈ l))) ∧ w = w' := by
  have HI := Lib.hid (index_any A n c l y w h hn)
  have HLn := Lib.hid hl
  clear h hl
  go_enter Try.func85, Try.ntmps85
  go_wp2_with fail
  refine HI.out.mono ?_
  rintro e w1 ⟨h1, rfl⟩
  rcases h1 with ⟨hall, rfl⟩ | ⟨k, hk, hz, rfl⟩
  · have HA := Lib.hid (show decide (y ∈ l) = false from by
      rw [decide_eq_false_iff_not, mem_getD]
      rintro ⟨k, hk, e⟩
      exact hall k (by have := HLn.out; omega) e)
    clear hall
    go_wp2
    go_ret
    exact ⟨by rw [HA.out]; rfl, rfl⟩
  · have HZ := Lib.hid (show decide (y ∈ l) = true from by
      rw [decide_eq_true_iff, mem_getD]
      exact ⟨k, by have := HLn.out; omega, hz⟩)
    have d1 : (0 : Int) ≤ (k : Int) := by omega
    clear hz
    go_wp2
    go_ret
    exact ⟨by rw [HZ.out]; rfl, rfl⟩
end Go.Proofs.Ytiibedpacnficaa
