/- Contracts of the two functions that say whether a matrix is valid, the program's and the specification's. No condition but those that each theorem names. -/
import Derived.Test.YtpojkahlllochaaMatB
namespace Go.Proofs.Ytpojkahlllochaa
open Go.RowKit

def MOk (r q : Int) (zs : List Int) : Prop :=
  0 ≤ r ∧ r ≤ 48 ∧ 0 ≤ q ∧ q ≤ 48 ∧ (zs.length : Int) = r * q ∧ ∀ i, i < zs.length → -1000000000000 ≤ zs.getD i 0 ∧ zs.getD i 0 ≤ 1000000000000
def SaysB (P : Prop) (B : Nat) (w : World) (e : Ending) (w' : World) : Prop := ∃ b, e = .returned (.bool b) ∧ (b = true ↔ P) ∧ Below B w w'
theorem SaysB.yes {P : Prop} {B : Nat} {w : World} {e : Ending} {w' : World} (h : SaysB P B w e w') (hP : P) : e = .returned (.bool true) ∧ Below B w w' := by
  obtain ⟨b, rfl, hb, hw⟩ := h
  exact ⟨by rw [hb.2 hP], hw⟩
theorem SaysB.no {P : Prop} {B : Nat} {w : World} {e : Ending} {w' : World} (h : SaysB P B w e w') (hP : ¬ P) : e = .returned (.bool false) ∧ Below B w w' := by
  obtain ⟨b, rfl, hb, hw⟩ := h
  cases b
  · exact ⟨rfl, hw⟩
  · exact absurd (hb.1 rfl) hP
theorem rq_lo {r q : Int} (h : 0 ≤ r) (h' : 0 ≤ q) : 0 ≤ r * q := Int.mul_nonneg h h'
theorem rq_hi {r q : Int} (_h : 0 ≤ r) (h2 : r ≤ 48) (h' : 0 ≤ q) (h3 : q ≤ 48) : r * q ≤ 2304 := by
  have := Int.mul_le_mul h2 h3 h' (by omega : (0:Int) ≤ 48); omega

/-- All of the first k numbers lie within the limit. -/
def Within (zs : List Int) (k : Nat) : Prop := ∀ i, i < k → -1000000000000 ≤ zs.getD i 0 ∧ zs.getD i 0 ≤ 1000000000000

theorem within_succ {zs : List Int} {k : Nat} (h : Within zs k) (hk : -1000000000000 ≤ zs.getD k 0 ∧ zs.getD k 0 ≤ 1000000000000) : Within zs (k + 1) := fun i hi => by
  by_cases e : i = k
  · subst e; exact hk
  · exact h i (by omega)

set_option maxHeartbeats 400000 in
theorem isEntry_yes (x : Int) (w : World) (h : -1000000000000 ≤ x ∧ x ≤ 1000000000000) : Calls Try.prog 141 #[.int .i64 x] w fun e w' => e = .returned (.bool true) ∧ w = w' := by
  have d0 : decide (-1000000000000 ≤ x) = true := by simpa using h.1
  have d : decide (x ≤ 1000000000000) = true := by simpa using h.2
  clear h
  go_enter Try.func141, Try.ntmps141
  go_wp2
  go_ret
  exact ⟨rfl, rfl⟩
set_option maxHeartbeats 400000 in
theorem isEntry_no (x : Int) (w : World) (h : ¬ (-1000000000000 ≤ x ∧ x ≤ 1000000000000)) : Calls Try.prog 141 #[.int .i64 x] w fun e w' => e = .returned (.bool false) ∧ w = w' := by
  by_cases h1 : -1000000000000 ≤ x
  · have d0 : decide (-1000000000000 ≤ x) = true := by simpa using h1
    have d : decide (x ≤ 1000000000000) = false := by simp; omega
    clear h
    go_enter Try.func141, Try.ntmps141
    go_wp2
    go_ret
    exact ⟨rfl, rfl⟩
  · have d0 : decide (-1000000000000 ≤ x) = false := by simp; omega
    clear h
    go_enter Try.func141, Try.ntmps141
    go_wp2
    go_ret
    exact ⟨rfl, rfl⟩

set_option maxHeartbeats 1000000 in
theorem areEntries_any (A : Option Addr) (n c : Nat) (zs : List Int) (w : World) (h : Ints w w.heap.size A n zs) (hn : n ≤ 1048576) :
    Calls Try.prog 123 #[.slice A n c] w (SaysB (Within zs n) w.heap.size w) := by
  have H := Lib.hid h
  clear h
  go_enter Try.func123, Try.ntmps123
  go_wp2
  go_loop [7, 4] (fun i _ => ∃ k : Nat, k ≤ n ∧ i = .int .i64 k ∧ Within zs k) (fun i _ => n - (intOf i).toNat)
  case atStart => exact ⟨0, Nat.zero_le _, rfl, fun i hi => by omega⟩
  case round =>
    obtain ⟨k, hk, rfl, hin⟩ := hrel
    have HI := Lib.hid hin
    clear hin
    by_cases hlt : k < n
    · obtain ⟨b, off, z, rfl, hb, hz, hc⟩ := H.out.at_z hlt
      have HZ := Lib.hid hz
      clear hz
      by_cases hr : -1000000000000 ≤ z ∧ z ≤ 1000000000000
      · have HR := Lib.hid hr
        clear hr
        go_wp2_with (go_at_call 141; refine (isEntry_yes _ _ HR.out).mono ?_; rintro e w' ⟨rfl, rfl⟩)
        go_round
        case rel => exact ⟨k + 1, by omega, by go_num, within_succ HI.out (by rw [HZ.out]; exact HR.out)⟩
        case measure => simp [intOf]; omega
      · have HR := Lib.hid hr
        clear hr
        go_wp2_with (go_at_call 141; refine (isEntry_no _ _ HR.out).mono ?_; rintro e w' ⟨rfl, rfl⟩)
        go_ret
        exact ⟨_, rfl, ⟨fun h => (by simp at h), fun h => absurd (by have := h k hlt; rw [HZ.out] at this; exact this) HR.out⟩, Below.refl _ _⟩
    · obtain rfl : k = n := by omega
      go_wp2
      go_ret
      exact ⟨_, rfl, ⟨fun _ => HI.out, fun _ => rfl⟩, Below.refl _ _⟩

set_option maxHeartbeats 400000 in
theorem side_yes (a : Int) (w : World) (h : 0 ≤ a) (h' : a ≤ 48) : Calls Try.prog 122 #[.int .i64 a] w fun e w' => e = .returned (.bool true) ∧ w = w' := by
  have d : decide (a ≤ 48) = true := by simpa using h'
  go_enter Try.func122, Try.ntmps122
  go_wp2
  go_ret
  exact ⟨rfl, rfl⟩
set_option maxHeartbeats 400000 in
theorem side_no (a : Int) (w : World) (h : ¬ (0 ≤ a ∧ a ≤ 48)) : Calls Try.prog 122 #[.int .i64 a] w fun e w' => e = .returned (.bool false) ∧ w = w' := by
  by_cases h1 : 0 ≤ a
  · have d : decide (a ≤ 48) = false := by simp; omega
    clear h
    go_enter Try.func122, Try.ntmps122
    go_wp2
    go_ret
    exact ⟨rfl, rfl⟩
  · clear h
    go_enter Try.func122, Try.ntmps122
    go_wp2
    go_ret
    exact ⟨rfl, rfl⟩

set_option maxHeartbeats 1000000 in
theorem isM_impl (r q : Int) (A : Option Addr) (n c : Nat) (zs : List Int) (w : World) (h : Ints w w.heap.size A n zs) (hn : n ≤ 1048576) :
    Calls Try.prog 113 #[.agg #[.int .i64 r, .int .i64 q, .slice A n c]] w (SaysB (MOk r q zs) w.heap.size w) := by
  have hl := h.1
  have H := Lib.hid ((h.into (al1 w (Obj.cells #[.int .i64 r, .int .i64 q, .slice A n c] 77))))
  have HL := Lib.hid hl
  clear h hl
  by_cases r0 : 0 ≤ r
  case neg =>
    go_enter Try.func113, Try.ntmps113
    go_wp2
    go_ret
    exact ⟨_, rfl, ⟨fun h => (by simp at h), fun h => (by have := h.1; omega)⟩, al1 _ _⟩
  by_cases r1 : r ≤ 48
  case neg =>
    go_enter Try.func113, Try.ntmps113
    go_wp2
    go_ret
    exact ⟨_, rfl, ⟨fun h => (by simp at h), fun h => (by have := h.2.1; omega)⟩, al1 _ _⟩
  by_cases q0 : 0 ≤ q
  case neg =>
    go_enter Try.func113, Try.ntmps113
    go_wp2
    go_ret
    exact ⟨_, rfl, ⟨fun h => (by simp at h), fun h => (by have := h.2.2.1; omega)⟩, al1 _ _⟩
  by_cases q1 : q ≤ 48
  case neg =>
    go_enter Try.func113, Try.ntmps113
    go_wp2
    go_ret
    exact ⟨_, rfl, ⟨fun h => (by simp at h), fun h => (by have := h.2.2.2.1; omega)⟩, al1 _ _⟩
  have p0 := rq_lo r0 q0
  have p1 := rq_hi r0 r1 q0 q1
  by_cases en : (n : Int) = r * q
  case neg =>
    have e1 : ((n : Int) == r * q) = false := by simpa using en
    have e2 : ((n : Int) != r * q) = true := by simpa using en
    have EN := Lib.hid en
    clear en
    go_enter Try.func113, Try.ntmps113
    go_wp2
    go_ret
    exact ⟨_, rfl, ⟨fun h => (by simp at h), fun h => absurd (by rw [← HL.out]; exact h.2.2.2.2.1) EN.out⟩, al1 _ _⟩
  have e1 : ((n : Int) == r * q) = true := by simpa using en
  have e2 : ((n : Int) != r * q) = false := by simpa using en
  have EN := Lib.hid en
  clear en
  go_enter Try.func113, Try.ntmps113
  go_wp2_with (first | (go_at_call 122; refine (side_yes _ _ (by omega) (by omega)).mono ?_; rintro e w' ⟨rfl, rfl⟩) | (go_at_call 123; refine (areEntries_any A n c zs _ H.out hn).mono ?_; rintro e w1 ⟨b, rfl, hb, hbel⟩))
  have EB := Lib.hid (on1 _ hbel)
  have HB := Lib.hid hb
  clear hb hbel
  go_wp2
  go_ret
  exact ⟨b, rfl, ⟨fun h => ⟨r0, r1, q0, q1, by rw [HL.out]; exact EN.out, fun i hi => HB.out.1 h i (by have := HL.out; omega)⟩, fun h => HB.out.2 fun i hi => h.2.2.2.2.2 i (by have := HL.out; omega)⟩, EB.out⟩

set_option maxHeartbeats 1000000 in
theorem isM_spec (r q : Int) (A : Option Addr) (n c : Nat) (zs : List Int) (w : World) (h : Ints w w.heap.size A n zs) (hn : n ≤ 1048576) :
    Calls Try.prog 101 #[.agg #[.int .i64 r, .int .i64 q, .slice A n c]] w (SaysB (MOk r q zs) w.heap.size w) := by
  have hl := h.1
  have H := Lib.hid ((h.into (al1 w (Obj.cells #[.int .i64 r, .int .i64 q, .slice A n c] 77))))
  have HL := Lib.hid hl
  clear h hl
  by_cases r0 : 0 ≤ r
  case neg =>
    go_enter Try.func101, Try.ntmps101
    go_wp2_with (go_at_call 55; first | (refine (in_yes _ _ _ _ (by omega) (by omega)).mono ?_; rintro e w' ⟨rfl, rfl⟩) | (refine (in_no _ _ _ _ (by omega)).mono ?_; rintro e w' ⟨rfl, rfl⟩))
    go_ret
    exact ⟨_, rfl, ⟨fun h => (by simp at h), fun h => (by have := h.1; omega)⟩, al1 _ _⟩
  by_cases r1 : r ≤ 48
  case neg =>
    go_enter Try.func101, Try.ntmps101
    go_wp2_with (go_at_call 55; first | (refine (in_yes _ _ _ _ (by omega) (by omega)).mono ?_; rintro e w' ⟨rfl, rfl⟩) | (refine (in_no _ _ _ _ (by omega)).mono ?_; rintro e w' ⟨rfl, rfl⟩))
    go_ret
    exact ⟨_, rfl, ⟨fun h => (by simp at h), fun h => (by have := h.2.1; omega)⟩, al1 _ _⟩
  by_cases q0 : 0 ≤ q
  case neg =>
    go_enter Try.func101, Try.ntmps101
    go_wp2_with (go_at_call 55; first | (refine (in_yes _ _ _ _ (by omega) (by omega)).mono ?_; rintro e w' ⟨rfl, rfl⟩) | (refine (in_no _ _ _ _ (by omega)).mono ?_; rintro e w' ⟨rfl, rfl⟩))
    go_ret
    exact ⟨_, rfl, ⟨fun h => (by simp at h), fun h => (by have := h.2.2.1; omega)⟩, al1 _ _⟩
  by_cases q1 : q ≤ 48
  case neg =>
    go_enter Try.func101, Try.ntmps101
    go_wp2_with (go_at_call 55; first | (refine (in_yes _ _ _ _ (by omega) (by omega)).mono ?_; rintro e w' ⟨rfl, rfl⟩) | (refine (in_no _ _ _ _ (by omega)).mono ?_; rintro e w' ⟨rfl, rfl⟩))
    go_ret
    exact ⟨_, rfl, ⟨fun h => (by simp at h), fun h => (by have := h.2.2.2.1; omega)⟩, al1 _ _⟩
  have p0 := rq_lo r0 q0
  have p1 := rq_hi r0 r1 q0 q1
  by_cases en : (n : Int) = r * q
  case neg =>
    have e1 : ((n : Int) == r * q) = false := by simpa using en
    have e2 : ((n : Int) != r * q) = true := by simpa using en
    have EN := Lib.hid en
    clear en
    go_enter Try.func101, Try.ntmps101
    go_wp2_with (go_at_call 55; first | (refine (in_yes _ _ _ _ (by omega) (by omega)).mono ?_; rintro e w' ⟨rfl, rfl⟩) | (refine (in_no _ _ _ _ (by omega)).mono ?_; rintro e w' ⟨rfl, rfl⟩))
    go_ret
    exact ⟨_, rfl, ⟨fun h => (by simp at h), fun h => absurd (by rw [← HL.out]; exact h.2.2.2.2.1) EN.out⟩, al1 _ _⟩
  have e1 : ((n : Int) == r * q) = true := by simpa using en
  have e2 : ((n : Int) != r * q) = false := by simpa using en
  have EN := Lib.hid en
  clear en
  go_enter Try.func101, Try.ntmps101
  go_wp2_with (go_at_call 55; first | (refine (in_yes _ _ _ _ (by omega) (by omega)).mono ?_; rintro e w' ⟨rfl, rfl⟩) | (refine (in_no _ _ _ _ (by omega)).mono ?_; rintro e w' ⟨rfl, rfl⟩))
  go_loop [3] (fun i => ∃ k : Nat, k ≤ n ∧ i = .int .i64 k ∧ Within zs k) (fun i => n - (intOf i).toNat)
  case atStart => exact ⟨0, Nat.zero_le _, rfl, fun i hi => by omega⟩
  case round =>
    obtain ⟨k, hk, rfl, hin⟩ := hrel
    by_cases hlt : k < n
    · obtain ⟨b, off, z, rfl, hb, hz, hc⟩ := H.out.at_z hlt
      have HI := Lib.hid hin
      have HZ := Lib.hid hz
      clear hin hz
      by_cases b0 : z < -1000000000000
      · go_wp2_with (go_at_call 55; first | (refine (in_yes _ _ _ _ (by omega) (by omega)).mono ?_; rintro e w' ⟨rfl, rfl⟩) | (refine (in_no _ _ _ _ (by omega)).mono ?_; rintro e w' ⟨rfl, rfl⟩))
        go_ret
        exact ⟨_, rfl, ⟨fun h => (by simp at h), fun h => (by have := h.2.2.2.2.2 k (by have := HL.out; omega); rw [HZ.out] at this; omega)⟩, al1 _ _⟩
      by_cases b1 : 1000000000000 < z
      · go_wp2_with (go_at_call 55; first | (refine (in_yes _ _ _ _ (by omega) (by omega)).mono ?_; rintro e w' ⟨rfl, rfl⟩) | (refine (in_no _ _ _ _ (by omega)).mono ?_; rintro e w' ⟨rfl, rfl⟩))
        go_ret
        exact ⟨_, rfl, ⟨fun h => (by simp at h), fun h => (by have := h.2.2.2.2.2 k (by have := HL.out; omega); rw [HZ.out] at this; omega)⟩, al1 _ _⟩
      · go_wp2_with (go_at_call 55; first | (refine (in_yes _ _ _ _ (by omega) (by omega)).mono ?_; rintro e w' ⟨rfl, rfl⟩) | (refine (in_no _ _ _ _ (by omega)).mono ?_; rintro e w' ⟨rfl, rfl⟩))
        go_round
        case rel => exact ⟨k + 1, by omega, by go_num, within_succ HI.out (by rw [HZ.out]; omega)⟩
        case measure => simp [intOf]; omega
    · obtain rfl : k = n := by omega
      have HI := Lib.hid hin
      clear hin
      go_wp2_with (go_at_call 55; first | (refine (in_yes _ _ _ _ (by omega) (by omega)).mono ?_; rintro e w' ⟨rfl, rfl⟩) | (refine (in_no _ _ _ _ (by omega)).mono ?_; rintro e w' ⟨rfl, rfl⟩))
      go_ret
      exact ⟨_, rfl, ⟨fun _ => ⟨r0, r1, q0, q1, by rw [HL.out]; exact EN.out, fun i hi => HI.out i (by have := HL.out; omega)⟩, fun _ => rfl⟩, al1 _ _⟩

end Go.Proofs.Ytpojkahlllochaa
