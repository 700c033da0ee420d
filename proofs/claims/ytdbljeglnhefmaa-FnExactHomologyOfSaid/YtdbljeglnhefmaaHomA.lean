/- Whether a matrix is zero, the program's; whether two matrices are equal, the specification's. No condition but those that each theorem names. -/
import Derived.Test.YtdbljeglnhefmaaInvA
import Derived.Test.YtdbljeglnhefmaaMatN
namespace Go.Proofs.Ytdbljeglnhefmaa
open Go.RowKit

set_option maxHeartbeats 1000000 in
theorem index_no0 (A : Option Addr) (n c : Nat) (l : List Int) (w : World) (h : Ints w w.heap.size A n l) (hn : n ≤ 2304) :
    Calls Try.prog 99 #[.slice A n c, .func (.func 101) #[] #[]] w fun e w' => (((∀ i, i < n → l.getD i 0 = 0) ∧ e = .returned (.int .i64 (-1))) ∨ ∃ k : Nat, k < n ∧ l.getD k 0 ≠ 0 ∧ e = .returned (.int .i64 k)) ∧ w = w' := by
  have H := Lib.hid h
  clear h
  go_enter Try.func99, Try.ntmps99
  go_wp2
  go_loop [8, 5] (fun x _ => ∃ k : Nat, k ≤ n ∧ x = .int .i64 k ∧ ∀ i, i < k → l.getD i 0 = 0) (fun x _ => n - (intOf x).toNat)
  case atStart => exact ⟨0, Nat.zero_le _, rfl, fun i hi => by omega⟩
  case round =>
    obtain ⟨k, hk, rfl, hin⟩ := hrel
    have HI := Lib.hid hin
    clear hin
    by_cases hlt : k < n
    · obtain ⟨b, off, z, rfl, hb, hz, hc⟩ := H.out.at_z hlt
      have i0 : (0 : Int) ≤ (k : Int) := by omega
      have i1 : (k : Int) < (n : Int) := by omega
      have HZ := Lib.hid hz
      clear hz
      by_cases hz0 : z = 0
      · have t1 : (z != 0) = false := by simpa using hz0
        have HZ0 := Lib.hid hz0
        clear hz0
        go_wp2
        go_round
        case rel => exact ⟨k + 1, by omega, by go_num, fun i hi => (if e : i = k then (by rw [e, HZ.out]; exact HZ0.out) else HI.out i (by omega))⟩
        case measure => simp [intOf]; omega
      · have t1 : (z != 0) = true := by simpa using hz0
        have HZ0 := Lib.hid hz0
        clear hz0
        go_wp2
        go_ret
        exact ⟨.inr ⟨k, hlt, by show l.getD k 0 ≠ 0; rw [HZ.out]; exact HZ0.out, rfl⟩, rfl⟩
    · obtain rfl : k = n := by omega
      go_wp2
      go_ret
      exact ⟨.inl ⟨HI.out, rfl⟩, rfl⟩

set_option maxHeartbeats 1000000 in
theorem contains_no0 (A : Option Addr) (n c : Nat) (l : List Int) (w : World) (h : Ints w w.heap.size A n l) (hn : n ≤ 2304) :
    Calls Try.prog 100 #[.slice A n c, .func (.func 101) #[] #[]] w fun e w' => ∃ b : Bool, e = .returned (.bool b) ∧ (b = false ↔ ∀ i, i < n → l.getD i 0 = 0) ∧ w = w' := by
  have HI := Lib.hid (index_no0 A n c l w h hn)
  clear h
  go_enter Try.func100, Try.ntmps100
  go_wp2_with fail
  refine HI.out.mono ?_
  rintro e w1 ⟨h1, rfl⟩
  rcases h1 with ⟨hall, rfl⟩ | ⟨k, hk, hz, rfl⟩
  · have HA := Lib.hid hall
    clear hall
    go_wp2
    go_ret
    exact ⟨false, rfl, ⟨fun _ => HA.out, fun _ => rfl⟩, rfl⟩
  · have HZ := Lib.hid hz
    have d1 : (0 : Int) ≤ (k : Int) := by omega
    clear hz
    go_wp2
    go_ret
    exact ⟨true, rfl, ⟨fun h => (by simp at h), fun h => absurd (h k hk) HZ.out⟩, rfl⟩

set_option maxHeartbeats 1000000 in
theorem iszero_impl (r q : Int) (A : Option Addr) (n c : Nat) (l : List Int) (w : World) (h : Ints w w.heap.size A n l) (hn : n ≤ 2304) :
    Calls Try.prog 79 #[.agg #[.int .i64 r, .int .i64 q, .slice A n c]] w (SaysB (∀ i, i < n → l.getD i 0 = 0) w.heap.size w) := by
  have HC := Lib.hid (contains_no0 A n c l (w.alloc (Obj.cells #[.int .i64 r, .int .i64 q, .slice A n c] 27)) (h.into (al1 _ _)) hn)
  clear h
  go_enter Try.func79, Try.ntmps79
  go_wp2_with fail
  refine HC.out.mono ?_
  rintro e w1 ⟨b, rfl, hb, rfl⟩
  have HB := Lib.hid hb
  clear hb
  cases b
  · go_wp2
    go_ret
    exact ⟨true, rfl, ⟨fun _ => (by first | exact HB.out.1 rfl | exact HB.out.1 trivial), fun _ => rfl⟩, al1 _ _⟩
  · go_wp2
    go_ret
    exact ⟨false, rfl, ⟨fun h => (by simp at h), fun h => (by have hh := HB.out.2 h; first | exact hh.elim | exact absurd hh (by simp))⟩, al1 _ _⟩

set_option maxRecDepth 100000 in
set_option maxHeartbeats 2000000 in
theorem same_spec (r q : Int) (A A' : Option Addr) (n n' c c' : Nat) (xs ys : List Int) (w : World) (en : n = n') (h : Ints w w.heap.size A n xs) (h' : Ints w w.heap.size A' n' ys) (hn : n ≤ 2304) :
    Calls Try.prog 78 #[.agg #[.int .i64 r, .int .i64 q, .slice A n c], .agg #[.int .i64 r, .int .i64 q, .slice A' n' c']] w (SaysB (∀ i, i < n → xs.getD i 0 = ys.getD i 0) w.heap.size w) := by
  subst en
  have H := Lib.hid (h.into (al2 w (Obj.cells #[.int .i64 r, .int .i64 q, .slice A n c] 27) (Obj.cells #[.int .i64 r, .int .i64 q, .slice A' n c'] 27)))
  have H' := Lib.hid (h'.into (al2 w (Obj.cells #[.int .i64 r, .int .i64 q, .slice A n c] 27) (Obj.cells #[.int .i64 r, .int .i64 q, .slice A' n c'] 27)))
  have X0 := Lib.hid ((Box3.new w 27 (.int .i64 r) (.int .i64 q) (.slice A n c)).below (al1 (w.alloc (Obj.cells #[.int .i64 r, .int .i64 q, .slice A n c] 27)) (Obj.cells #[.int .i64 r, .int .i64 q, .slice A' n c'] 27)) (by simp))
  have Y0 := Lib.hid (Box3.new (w.alloc (Obj.cells #[.int .i64 r, .int .i64 q, .slice A n c] 27)) 27 (.int .i64 r) (.int .i64 q) (.slice A' n c'))
  have D0 := Lib.hid (al2 w (Obj.cells #[.int .i64 r, .int .i64 q, .slice A n c] 27) (Obj.cells #[.int .i64 r, .int .i64 q, .slice A' n c'] 27))
  simp only [World.size_alloc] at Y0
  clear h h'
  go_enter Try.func78, Try.ntmps78
  go_wp2
  obtain ⟨W0, hW0⟩ : ∃ W0, W0 = ((w.alloc (Obj.cells #[.int .i64 r, .int .i64 q, .slice A n c] 27)).alloc (Obj.cells #[.int .i64 r, .int .i64 q, .slice A' n c'] 27)) := ⟨_, rfl⟩
  have s0 : w.heap.size + 1 < W0.heap.size := by rw [hW0]; simp
  have s0' : w.heap.size < W0.heap.size := by omega
  rw [← hW0] at H H' X0 Y0 D0
  rw [← hW0]
  clear hW0
  go_loopw [5] (fun x wr => ∃ k : Nat, k ≤ n ∧ x = .int .i64 k ∧ (∀ i, i < k → xs.getD i 0 = ys.getD i 0) ∧ Below W0.heap.size W0 wr) (fun x _ => n - (intOf x).toNat)
  case atStart => exact ⟨0, Nat.zero_le _, rfl, fun i hi => by omega, Below.refl _ _⟩
  case round =>
    obtain ⟨k, hk, rfl, hin, hbel⟩ := hrel
    have HI := Lib.hid hin
    have HL := Lib.hid hbel
    have R1 := Lib.hid (H.out.below hbel)
    have R2 := Lib.hid (H'.out.below hbel)
    obtain ⟨k0, k1, k2⟩ := X0.out.below hbel s0'
    obtain ⟨l0, l1, l2⟩ := Y0.out.below hbel s0
    clear hin hbel
    by_cases hlt : k < n
    · obtain ⟨b, off, x, rfl, hb, hx, hc⟩ := R1.out.at_z hlt
      obtain ⟨b', off', y, rfl, hb', hy, hc'⟩ := R2.out.at_z hlt
      have i0 : (0 : Int) ≤ (k : Int) := by omega
      have i1 : (k : Int) < (n : Int) := by omega
      have HX := Lib.hid hx
      have HY := Lib.hid hy
      clear hx hy
      by_cases hxy : x = y
      · have t1 : (x != y) = false := by simpa using hxy
        have HXY := Lib.hid hxy
        clear hxy
        go_wp2
        go_quiet (fail)
        all_goals
          go_wp2
          go_roundw
          case rel => exact ⟨k + 1, by omega, by go_num, fun i hi => (if e : i = k then (by rw [e, HX.out, HY.out]; exact HXY.out) else HI.out i (by omega)), HL.out.trans (Go.Joins.below_draws _ _ _)⟩
          case measure => simp [intOf]; omega
      · have t1 : (x != y) = true := by simpa using hxy
        have HXY := Lib.hid hxy
        clear hxy
        go_wp2
        go_quiet (fail)
        all_goals
          go_wp2
          go_ret
          exact ⟨_, rfl, ⟨fun h => (by simp at h), fun h => absurd (h k hlt) (by rw [HX.out, HY.out]; exact HXY.out)⟩, D0.out.trans ((HL.out.trans (Go.Joins.below_draws _ _ _)).mono (by omega))⟩
    · obtain rfl : k = n := by omega
      have i1 : ¬ (k : Int) < (k : Int) := by omega
      go_wp2
      go_ret
      exact ⟨_, rfl, ⟨fun _ => HI.out, fun _ => rfl⟩, D0.out.trans (HL.out.mono (by omega))⟩

end Go.Proofs.Ytdbljeglnhefmaa
