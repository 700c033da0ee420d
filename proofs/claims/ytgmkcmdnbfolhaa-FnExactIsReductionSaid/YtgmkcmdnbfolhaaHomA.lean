/- Whether a matrix is zero, the program's; whether two matrices are equal, the specification's. No condition but those that each theorem names. -/
import Derived.Test.YtgmkcmdnbfolhaaInvA
import Derived.Test.YtgmkcmdnbfolhaaMatN
namespace Go.Proofs.Ytgmkcmdnbfolhaa
open Go.RowKit

set_option maxRecDepth 100000 in
set_option maxHeartbeats 2000000 in
theorem same_spec (r q : Int) (A A' : Option Addr) (n n' c c' : Nat) (xs ys : List Int) (w : World) (en : n = n') (h : Ints w w.heap.size A n xs) (h' : Ints w w.heap.size A' n' ys) (hn : n ≤ 2304) :
    Calls Try.prog 43 #[.agg #[.int .i64 r, .int .i64 q, .slice A n c], .agg #[.int .i64 r, .int .i64 q, .slice A' n' c']] w (SaysB (∀ i, i < n → xs.getD i 0 = ys.getD i 0) w.heap.size w) := by
  subst en
  have H := Lib.hid (h.into (al2 w (Obj.cells #[.int .i64 r, .int .i64 q, .slice A n c] 40) (Obj.cells #[.int .i64 r, .int .i64 q, .slice A' n c'] 40)))
  have H' := Lib.hid (h'.into (al2 w (Obj.cells #[.int .i64 r, .int .i64 q, .slice A n c] 40) (Obj.cells #[.int .i64 r, .int .i64 q, .slice A' n c'] 40)))
  have X0 := Lib.hid ((Box3.new w 40 (.int .i64 r) (.int .i64 q) (.slice A n c)).below (al1 (w.alloc (Obj.cells #[.int .i64 r, .int .i64 q, .slice A n c] 40)) (Obj.cells #[.int .i64 r, .int .i64 q, .slice A' n c'] 40)) (by simp))
  have Y0 := Lib.hid (Box3.new (w.alloc (Obj.cells #[.int .i64 r, .int .i64 q, .slice A n c] 40)) 40 (.int .i64 r) (.int .i64 q) (.slice A' n c'))
  have D0 := Lib.hid (al2 w (Obj.cells #[.int .i64 r, .int .i64 q, .slice A n c] 40) (Obj.cells #[.int .i64 r, .int .i64 q, .slice A' n c'] 40))
  simp only [World.size_alloc] at Y0
  clear h h'
  go_enter Try.func43, Try.ntmps43
  go_wp2
  obtain ⟨W0, hW0⟩ : ∃ W0, W0 = ((w.alloc (Obj.cells #[.int .i64 r, .int .i64 q, .slice A n c] 40)).alloc (Obj.cells #[.int .i64 r, .int .i64 q, .slice A' n c'] 40)) := ⟨_, rfl⟩
  have s0 : w.heap.size + 1 < W0.heap.size := by rw [hW0]; simp
  have s0' : w.heap.size < W0.heap.size := by omega
  rw [← hW0] at H H' X0 Y0 D0
  rw [← hW0]
  clear hW0
  go_loopw [5] (fun x wr => ∃ k : Nat, k ≤ n ∧ x = .int .i64 k ∧ (∀ i, i < k → xs.getD i 0 = ys.getD i 0) ∧ Below W0.heap.size W0 wr) (fun x _ => n - (intOf x).toNat)
  case atStart => exact ⟨0, Nat.zero_le _, rfl, fun i hi => by omega, Below.refl _ _⟩
  case round =>
    obtain ⟨k, hk, rfl, hin, hbel⟩ := hrel
    have HI := Lib.hid hin
    have HL := Lib.hid hbel
    have R1 := Lib.hid (H.out.below hbel)
    have R2 := Lib.hid (H'.out.below hbel)
    obtain ⟨k0, k1, k2⟩ := X0.out.below hbel s0'
    obtain ⟨l0, l1, l2⟩ := Y0.out.below hbel s0
    clear hin hbel
    by_cases hlt : k < n
    · obtain ⟨b, off, x, rfl, hb, hx, hc⟩ := R1.out.at_z hlt
      obtain ⟨b', off', y, rfl, hb', hy, hc'⟩ := R2.out.at_z hlt
      have i0 : (0 : Int) ≤ (k : Int) := by omega
      have i1 : (k : Int) < (n : Int) := by omega
      have HX := Lib.hid hx
      have HY := Lib.hid hy
      clear hx hy
      by_cases hxy : x = y
      · have t1 : (x != y) = false := by simpa using hxy
        have HXY := Lib.hid hxy
        clear hxy
        go_wp2
        go_quiet (fail)
        all_goals
          go_wp2
          go_roundw
          case rel => exact ⟨k + 1, by omega, by go_num, fun i hi => (if e : i = k then (by rw [e, HX.out, HY.out]; exact HXY.out) else HI.out i (by omega)), HL.out.trans (Go.Joins.below_draws _ _ _)⟩
          case measure => simp [intOf]; omega
      · have t1 : (x != y) = true := by simpa using hxy
        have HXY := Lib.hid hxy
        clear hxy
        go_wp2
        go_quiet (fail)
        all_goals
          go_wp2
          go_ret
          exact ⟨_, rfl, ⟨fun h => (by simp at h), fun h => absurd (h k hlt) (by rw [HX.out, HY.out]; exact HXY.out)⟩, D0.out.trans ((HL.out.trans (Go.Joins.below_draws _ _ _)).mono (by omega))⟩
    · obtain rfl : k = n := by omega
      have i1 : ¬ (k : Int) < (k : Int) := by omega
      go_wp2
      go_ret
      exact ⟨_, rfl, ⟨fun _ => HI.out, fun _ => rfl⟩, D0.out.trans (HL.out.mono (by omega))⟩

end Go.Proofs.Ytgmkcmdnbfolhaa
