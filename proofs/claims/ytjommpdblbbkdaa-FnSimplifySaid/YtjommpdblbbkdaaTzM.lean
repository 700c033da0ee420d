/- What the specification asks of a move: l04Possible. No condition but those that each theorem names. -/
import Derived.Test.YtjommpdblbbkdaaTzL
namespace Go.Proofs.Ytjommpdblbbkdaa
open Go.RowKit

/-- The condition of the move holds. -/
def possible (zss : List (List Int)) (K I J : Int) : Bool :=
  if K = 3 then decide (I ≠ J) else if K = 4 then (zss.getD I.toNat []).isEmpty else if K = 5 then decide (Wd.occ J (zss.getD I.toNat []) = 1) else true

set_option maxRecDepth 100000 in
set_option maxHeartbeats 8000000 in
theorem possible_spec (r K I J : Int) (A Aw : Option Addr) (c nw cw : Nat) (rs : List Rw) (w : World) (h : RdS w w.heap.size A rs) (hrow : ∀ q ∈ rs, q.zs.length ≤ 120) (hI : K ≠ 6 → 0 ≤ I ∧ I < rs.length) (hJ : K = 5 → 1 ≤ J ∧ J ≤ 24) :
    Calls Try.prog 34 #[.agg #[.int .i64 r, .slice A rs.length c], .agg #[.int .i64 K, .int .i64 I, .int .i64 J, .slice Aw nw cw]] w fun e w' => e = .returned (.bool (possible (vals rs) K I J)) ∧ Below w.heap.size w w' := by
  obtain ⟨n, hrn⟩ : ∃ n, rs.length = n := ⟨_, rfl⟩
  have D := Lib.hid (al2 w (Obj.cells #[.int .i64 r, .slice A n c] 26) (Obj.cells #[.int .i64 K, .int .i64 I, .int .i64 J, .slice Aw nw cw] 36))
  by_cases k3 : K = 3
  · subst k3
    rw [hrn]
    by_cases hij : I = J
    · have PV := Lib.hid (show possible (vals rs) 3 I J = false from by unfold possible; simp [hij])
      have t1 : ((I != J) : Bool) = false := by simpa using hij
      clear h hrow hI hJ hij
      go_enter Try.func34, Try.ntmps34
      go_wp2
      go_ret
      rw [PV.out]
      exact ⟨rfl, D.out⟩
    · have PV := Lib.hid (show possible (vals rs) 3 I J = true from by unfold possible; simp [hij])
      have t1 : ((I != J) : Bool) = true := by simpa using hij
      clear h hrow hI hJ hij
      go_enter Try.func34, Try.ntmps34
      go_wp2
      go_ret
      rw [PV.out]
      exact ⟨rfl, D.out⟩
  have t3 : ((K == 3) : Bool) = false := by simpa using k3
  by_cases k4 : K = 4
  · subst k4
    have hI' := hI (by omega)
    obtain ⟨i, rfl⟩ : ∃ i : Nat, I = i := ⟨I.toNat, by omega⟩
    have hi : i < rs.length := by omega
    obtain ⟨b, off, Aj, cj, zj, rfl, hb, hr, hc, hjc, hjm, hj⟩ := h.at_ (j := i) hi
    have PV := Lib.hid (show possible (vals rs) 4 i J = zj.isEmpty from by unfold possible; rw [if_neg (by decide), if_pos rfl, Int.toNat_natCast, vals_getD, hr])
    have i0 : (0 : Int) ≤ (i : Int) := by omega
    have i1 : (i : Int) < (n : Int) := by omega
    rw [hrn]
    by_cases he : zj = []
    · have t1 : ((zj.length : Int) == 0) = true := by simp [he]
      have PW := Lib.hid (show possible (vals rs) 4 i J = true from by rw [PV.out]; simp [he])
      clear h hrow hI hJ he hr hj hI'
      go_enter Try.func34, Try.ntmps34
      go_wp2
      go_ret
      rw [PW.out]
      exact ⟨rfl, D.out⟩
    · have t1 : ((zj.length : Int) == 0) = false := by simp; exact he
      have PW := Lib.hid (show possible (vals rs) 4 i J = false from by rw [PV.out]; simp [he])
      clear h hrow hI hJ he hr hj hI'
      go_enter Try.func34, Try.ntmps34
      go_wp2
      go_ret
      rw [PW.out]
      exact ⟨rfl, D.out⟩
  have t4 : ((K == 4) : Bool) = false := by simpa using k4
  by_cases k5 : K = 5
  · subst k5
    have hI' := hI (by omega)
    have hJ' := hJ rfl
    obtain ⟨i, rfl⟩ : ∃ i : Nat, I = i := ⟨I.toNat, by omega⟩
    have hi : i < rs.length := by omega
    have zl := hrow _ (getD_mem hi)
    obtain ⟨b, off, Aj, cj, zj, rfl, hb, hr, hc, hjc, hjm, hj⟩ := h.at_ (j := i) hi
    rw [hr] at zl
    dsimp only at zl
    obtain ⟨c1, hc1⟩ : ∃ c1, zj.count J = c1 := ⟨_, rfl⟩
    obtain ⟨c2, hc2⟩ : ∃ c2, zj.count (-J) = c2 := ⟨_, rfl⟩
    have PV := Lib.hid (show possible (vals rs) 5 i J = decide (c1 + c2 = 1) from by unfold possible; rw [if_neg (by decide), if_neg (by decide), if_pos rfl, Int.toNat_natCast, vals_getD, hr]; show decide (Wd.occ J zj = 1) = _; rw [Wd.occ_count (by omega), hc1, hc2])
    have l1 : c1 ≤ 120 := by rw [← hc1]; exact Nat.le_trans List.count_le_length zl
    have l2 : c2 ≤ 120 := by rw [← hc2]; exact Nat.le_trans List.count_le_length zl
    have CT1 := Lib.hid (fun (W : World) (hb : Below w.heap.size w W) => count_spec Aj zj.length cj zj J w.heap.size W (hj.below hb) (by omega))
    have CT2 := Lib.hid (fun (W : World) (hb : Below w.heap.size w W) => count_spec Aj zj.length cj zj (-J) w.heap.size W (hj.below hb) (by omega))
    rw [hc1] at CT1
    rw [hc2] at CT2
    have i0 : (0 : Int) ≤ (i : Int) := by omega
    have i1 : (i : Int) < (n : Int) := by omega
    have w1 : IntKind.i64.wrap (-J) = -J := IntWalk.i64_in _ (by omega)
    have w2 : IntKind.i64.wrap ((c1 : Int) + (c2 : Int)) = (c1 : Int) + (c2 : Int) := IntWalk.i64_in _ (by omega)
    rw [hrn]
    have t1 : (((c1 : Int) + (c2 : Int)) == 1) = decide (c1 + c2 = 1) := by
      by_cases e : c1 + c2 = 1
      · simp [e]; omega
      · simp [e]; omega
    obtain ⟨bb, hbb⟩ : ∃ bb, decide (c1 + c2 = 1) = bb := ⟨_, rfl⟩
    rw [hbb] at t1 PV
    clear h hrow hI hJ hr hj hI' hJ' hc1 hc2 hbb
    go_enter Try.func34, Try.ntmps34
    go_wp2_with fail
    go_quiet ((go_at_call 56; first
      | (with_reducible refine (CT1.out _ ?_).mono (fun _ _ h => ⟨h.1, _, h.2.symm⟩); exact (al2 _ _ _).trans (Go.Joins.below_draws _ _ _))
      | (with_reducible refine (CT2.out _ ?_).mono (fun _ _ h => ⟨h.1, _, h.2.symm⟩); exact (al2 _ _ _).trans (Go.Joins.below_draws _ _ _))))
    all_goals
      go_wp2
      go_ret
      rw [PV.out]
      exact ⟨rfl, D.out.trans (Go.Joins.below_draws _ _ _)⟩
  · have t5 : ((K == 5) : Bool) = false := by simpa using k5
    have PV := Lib.hid (show possible (vals rs) K I J = true from by unfold possible; simp [k3, k4, k5])
    rw [hrn]
    clear h hrow hI hJ
    go_enter Try.func34, Try.ntmps34
    go_wp2
    go_ret
    rw [PV.out]
    exact ⟨rfl, D.out⟩

end Go.Proofs.Ytjommpdblbbkdaa
