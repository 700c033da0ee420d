/- Which lists are images: the specification's comparison and index, the program's check and index. No condition but those that each theorem names. -/
import Derived.Test.YtoegfldpadpohaaDoorPfO
namespace Go.Proofs.YtoegfldpadpohaaDoor
open Go.RowKit

set_option maxHeartbeats 4000000 in
theorem same_spec (A A' : Option Addr) (n n' c c' : Nat) (zs zs' : List Int) (B B' : Nat) (w : World) (h : Ints w B A n zs) (h' : Ints w B' A' n' zs') (hn : n ≤ 1048576) (hn' : n' ≤ 1048576) :
    Calls Tryd.prog 48 #[.slice A n c, .slice A' n' c'] w fun e w' => e = .returned (.bool (decide (zs = zs'))) ∧ ∃ k, w' = w.drewN k := by
  have H := Lib.hid h
  have H' := Lib.hid h'
  clear h h'
  by_cases hl : n = n'
  case neg =>
    have NO := Lib.hid (show decide (zs = zs') = false from by
      rw [decide_eq_false_iff_not]
      intro e
      exact hl (by rw [← H.out.1, ← H'.out.1, e]))
    rw [NO.out]
    have t0 : ((n : Int) != (n' : Int)) = true := by simp; omega
    clear NO hl
    go_enter Tryd.func48, Tryd.ntmps48
    go_wp2
    go_ret
    exact ⟨rfl, 0, rfl⟩
  subst hl
  obtain ⟨r, hr⟩ : ∃ r, decide (zs = zs') = r := ⟨_, rfl⟩
  have HR := Lib.hid hr
  rw [hr]
  clear hr
  have t0 : ((n : Int) != (n : Int)) = false := by simp
  go_enter Tryd.func48, Tryd.ntmps48
  go_wp2
  go_loopw [5] (fun i W => ∃ k : Nat, k ≤ n ∧ i = .int .i64 k ∧ (∀ j, j < k → zs.getD j 0 = zs'.getD j 0) ∧ ∃ q, W = w.drewN q) (fun i _ => n - (intOf i).toNat)
  case atStart => exact ⟨0, Nat.zero_le _, rfl, fun j hj => by omega, 0, rfl⟩
  case round =>
    obtain ⟨k, hk, rfl, hR, q, rfl⟩ := hrel
    have RR := Lib.hid hR
    clear hR
    by_cases hlt : k < n
    · obtain ⟨b, off, z, rfl, hb, hz, hc⟩ := H.out.at_z hlt
      obtain ⟨b', off', z', rfl, hb', hz', hc'⟩ := H'.out.at_z hlt
      have i1 : (k : Int) < (n : Int) := by omega
      have i2 : (0 : Int) ≤ (k : Int) := by omega
      have Z := Lib.hid hz
      have Z' := Lib.hid hz'
      clear hz hz'
      by_cases hzz : z = z'
      · have NX := Lib.hid (show ∀ j, j < k + 1 → zs.getD j 0 = zs'.getD j 0 from fun j hj => by
          by_cases e : j = k
          · rw [e, Z.out, Z'.out, hzz]
          · exact RR.out j (by omega))
        have t1 : (z != z') = false := by simpa using hzz
        clear hzz
        go_wp2
        go_quiet (fail)
        all_goals
          go_wp2
          go_roundw
          case rel => exact ⟨k + 1, by omega, by go_num, NX.out, _, rfl⟩
          case measure => simp [intOf]; omega
      · have NO := Lib.hid (show r = false from by
          rw [← HR.out, decide_eq_false_iff_not]
          intro e
          exact hzz (by rw [← Z.out, ← Z'.out, e]))
        have t1 : (z != z') = true := by simpa using hzz
        clear hzz
        go_wp2
        go_quiet (fail)
        all_goals
          go_wp2
          go_ret
          exact ⟨by rw [NO.out]; rfl, drewN_more2 (q := q) rfl _⟩
    · obtain rfl : k = n := by omega
      have YES := Lib.hid (show r = true from by
        rw [← HR.out, decide_eq_true_iff]
        refine List.ext_getElem (by rw [H.out.1, H'.out.1]) fun i h1 h2 => ?_
        have := RR.out i (by rw [← H.out.1]; exact h1)
        rwa [List.getD_eq_getElem?_getD, List.getElem?_eq_getElem h1, List.getD_eq_getElem?_getD, List.getElem?_eq_getElem h2] at this)
      have i1 : ¬ (k : Int) < (k : Int) := by omega
      go_wp2
      go_ret
      exact ⟨by rw [YES.out]; rfl, q, rfl⟩

/-- The index of a list, or -1. -/
def P4.ixr (zs : List Int) : Int := if P4.ix zs < 24 then (P4.ix zs : Int) else -1
theorem P4.ixr_yes {zs : List Int} {k : Nat} (hk : k < 24) (h : P4.im k = zs) : P4.ixr zs = k := by
  unfold P4.ixr
  rw [← h, P4.ix_im k hk, if_pos hk]
theorem P4.ixr_no {zs : List Int} (h : ∀ k, k < 24 → P4.im k ≠ zs) : P4.ixr zs = -1 := by
  unfold P4.ixr
  refine if_neg fun hlt => h _ hlt (P4.im_ix hlt)

set_option maxHeartbeats 4000000 in
theorem indexOf_spec (A : Option Addr) (n c : Nat) (zs : List Int) (w : World) (h : Ints w w.heap.size A n zs) (hn : n ≤ 1048576) :
    Calls Tryd.prog 29 #[.slice A n c] w (ResI w (P4.ixr zs)) := by
  have H := Lib.hid h
  clear h
  obtain ⟨r, hr⟩ : ∃ r, P4.ixr zs = r := ⟨_, rfl⟩
  have HR := Lib.hid hr
  rw [hr]
  clear hr
  go_enter Tryd.func29, Tryd.ntmps29
  go_wp2
  go_loopw [3] (fun i W => ∃ k : Nat, k ≤ 24 ∧ i = .int .i64 k ∧ (∀ j, j < k → P4.im j ≠ zs) ∧ Below w.heap.size w W) (fun i _ => 24 - (intOf i).toNat)
  case atStart => exact ⟨0, Nat.zero_le _, rfl, fun j hj => by omega, Below.refl _ _⟩
  case round =>
    obtain ⟨k, hk, rfl, hR, hbel⟩ := hrel
    have RR := Lib.hid hR
    have D := Lib.hid hbel
    have zD := hbel.size
    clear hR hbel
    by_cases hlt : k < 24
    · have i1 : (k : Int) < 24 := by omega
      go_wp2_with fail
      refine (images_spec k _ hlt).mono ?_
      rintro e w1 ⟨A1, c1, rfl, ho1, hb1⟩
      have I1 := Lib.hid ho1.ints
      have D1 := Lib.hid (D.out.trans (hb1.mono zD))
      clear ho1 hb1
      by_cases hzz : P4.im k = zs
      · have YES := Lib.hid (show r = (k : Int) from by rw [← HR.out]; exact P4.ixr_yes hlt hzz)
        have SM := Lib.hid (same_spec A1 A 4 n c1 c (P4.im k) zs _ _ w1 I1.out (H.out.below D1.out) (by omega) hn)
        rw [show decide (P4.im k = zs) = true from by simpa using hzz] at SM
        clear hzz
        go_wp2_with fail
        refine SM.out.mono ?_
        rintro e w2 ⟨rfl, q2, rfl⟩
        go_wp2
        go_ret
        exact ⟨by rw [YES.out]; rfl, D1.out.trans (Go.Joins.below_draws _ _ _)⟩
      · have NX := Lib.hid (show ∀ j, j < k + 1 → P4.im j ≠ zs from fun j hj => by
          by_cases e : j = k
          · rw [e]; exact hzz
          · exact RR.out j (by omega))
        have SM := Lib.hid (same_spec A1 A 4 n c1 c (P4.im k) zs _ _ w1 I1.out (H.out.below D1.out) (by omega) hn)
        rw [show decide (P4.im k = zs) = false from by simpa using hzz] at SM
        clear hzz
        go_wp2_with fail
        refine SM.out.mono ?_
        rintro e w2 ⟨rfl, q2, rfl⟩
        go_wp2
        go_roundw
        case rel => exact ⟨k + 1, by omega, by go_num, NX.out, D1.out.trans (Go.Joins.below_draws _ _ _)⟩
        case measure => simp [intOf]; omega
    · obtain rfl : k = 24 := by omega
      have NO := Lib.hid (show r = -1 from by rw [← HR.out]; exact P4.ixr_no RR.out)
      go_wp2
      go_ret
      exact ⟨by rw [NO.out]; rfl, D.out⟩

/-- Are all numbers from 0 to 3? -/
def P4.vs (zs : List Int) : Bool := decide (∀ k, k < zs.length → 0 ≤ zs.getD k 0 ∧ zs.getD k 0 < 4)
set_option maxHeartbeats 4000000 in
theorem vertices_impl (A : Option Addr) (n c : Nat) (zs : List Int) (B : Nat) (w : World) (h : Ints w B A n zs) (hn : n ≤ 1048576) :
    Calls Tryd.prog 43 #[.slice A n c] w fun e w' => e = .returned (.bool (P4.vs zs)) ∧ w = w' := by
  have H := Lib.hid h
  clear h
  obtain ⟨r, hr⟩ : ∃ r, P4.vs zs = r := ⟨_, rfl⟩
  have HR := Lib.hid hr
  rw [hr]
  clear hr
  go_enter Tryd.func43, Tryd.ntmps43
  go_wp2
  go_loop [7] (fun i => ∃ k : Nat, k ≤ n ∧ i = .int .i64 k ∧ (∀ j, j < k → 0 ≤ zs.getD j 0 ∧ zs.getD j 0 < 4)) (fun i => n - (intOf i).toNat)
  case atStart => exact ⟨0, Nat.zero_le _, rfl, fun j hj => by omega⟩
  case round =>
    obtain ⟨k, hk, rfl, hR⟩ := hrel
    have RR := Lib.hid hR
    clear hR
    by_cases hlt : k < n
    · obtain ⟨b, off, z, rfl, hb, hz, hc⟩ := H.out.at_z hlt
      have Z := Lib.hid hz
      clear hz
      have i1 : (k : Int) < (n : Int) := by omega
      by_cases hzz : 0 ≤ z ∧ z < 4
      · have NX := Lib.hid (show ∀ j, j < k + 1 → 0 ≤ zs.getD j 0 ∧ zs.getD j 0 < 4 from fun j hj => by
          by_cases e : j = k
          · rw [e, Z.out]; exact hzz
          · exact RR.out j (by omega))
        have HZ := Lib.hid hzz
        clear hzz
        go_wp2_with fail
        refine (isVertex_yes _ _ HZ.out.1 HZ.out.2).mono ?_
        rintro e w2 ⟨rfl, rfl⟩
        go_wp2
        go_round
        case rel => exact ⟨k + 1, by omega, by go_num, NX.out⟩
        case measure => simp [intOf]; omega
      · have NO := Lib.hid (show r = false from by
          rw [← HR.out, P4.vs, decide_eq_false_iff_not]
          intro h1
          have := h1 k (by rw [H.out.1]; exact hlt)
          rw [Z.out] at this
          exact hzz this)
        have HZ := Lib.hid hzz
        clear hzz
        go_wp2_with fail
        refine (isVertex_no _ _ HZ.out).mono ?_
        rintro e w2 ⟨rfl, rfl⟩
        go_wp2
        go_ret
        exact ⟨by rw [NO.out]; rfl, rfl⟩
    · obtain rfl : k = n := by omega
      have i1 : ¬ (k : Int) < (k : Int) := by omega
      have YES := Lib.hid (show r = true from by
        rw [← HR.out, P4.vs, decide_eq_true_iff, H.out.1]
        exact RR.out)
      go_wp2
      go_ret
      exact ⟨by rw [YES.out]; rfl, rfl⟩

end Go.Proofs.YtoegfldpadpohaaDoor
