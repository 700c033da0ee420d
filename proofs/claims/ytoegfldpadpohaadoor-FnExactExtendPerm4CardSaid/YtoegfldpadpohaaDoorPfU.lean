/- The specification's extension of lists to permutations. No condition but those that each theorem names. -/
import Derived.Test.YtoegfldpadpohaaDoorPfT
namespace Go.Proofs.YtoegfldpadpohaaDoor
open Go.RowKit

theorem P4.vs_no {zs : List Int} {k : Nat} (hk : k < zs.length) (h : ¬ (0 ≤ zs.getD k 0 ∧ zs.getD k 0 < 4)) : P4.vs zs = false := by
  rw [P4.vs, decide_eq_false_iff_not]
  exact fun h1 => h (h1 k hk)
theorem P4.vs_yes {zs : List Int} {n : Nat} (hn : zs.length = n) (h : ∀ k, k < n → 0 ≤ zs.getD k 0 ∧ zs.getD k 0 < 4) : P4.vs zs = true := by
  rw [P4.vs, decide_eq_true_iff, hn]; exact h

set_option maxRecDepth 100000 in
set_option maxHeartbeats 8000000 in
theorem extend_spec (A A' : Option Addr) (n n' c c' : Nat) (zs ys : List Int) (w : World) (h : Ints w w.heap.size A n zs) (h' : Ints w w.heap.size A' n' ys) (hn : n ≤ 1048576) (hn' : n' ≤ 1048576) :
    Calls Tryd.prog 36 #[.slice A n c, .slice A' n' c'] w (ResX w (P4.ext n n' zs ys)) := by
  have H := Lib.hid h
  have H' := Lib.hid h'
  clear h h'
  by_cases hnn : n = n'
  case neg =>
    rw [P4.ext_no (fun e => hnn e.1)]
    have t0 : ((n : Int) != (n' : Int)) = true := by simp; omega
    clear hnn
    go_enter Tryd.func36, Tryd.ntmps36
    go_wp2
    refine bodyPost_ret (v := .tuple #[.int .i64 0, .bool false]) (by simp [results, Tryd.results36, go_sem]) rfl ⟨rfl, Below.refl _ _⟩
  subst hnn
  have t0 : ((n : Int) != (n : Int)) = false := by simp
  obtain ⟨r, hr⟩ : ∃ r, P4.ext n n zs ys = r := ⟨_, rfl⟩
  have HR := Lib.hid hr
  rw [hr]
  clear hr
  go_enter Tryd.func36, Tryd.ntmps36
  go_wp2
  go_loop [6] (fun i => ∃ k : Nat, k ≤ n ∧ i = .int .i64 k ∧ ∀ j, j < k → (0 ≤ zs.getD j 0 ∧ zs.getD j 0 < 4) ∧ (0 ≤ ys.getD j 0 ∧ ys.getD j 0 < 4)) (fun i => n - (intOf i).toNat)
  case atStart => exact ⟨0, Nat.zero_le _, rfl, fun j hj => by omega⟩
  case round =>
    obtain ⟨k, hk, rfl, hR⟩ := hrel
    have RR := Lib.hid hR
    clear hR
    by_cases hlt : k < n
    · obtain ⟨b, off, z, rfl, hb, hz, hc⟩ := H.out.at_z hlt
      obtain ⟨b', off', y, rfl, hb', hy, hc'⟩ := H'.out.at_z hlt
      have i1 : (k : Int) < (n : Int) := by omega
      have Z := Lib.hid hz
      have Y := Lib.hid hy
      have L1 := Lib.hid (show k < zs.length from by rw [H.out.1]; exact hlt)
      have L2 := Lib.hid (show k < ys.length from by rw [H'.out.1]; exact hlt)
      clear hz hy
      have NO := Lib.hid (show ¬ ((0 ≤ z ∧ z < 4) ∧ (0 ≤ y ∧ y < 4)) → r = none from fun hb => by
        rw [← HR.out]
        refine P4.ext_no fun e => hb ⟨?_, ?_⟩
        · have h1 := e.2.1
          rw [P4.vs, decide_eq_true_iff] at h1
          have := h1 k L1.out
          rwa [Z.out] at this
        · have h1 := e.2.2
          rw [P4.vs, decide_eq_true_iff] at h1
          have := h1 k L2.out
          rwa [Y.out] at this)
      by_cases z0 : z < 0
      · have t1 : decide (z < 0) = true := by simpa using z0
        have RN := Lib.hid (NO.out (by omega))
        clear NO
        go_wp2
        refine bodyPost_ret (v := .tuple #[.int .i64 0, .bool false]) (by simp [results, Tryd.results36, go_sem]) rfl ⟨by rw [RN.out]; rfl, Below.refl _ _⟩
      have t1 : decide (z < 0) = false := by simpa using z0
      by_cases z3 : 3 < z
      · have t2 : decide (3 < z) = true := by simpa using z3
        have RN := Lib.hid (NO.out (by omega))
        clear NO
        go_wp2
        refine bodyPost_ret (v := .tuple #[.int .i64 0, .bool false]) (by simp [results, Tryd.results36, go_sem]) rfl ⟨by rw [RN.out]; rfl, Below.refl _ _⟩
      have t2 : decide (3 < z) = false := by simpa using z3
      by_cases y0 : y < 0
      · have t3 : decide (y < 0) = true := by simpa using y0
        have RN := Lib.hid (NO.out (by omega))
        clear NO
        go_wp2
        refine bodyPost_ret (v := .tuple #[.int .i64 0, .bool false]) (by simp [results, Tryd.results36, go_sem]) rfl ⟨by rw [RN.out]; rfl, Below.refl _ _⟩
      have t3 : decide (y < 0) = false := by simpa using y0
      by_cases y3 : 3 < y
      · have t4 : decide (3 < y) = true := by simpa using y3
        have RN := Lib.hid (NO.out (by omega))
        clear NO
        go_wp2
        refine bodyPost_ret (v := .tuple #[.int .i64 0, .bool false]) (by simp [results, Tryd.results36, go_sem]) rfl ⟨by rw [RN.out]; rfl, Below.refl _ _⟩
      have t4 : decide (3 < y) = false := by simpa using y3
      have NX := Lib.hid (show ∀ j, j < k + 1 → (0 ≤ zs.getD j 0 ∧ zs.getD j 0 < 4) ∧ (0 ≤ ys.getD j 0 ∧ ys.getD j 0 < 4) from fun j hj => by
        by_cases e : j = k
        · rw [e, Z.out, Y.out]; omega
        · exact RR.out j (by omega))
      clear NO
      go_wp2
      go_round
      case rel => exact ⟨k + 1, by omega, by go_num, NX.out⟩
      case measure => simp [intOf]; omega
    · obtain rfl : k = n := by omega
      have i1 : ¬ (k : Int) < (k : Int) := by omega
      have FR := Lib.hid (show r = P4.first zs ys k 24 from by
        rw [← HR.out]
        exact P4.ext_yes (P4.vs_yes H.out.1 fun j hj => (RR.out j hj).1) (P4.vs_yes H'.out.1 fun j hj => (RR.out j hj).2))
      have VZ := Lib.hid (fun j (hj : j < k) => (RR.out j hj).1)
      go_wp2
      clear i1
      go_loopw [7] (fun i W => ∃ p : Nat, p ≤ 24 ∧ i = .int .i64 p ∧ r = P4.first zs ys k (24 - p) ∧ Below w.heap.size w W) (fun i _ => 24 - (intOf i).toNat)
      case atStart => exact ⟨0, Nat.zero_le _, rfl, FR.out, Below.refl _ _⟩
      case round =>
        obtain ⟨p, hp, rfl, hF, hbel⟩ := hrel
        have F := Lib.hid hF
        have D := Lib.hid hbel
        have zD := hbel.size
        clear hF hbel
        by_cases hlp : p < 24
        · have ST := Lib.hid (P4.first_step zs ys k p hlp)
          have i2 : (p : Int) < 24 := by omega
          go_wp2
          obtain ⟨wo, hwo⟩ : ∃ wo : World, wo = wr := ⟨_, rfl⟩
          rw [← hwo] at D zD ⊢
          clear hwo
          go_loopw [8, 9] (fun f i W => ∃ m : Nat, m ≤ k ∧ i = .int .i64 m ∧ f = .bool (P4.fk (P4.im p) zs ys m) ∧ Below wo.heap.size wo W) (fun _ i _ => k - (intOf i).toNat)
          case atStart => exact ⟨0, Nat.zero_le _, rfl, by rw [P4.fk_zero], Below.refl _ _⟩
          case round =>
            obtain ⟨m, hm, rfl, rfl, hb2⟩ := hrel
            have D2 := Lib.hid hb2
            have z2 := hb2.size
            clear hb2
            by_cases hlm : m < k
            · obtain ⟨b, off, z, rfl, hb, hz, hc⟩ := (H.out.below (D.out.trans (D2.out.mono zD))).at_z hlm
              obtain ⟨b', off', y, rfl, hb', hy, hc'⟩ := (H'.out.below (D.out.trans (D2.out.mono zD))).at_z hlm
              have hz4 := VZ.out m hlm
              rw [hz] at hz4
              obtain ⟨Z, rfl⟩ : ∃ Z : Nat, z = Z := ⟨z.toNat, by omega⟩
              have hZ4 : Z < 4 := by omega
              have FS := Lib.hid (show P4.fk (P4.im p) zs ys (m + 1) = (P4.fk (P4.im p) zs ys m && decide ((P4.im p).getD Z 0 = y)) from by rw [P4.fk_succ, hz, hy, Int.toNat_natCast])
              have i3 : (m : Int) < (k : Int) := by omega
              have i4 : (0 : Int) ≤ (m : Int) := by omega
              clear hz hy hz4
              rcases hf : P4.fk (P4.im p) zs ys m with _ | _
              · have NX := Lib.hid (show P4.fk (P4.im p) zs ys (m + 1) = false from by rw [FS.out, hf]; rfl)
                clear hf FS
                go_wp2
                go_quiet (fail)
                all_goals
                  go_wp2
                  go_roundw
                  case rel => exact ⟨m + 1, by omega, by go_num, by rw [NX.out], D2.out.trans (Go.Joins.below_draws _ _ _)⟩
                  case measure => simp [intOf]; omega
              · obtain ⟨u, hu⟩ : ∃ u, (P4.im p).getD Z 0 = u := ⟨_, rfl⟩
                have AT := Lib.hid (fun W => at_spec p Z W hlp hZ4)
                have NX := Lib.hid (show P4.fk (P4.im p) zs ys (m + 1) = decide (u = y) from by rw [FS.out, hf, hu]; rfl)
                rw [hu] at AT
                clear hf FS hu
                by_cases huy : u = y
                · have t1 : (u == y) = true := by simpa using huy
                  have t2 := Lib.hid (show decide (u = y) = true from by simpa using huy)
                  clear huy
                  go_wp2_with fail
                  go_region_held3 (fun W => W.cell? ⟨b, off + m, none⟩ = some (.int .i64 (Z : Int)) ∧ W.cell? ⟨b', off' + m, none⟩ = some (.int .i64 y)) (go_keep)
                    ((go_at_call 49; (with_reducible refine (AT.out _).mono ?_); rintro e w5 ⟨rfl, hb5'⟩; have hb5 := undrew hb5'; have e0 := (hb5.cell (p := ⟨b, off + m, none⟩) (by dsimp only; omega)).trans hc; have e1 := (hb5.cell (p := ⟨b', off' + m, none⟩) (by dsimp only; omega)).trans hc'; have D5 := Lib.hid (D2.out.trans (hb5.mono z2)); clear hb5 hb5'))
                  all_goals
                    go_wp2
                    go_roundw
                    case rel => exact ⟨m + 1, by omega, by go_num, by rw [NX.out, t2.out], D5.out⟩
                    case measure => simp [intOf]; omega
                · have t1 : (u == y) = false := by simpa using huy
                  have t2 := Lib.hid (show decide (u = y) = false from by simpa using huy)
                  clear huy
                  go_wp2_with fail
                  go_region_held3 (fun W => W.cell? ⟨b, off + m, none⟩ = some (.int .i64 (Z : Int)) ∧ W.cell? ⟨b', off' + m, none⟩ = some (.int .i64 y)) (go_keep)
                    ((go_at_call 49; (with_reducible refine (AT.out _).mono ?_); rintro e w5 ⟨rfl, hb5'⟩; have hb5 := undrew hb5'; have e0 := (hb5.cell (p := ⟨b, off + m, none⟩) (by dsimp only; omega)).trans hc; have e1 := (hb5.cell (p := ⟨b', off' + m, none⟩) (by dsimp only; omega)).trans hc'; have D5 := Lib.hid (D2.out.trans (hb5.mono z2)); clear hb5 hb5'))
                  all_goals
                    go_wp2
                    go_roundw
                    case rel => exact ⟨m + 1, by omega, by go_num, by rw [NX.out, t2.out], D5.out⟩
                    case measure => simp [intOf]; omega
            · obtain rfl : m = k := by omega
              have i3 : ¬ (m : Int) < (m : Int) := by omega
              rcases hf : P4.fk (P4.im p) zs ys m with _ | _
              · rw [hf] at ST
                have NX := Lib.hid (show r = P4.first zs ys m (24 - (p + 1)) from by rw [F.out, ST.out]; rfl)
                clear hf
                go_wp2
                go_roundw
                case rel => exact ⟨p + 1, by omega, by go_num, NX.out, D.out.trans (D2.out.mono zD)⟩
                case measure => simp [intOf]; omega
              · rw [hf] at ST
                have NX := Lib.hid (show r = some p from by rw [F.out, ST.out]; rfl)
                clear hf
                go_wp2
                refine bodyPost_ret (v := .tuple #[.int .i64 (p : Int), .bool true]) (by simp [results, Tryd.results36, go_sem]) rfl ⟨by rw [NX.out]; rfl, D.out.trans (D2.out.mono zD)⟩
        · obtain rfl : p = 24 := by omega
          have NO := Lib.hid (show r = none from by rw [F.out]; rfl)
          go_wp2
          refine bodyPost_ret (v := .tuple #[.int .i64 0, .bool false]) (by simp [results, Tryd.results36, go_sem]) rfl ⟨by rw [NO.out]; rfl, D.out⟩

end Go.Proofs.YtoegfldpadpohaaDoor
