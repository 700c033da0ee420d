/- The specification's permutations: index, composition, inverse, sign, order. No condition but those that each theorem names. -/
import Derived.Test.YtjendlfophdfeaaDoorPfB
import Derived.StillTailTactics
namespace Go.Proofs.YtjendlfophdfeaaDoor
open Go.RowKit

theorem P4.mul_in {S T : Int} (h1 : 1 ≤ S) (h2 : S ≤ 6) (h3 : -4 ≤ T) (h4 : T ≤ 4) : -24 ≤ S * T ∧ S * T ≤ 24 := by
  have h : S = 1 ∨ S = 2 ∨ S = 3 ∨ S = 4 ∨ S = 5 ∨ S = 6 := by omega
  rcases h with rfl | rfl | rfl | rfl | rfl | rfl <;> omega
theorem P4.lh_in {l : List Int} (hv : ∀ k, k < 4 → 0 ≤ l.getD k 0 ∧ l.getD k 0 < 4) (i : Nat) (hi : i ≤ 3) : -24 * (i : Int) ≤ P4.lh l i ∧ P4.lh l i ≤ 24 * (i : Int) := by
  induction i with
  | zero => exact ⟨by simp [P4.lh], by simp [P4.lh]⟩
  | succ i ih =>
    have := ih (by omega)
    have hc := P4.cnt_in l i i
    have hl := hv i (by omega)
    have hs := P4.sz_pos i
    have hm := P4.mul_in (S := (P4.sz i : Int)) (T := l.getD i 0 - P4.cnt l i i) (by omega) (by omega) (by omega) (by omega)
    rw [P4.lh]
    omega

theorem drewN_more2 {w V : World} {q : Nat} (h : V = w.drewN q) (k : Nat) : ∃ r, V.drewN k = w.drewN r := ⟨q + k, by subst h; simp⟩
set_option maxHeartbeats 4000000 in
theorem index_spec (A : Option Addr) (c : Nat) (l : List Int) (B : Nat) (w : World) (h : Ints w B A 4 l) (hv : ∀ k, k < 4 → 0 ≤ l.getD k 0 ∧ l.getD k 0 < 4) :
    Calls Tryd.prog 151 #[.slice A 4 c] w fun e w' => e = .returned (.int .i64 (P4.lh l 3)) ∧ ∃ k, w' = w.drewN k := by
  have H := Lib.hid h
  have HV := Lib.hid hv
  clear h hv
  go_enter Tryd.func151, Tryd.ntmps151
  go_wp2
  go_loopw [3, 4, 5] (fun x s i W => ∃ k : Nat, k ≤ 3 ∧ i = .int .i64 k ∧ x = .int .i64 (P4.lh l k) ∧ s = .int .i64 (P4.sz k) ∧ ∃ q, W = w.drewN q) (fun _ _ i _ => 3 - (intOf i).toNat)
  case atStart => exact ⟨0, Nat.zero_le _, rfl, rfl, rfl, 0, rfl⟩
  case round =>
    obtain ⟨k, hk, rfl, rfl, rfl, q, rfl⟩ := hrel
    have LB := P4.lh_in HV.out k hk
    obtain ⟨sp1, sp2⟩ := P4.sz_pos k
    by_cases hlt : k < 3
    · obtain ⟨b, off, z, rfl, hb, hz, hcz⟩ := H.out.at_z (k := k) (by omega)
      have Z := Lib.hid hz
      have hz2 := HV.out k (by omega)
      rw [hz] at hz2
      obtain ⟨z1, z2⟩ := hz2
      have NX := Lib.hid (show P4.lh l (k + 1) = P4.lh l k + (P4.sz k : Int) * (z - P4.cnt l k k) from by rw [P4.lh, hz])
      obtain ⟨X, hX⟩ : ∃ X, P4.lh l k = X := ⟨_, rfl⟩
      obtain ⟨S, hS⟩ : ∃ S, P4.sz k = S := ⟨_, rfl⟩
      have HS := Lib.hid hS
      rw [hX] at LB NX
      rw [hS] at sp1 sp2 NX
      rw [hX, hS]
      clear hX hS hz
      have i1 : (k : Int) < 4 := by omega
      have i2 : (0 : Int) ≤ (k : Int) := by omega
      have i3 : (k : Int) < 3 := by omega
      go_wp2
      obtain ⟨wo, hwo⟩ : ∃ wo : World, wo = w.drewN q := ⟨_, rfl⟩
      rw [← hwo]
      have WO := Lib.hid hwo
      clear hwo
      go_loopw [6, 7] (fun y j W => ∃ m : Nat, m ≤ k ∧ j = .int .i64 m ∧ y = .int .i64 (z - P4.cnt l k m) ∧ ∃ q2, W = wo.drewN q2) (fun _ j _ => k - (intOf j).toNat)
      case atStart => exact ⟨0, Nat.zero_le _, rfl, by simp [P4.cnt], 0, rfl⟩
      case round =>
        obtain ⟨m, hm, rfl, rfl, q2, rfl⟩ := hrel
        have CB := P4.cnt_in l k m
        by_cases hlm : m < k
        · obtain ⟨b2, off2, y, e2, hb2, hy, hcy⟩ := H.out.at_z (k := m) (by omega)
          cases e2
          have c1 : wo.cell? ⟨b, off + k, none⟩ = some (.int .i64 z) := by rw [WO.out]; exact hcz
          have c2 : wo.cell? ⟨b, off + m, none⟩ = some (.int .i64 y) := by rw [WO.out]; exact hcy
          have CN := Lib.hid (show P4.cnt l k (m + 1) = P4.cnt l k m + if y < z then 1 else 0 from by rw [P4.cnt, hy, Z.out])
          obtain ⟨C, hC⟩ : ∃ C, P4.cnt l k m = C := ⟨_, rfl⟩
          rw [hC] at CB CN
          rw [hC]
          clear hC hy hcy
          have j1 : (m : Int) < 4 := by omega
          have j2 : (0 : Int) ≤ (m : Int) := by omega
          have j3 : (m : Int) < (k : Int) := by omega
          by_cases hyz : y < z
          · have t1 : decide (y < z) = true := by simpa using hyz
            rw [if_pos hyz] at CN
            clear hyz
            go_wp2
            go_quiet (fail)
            all_goals
              go_wp2
              go_roundw
              case rel => exact ⟨m + 1, by omega, by go_num, by rw [CN.out]; congr 1; omega, _, rfl⟩
              case measure => simp [intOf]; omega
          · have t1 : decide (y < z) = false := by simpa using hyz
            rw [if_neg hyz, Int.add_zero] at CN
            clear hyz
            go_wp2
            go_quiet (fail)
            all_goals
              go_wp2
              go_roundw
              case rel => exact ⟨m + 1, by omega, by go_num, by rw [CN.out], _, rfl⟩
              case measure => simp [intOf]; omega
        · obtain rfl : m = k := by omega
          obtain ⟨T, hT⟩ : ∃ T, z - P4.cnt l m m = T := ⟨_, rfl⟩
          have t3 : -4 ≤ T := by omega
          have t4 : T ≤ 4 := by omega
          rw [hT] at NX
          rw [hT]
          clear hT
          obtain ⟨p1, p2⟩ := P4.mul_in (S := (S : Int)) (T := T) (by omega) (by omega) t3 t4
          have w1 : IntKind.i64.wrap ((S : Int) * T) = (S : Int) * T := IntWalk.i64_in _ (by omega)
          have w2 : IntKind.i64.wrap (X + (S : Int) * T) = X + (S : Int) * T := IntWalk.i64_in _ (by omega)
          have n0 : ¬ (3 : Int) - (m : Int) = 0 := by omega
          have n1 : (0 : Int) ≤ 3 - (m : Int) := by omega
          obtain ⟨q1, q2'⟩ := P4.sz_pos (m + 1)
          obtain ⟨S2, hS2⟩ : ∃ S2, P4.sz (m + 1) = S2 := ⟨_, rfl⟩
          have HS2 := Lib.hid hS2
          have d3 : (S : Int) / (3 - (m : Int)) = (S2 : Int) := by
            have h1 := P4.sz_step m hlt
            rw [HS.out, hS2] at h1
            rw [← h1, show (3 : Int) - (m : Int) = ((3 - m : Nat) : Int) by omega]
            exact (Int.natCast_ediv _ _).symm
          rw [hS2] at q1 q2'
          clear hS2
          go_wp2
          go_roundw
          case rel => exact ⟨m + 1, by omega, by go_num, by rw [NX.out], by rw [HS2.out], drewN_more2 WO.out q2⟩
          case measure => simp [intOf]; omega
    · obtain rfl : k = 3 := by omega
      go_wp2
      go_ret
      exact ⟨rfl, q, rfl⟩

end Go.Proofs.YtjendlfophdfeaaDoor
