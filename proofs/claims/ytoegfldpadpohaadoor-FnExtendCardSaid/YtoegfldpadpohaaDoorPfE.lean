/- The specification's exported functions over permutations of four numbers; which numbers are indices, which are vertices. No condition but those that each theorem names. -/
import Derived.Test.YtoegfldpadpohaaDoorPfD
namespace Go.Proofs.YtoegfldpadpohaaDoor
open Go.RowKit

theorem l06Valid_yes (p : Int) (w : World) (h0 : 0 ≤ p) (h1 : p < 24) : Calls Tryd.prog 46 #[.int .i64 p] w fun e w' => e = .returned (.bool true) ∧ w = w' := by
  have t0 : decide ((0 : Int) ≤ p) = true := by simpa using h0
  have t1 : decide (p < 24) = true := by simpa using h1
  go_enter Tryd.func46, Tryd.ntmps46
  go_wp2
  go_ret
  exact ⟨rfl, rfl⟩
theorem l06Valid_no (p : Int) (w : World) (h : ¬ (0 ≤ p ∧ p < 24)) : Calls Tryd.prog 46 #[.int .i64 p] w fun e w' => e = .returned (.bool false) ∧ w = w' := by
  by_cases h0 : 0 ≤ p
  · have h1 : ¬ p < 24 := fun h1 => h ⟨h0, h1⟩
    have t0 : decide ((0 : Int) ≤ p) = true := by simpa using h0
    have t1 : decide (p < 24) = false := by simpa using h1
    clear h
    go_enter Tryd.func46, Tryd.ntmps46
    go_wp2
    go_ret
    exact ⟨rfl, rfl⟩
  · have t0 : decide ((0 : Int) ≤ p) = false := by simpa using h0
    clear h
    go_enter Tryd.func46, Tryd.ntmps46
    go_wp2
    go_ret
    exact ⟨rfl, rfl⟩

theorem isPerm4_yes (p : Int) (w : World) (h0 : 0 ≤ p) (h1 : p < 24) : Calls Tryd.prog 37 #[.int .i64 p] w fun e w' => e = .returned (.bool true) ∧ w = w' := by
  have t0 : decide ((0 : Int) ≤ p) = true := by simpa using h0
  have t1 : decide (p < 24) = true := by simpa using h1
  go_enter Tryd.func37, Tryd.ntmps37
  go_wp2
  go_ret
  exact ⟨rfl, rfl⟩
theorem isPerm4_no (p : Int) (w : World) (h : ¬ (0 ≤ p ∧ p < 24)) : Calls Tryd.prog 37 #[.int .i64 p] w fun e w' => e = .returned (.bool false) ∧ w = w' := by
  by_cases h0 : 0 ≤ p
  · have h1 : ¬ p < 24 := fun h1 => h ⟨h0, h1⟩
    have t0 : decide ((0 : Int) ≤ p) = true := by simpa using h0
    have t1 : decide (p < 24) = false := by simpa using h1
    clear h
    go_enter Tryd.func37, Tryd.ntmps37
    go_wp2
    go_ret
    exact ⟨rfl, rfl⟩
  · have t0 : decide ((0 : Int) ≤ p) = false := by simpa using h0
    clear h
    go_enter Tryd.func37, Tryd.ntmps37
    go_wp2
    go_ret
    exact ⟨rfl, rfl⟩

theorem isVertex_yes (p : Int) (w : World) (h0 : 0 ≤ p) (h1 : p < 4) : Calls Tryd.prog 44 #[.int .i64 p] w fun e w' => e = .returned (.bool true) ∧ w = w' := by
  have t0 : decide ((0 : Int) ≤ p) = true := by simpa using h0
  have t1 : decide (p < 4) = true := by simpa using h1
  go_enter Tryd.func44, Tryd.ntmps44
  go_wp2
  go_ret
  exact ⟨rfl, rfl⟩
theorem isVertex_no (p : Int) (w : World) (h : ¬ (0 ≤ p ∧ p < 4)) : Calls Tryd.prog 44 #[.int .i64 p] w fun e w' => e = .returned (.bool false) ∧ w = w' := by
  by_cases h0 : 0 ≤ p
  · have h1 : ¬ p < 4 := fun h1 => h ⟨h0, h1⟩
    have t0 : decide ((0 : Int) ≤ p) = true := by simpa using h0
    have t1 : decide (p < 4) = false := by simpa using h1
    clear h
    go_enter Tryd.func44, Tryd.ntmps44
    go_wp2
    go_ret
    exact ⟨rfl, rfl⟩
  · have t0 : decide ((0 : Int) ≤ p) = false := by simpa using h0
    clear h
    go_enter Tryd.func44, Tryd.ntmps44
    go_wp2
    go_ret
    exact ⟨rfl, rfl⟩

theorem perm4_spec_no (p : Int) (w : World) (hp : ¬ (0 ≤ p ∧ p < 24)) :
    Calls Tryd.prog 25 #[.int .i64 p] w fun e w' => e = .returned (.slice none 0 0) ∧ w = w' := by
  have HP := Lib.hid hp
  clear hp
  go_enter Tryd.func25, Tryd.ntmps25
  go_wp2_with fail
  refine (l06Valid_no _ _ HP.out).mono ?_
  rintro e w0 ⟨rfl, rfl⟩
  go_wp2
  go_ret
  exact ⟨rfl, rfl⟩

theorem perm4_spec (p : Nat) (w : World) (hp : p < 24) :
    Calls Tryd.prog 25 #[.int .i64 p] w (ResIm w p) := by
  have HP := Lib.hid (show (0 : Int) ≤ (p : Int) ∧ (p : Int) < 24 from by omega)
  go_enter Tryd.func25, Tryd.ntmps25
  go_wp2_with fail
  refine (l06Valid_yes _ _ HP.out.1 HP.out.2).mono ?_
  rintro e w0 ⟨rfl, rfl⟩
  go_wp2_with fail
  refine (images_spec p _ hp).mono ?_
  rintro e w1 ⟨A1, c1, rfl, ho1, hb1⟩
  have O1 := Lib.hid ho1
  have D1 := Lib.hid hb1
  clear ho1 hb1
  go_wp2
  go_ret
  exact ⟨_, _, rfl, O1.out, D1.out⟩

theorem invert_spec_no (p : Int) (w : World) (hp : ¬ (0 ≤ p ∧ p < 24)) :
    Calls Tryd.prog 33 #[.int .i64 p] w fun e w' => e = .returned (.int .i64 (-1)) ∧ w = w' := by
  have HP := Lib.hid hp
  clear hp
  go_enter Tryd.func33, Tryd.ntmps33
  go_wp2_with fail
  refine (l06Valid_no _ _ HP.out).mono ?_
  rintro e w0 ⟨rfl, rfl⟩
  go_wp2
  go_ret
  exact ⟨rfl, rfl⟩

theorem invert_spec (p : Nat) (w : World) (hp : p < 24) :
    Calls Tryd.prog 33 #[.int .i64 p] w (ResI w (P4.ivt p)) := by
  have HP := Lib.hid (show (0 : Int) ≤ (p : Int) ∧ (p : Int) < 24 from by omega)
  go_enter Tryd.func33, Tryd.ntmps33
  go_wp2_with fail
  refine (l06Valid_yes _ _ HP.out.1 HP.out.2).mono ?_
  rintro e w0 ⟨rfl, rfl⟩
  go_wp2_with fail
  refine (back_spec p _ hp).mono ?_
  rintro e w1 ⟨rfl, hb1⟩
  have D1 := Lib.hid hb1
  clear hb1
  go_wp2
  go_ret
  exact ⟨rfl, D1.out⟩

theorem sign_spec_no (p : Int) (w : World) (hp : ¬ (0 ≤ p ∧ p < 24)) :
    Calls Tryd.prog 34 #[.int .i64 p] w fun e w' => e = .returned (.int .i64 0) ∧ w = w' := by
  have HP := Lib.hid hp
  clear hp
  go_enter Tryd.func34, Tryd.ntmps34
  go_wp2_with fail
  refine (l06Valid_no _ _ HP.out).mono ?_
  rintro e w0 ⟨rfl, rfl⟩
  go_wp2
  go_ret
  exact ⟨rfl, rfl⟩

set_option maxHeartbeats 4000000 in
theorem sign_spec (p : Nat) (w : World) (hp : p < 24) :
    Calls Tryd.prog 34 #[.int .i64 p] w (ResI w (P4.sgO (P4.im p) 4)) := by
  have HP := Lib.hid (show (0 : Int) ≤ (p : Int) ∧ (p : Int) < 24 from by omega)
  go_enter Tryd.func34, Tryd.ntmps34
  go_wp2_with fail
  refine (l06Valid_yes _ _ HP.out.1 HP.out.2).mono ?_
  rintro e w0 ⟨rfl, rfl⟩
  go_wp2_with fail
  refine (images_spec p _ hp).mono ?_
  rintro e w1 ⟨A1, c1, rfl, ho1, hb1⟩
  have I1 := Lib.hid ho1.ints
  have D1 := Lib.hid hb1
  clear ho1 hb1
  obtain ⟨l, hl⟩ : ∃ l, P4.im p = l := ⟨_, rfl⟩
  rw [hl] at I1
  have HL := Lib.hid hl
  clear hl
  go_wp2
  go_loopw [4, 5] (fun s j W => ∃ k : Nat, k ≤ 4 ∧ j = .int .i64 k ∧ s = .int .i64 (P4.sgO l k) ∧ ∃ q, W = w1.drewN q) (fun _ j _ => 4 - (intOf j).toNat)
  case atStart => exact ⟨0, Nat.zero_le _, rfl, rfl, 0, rfl⟩
  case round =>
    obtain ⟨k, hk, rfl, rfl, q, rfl⟩ := hrel
    by_cases hlt : k < 4
    · obtain ⟨b, off, z, rfl, hb, hz, hcz⟩ := I1.out.at_z (k := k) hlt
      have Z := Lib.hid hz
      have i1 : (k : Int) < 4 := by omega
      have i2 : (0 : Int) ≤ (k : Int) := by omega
      obtain ⟨S, hS⟩ : ∃ S, P4.sgO l k = S := ⟨_, rfl⟩
      have HS := Lib.hid hS
      have SB := Lib.hid (show S = 1 ∨ S = -1 from by rw [← hS]; exact P4.sgO_in l k)
      rw [hS]
      clear hz hS
      go_wp2
      obtain ⟨wo, hwo⟩ : ∃ wo : World, wo = w1.drewN q := ⟨_, rfl⟩
      rw [← hwo]
      have WO := Lib.hid hwo
      clear hwo
      go_loopw [4, 6] (fun s i W => ∃ m : Nat, m ≤ k ∧ i = .int .i64 m ∧ s = .int .i64 (P4.sgI l k S m) ∧ ∃ q2, W = wo.drewN q2) (fun _ i _ => k - (intOf i).toNat)
      case atStart => exact ⟨0, Nat.zero_le _, rfl, rfl, 0, rfl⟩
      case round =>
        obtain ⟨m, hm, rfl, rfl, q2, rfl⟩ := hrel
        have TB := P4.sgI_in (l := l) (j := k) SB.out m
        by_cases hlm : m < k
        · obtain ⟨b2, off2, y, e2, hb2, hy, hcy⟩ := I1.out.at_z (k := m) (by omega)
          cases e2
          have c1 : wo.cell? ⟨b, off + k, none⟩ = some (.int .i64 z) := by rw [WO.out]; exact hcz
          have c2 : wo.cell? ⟨b, off + m, none⟩ = some (.int .i64 y) := by rw [WO.out]; exact hcy
          have NX := Lib.hid (show P4.sgI l k S (m + 1) = if y > z then -(P4.sgI l k S m) else P4.sgI l k S m from by rw [P4.sgI, hy, Z.out])
          obtain ⟨T, hT⟩ : ∃ T, P4.sgI l k S m = T := ⟨_, rfl⟩
          rw [hT] at NX TB
          rw [hT]
          have t3 : -1 ≤ T := by omega
          have t4 : T ≤ 1 := by omega
          have tn : IntKind.i64.wrap (-T) = -T := IntWalk.i64_in _ (by omega)
          clear hT hy hcy TB
          have j1 : (m : Int) < 4 := by omega
          have j2 : (0 : Int) ≤ (m : Int) := by omega
          have j3 : (m : Int) < (k : Int) := by omega
          by_cases hyz : z < y
          · have t1 : decide (z < y) = true := by simpa using hyz
            have NY := Lib.hid (show P4.sgI l k S (m + 1) = -T from by rw [NX.out, if_pos hyz])
            clear hyz NX
            go_wp2
            go_quiet (fail)
            all_goals
              go_wp2
              go_roundw
              case rel => exact ⟨m + 1, by omega, by go_num, by rw [NY.out], _, rfl⟩
              case measure => simp [intOf]; omega
          · have t1 : decide (z < y) = false := by simpa using hyz
            have NY := Lib.hid (show P4.sgI l k S (m + 1) = T from by rw [NX.out, if_neg hyz])
            clear hyz NX
            go_wp2
            go_quiet (fail)
            all_goals
              go_wp2
              go_roundw
              case rel => exact ⟨m + 1, by omega, by go_num, by rw [NY.out], _, rfl⟩
              case measure => simp [intOf]; omega
        · obtain rfl : m = k := by omega
          have NX := Lib.hid (show P4.sgO l (m + 1) = P4.sgI l m S m from by rw [P4.sgO, HS.out])
          go_wp2
          go_roundw
          case rel => exact ⟨m + 1, by omega, by go_num, by rw [NX.out], drewN_more2 WO.out q2⟩
          case measure => simp [intOf]; omega
    · obtain rfl : k = 4 := by omega
      go_wp2
      go_ret
      exact ⟨by rw [HL.out]; rfl, D1.out.trans (Go.Joins.below_draws _ _ _)⟩

theorem order_spec_no (p : Int) (w : World) (hp : ¬ (0 ≤ p ∧ p < 24)) :
    Calls Tryd.prog 35 #[.int .i64 p] w fun e w' => e = .returned (.int .i64 (-1)) ∧ w = w' := by
  have HP := Lib.hid hp
  clear hp
  go_enter Tryd.func35, Tryd.ntmps35
  go_wp2_with fail
  refine (l06Valid_no _ _ HP.out).mono ?_
  rintro e w0 ⟨rfl, rfl⟩
  go_wp2
  go_ret
  exact ⟨rfl, rfl⟩

set_option maxHeartbeats 4000000 in
theorem order_spec (p : Nat) (w : World) (hp : p < 24) :
    Calls Tryd.prog 35 #[.int .i64 p] w (ResI w ((P4.ord p : Int) + 1)) := by
  have HP := Lib.hid (show (0 : Int) ≤ (p : Int) ∧ (p : Int) < 24 from by omega)
  obtain ⟨o1, o2, o3⟩ := P4.it_ord p hp
  have O1 := Lib.hid o1
  have O3 := Lib.hid o3
  obtain ⟨o, ho⟩ : ∃ o, P4.ord p = o := ⟨_, rfl⟩
  rw [ho] at o2 O1 O3
  rw [ho]
  clear o1 o3 ho
  go_enter Tryd.func35, Tryd.ntmps35
  go_wp2_with fail
  refine (l06Valid_yes _ _ HP.out.1 HP.out.2).mono ?_
  rintro e w0 ⟨rfl, rfl⟩
  go_wp2
  go_loopw [3, 4] (fun n x W => ∃ k : Nat, k ≤ o ∧ n = .int .i64 ((k : Int) + 1) ∧ x = .int .i64 (P4.it p k) ∧ Below w.heap.size w W) (fun n _ _ => o + 1 - (intOf n).toNat)
  case atStart => exact ⟨0, Nat.zero_le _, rfl, rfl, Below.refl _ _⟩
  case round =>
    obtain ⟨k, hk, rfl, rfl, hbel⟩ := hrel
    have D := Lib.hid hbel
    have z0 := hbel.size
    clear hbel
    have IL := P4.it_lt hp k
    by_cases hlt : k < o
    · have NE := O3.out k hlt
      have NX := Lib.hid (show P4.it p (k + 1) = P4.thn (P4.it p k) p from rfl)
      obtain ⟨x, hx⟩ : ∃ x, P4.it p k = x := ⟨_, rfl⟩
      rw [hx] at NE NX IL
      rw [hx]
      have t0 : ((x : Int) != 0) = true := by simpa using NE
      clear hx NE
      go_wp2_with fail
      refine (then_spec x p _ IL hp).mono ?_
      rintro e w1 ⟨rfl, hb1⟩
      have D1 := Lib.hid (D.out.trans (hb1.mono z0))
      clear hb1
      go_wp2
      go_roundw
      case rel => exact ⟨k + 1, by omega, by go_num, by rw [NX.out], D1.out⟩
      case measure => simp [intOf]; omega
    · obtain rfl : k = o := by omega
      rw [O1.out]
      go_wp2
      go_ret
      exact ⟨rfl, D.out⟩

theorem compose_spec (p q : Nat) (w : World) (hp : p < 24) (hq : q < 24) :
    Calls Tryd.prog 32 #[.int .i64 p, .int .i64 q] w (ResI w (P4.thn p q)) := by
  have HP := Lib.hid (show (0 : Int) ≤ (p : Int) ∧ (p : Int) < 24 from by omega)
  have HQ := Lib.hid (show (0 : Int) ≤ (q : Int) ∧ (q : Int) < 24 from by omega)
  go_enter Tryd.func32, Tryd.ntmps32
  go_wp2_with fail
  refine (l06Valid_yes _ _ HP.out.1 HP.out.2).mono ?_
  rintro e w0 ⟨rfl, rfl⟩
  go_wp2_with fail
  refine (l06Valid_yes _ _ HQ.out.1 HQ.out.2).mono ?_
  rintro e w0 ⟨rfl, rfl⟩
  go_wp2_with fail
  refine (then_spec p q _ hp hq).mono ?_
  rintro e w1 ⟨rfl, hb1⟩
  have D1 := Lib.hid hb1
  clear hb1
  go_wp2
  go_ret
  exact ⟨rfl, D1.out⟩
theorem compose_spec_no (p q : Int) (w : World) (h : ¬ ((0 ≤ p ∧ p < 24) ∧ (0 ≤ q ∧ q < 24))) :
    Calls Tryd.prog 32 #[.int .i64 p, .int .i64 q] w fun e w' => e = .returned (.int .i64 (-1)) ∧ w = w' := by
  by_cases hp : 0 ≤ p ∧ p < 24
  · have HP := Lib.hid hp
    have HQ := Lib.hid (show ¬ (0 ≤ q ∧ q < 24) from fun hq => h ⟨hp, hq⟩)
    clear hp h
    go_enter Tryd.func32, Tryd.ntmps32
    go_wp2_with fail
    refine (l06Valid_yes _ _ HP.out.1 HP.out.2).mono ?_
    rintro e w0 ⟨rfl, rfl⟩
    go_wp2_with fail
    refine (l06Valid_no _ _ HQ.out).mono ?_
    rintro e w0 ⟨rfl, rfl⟩
    go_wp2
    go_ret
    exact ⟨rfl, rfl⟩
  · have HP := Lib.hid hp
    clear hp h
    go_enter Tryd.func32, Tryd.ntmps32
    go_wp2_with fail
    refine (l06Valid_no _ _ HP.out).mono ?_
    rintro e w0 ⟨rfl, rfl⟩
    go_wp2
    go_ret
    exact ⟨rfl, rfl⟩
theorem apply_spec (p k : Nat) (w : World) (hp : p < 24) (hk : k < 4) :
    Calls Tryd.prog 31 #[.int .i64 p, .int .i64 k] w (ResI w ((P4.im p).getD k 0)) := by
  have HP := Lib.hid (show (0 : Int) ≤ (p : Int) ∧ (p : Int) < 24 from by omega)
  have t0 : decide ((k : Int) < 0) = false := by simp
  have t1 : decide ((3 : Int) < (k : Int)) = false := by simp; omega
  have i1 : ¬ (3 : Int) < (k : Int) := by omega
  obtain ⟨z0, hz0⟩ : ∃ z0, (P4.im p).getD k 0 = z0 := ⟨_, rfl⟩
  have AT := Lib.hid (fun w => at_spec p k w hp hk)
  rw [hz0] at AT
  rw [hz0]
  clear hz0
  go_enter Tryd.func31, Tryd.ntmps31
  go_wp2_with fail
  refine (l06Valid_yes _ _ HP.out.1 HP.out.2).mono ?_
  rintro e w0 ⟨rfl, rfl⟩
  go_wp2_with fail
  refine (AT.out _).mono ?_
  rintro e w1 ⟨rfl, hb1⟩
  have D1 := Lib.hid hb1
  clear hb1
  go_wp2
  go_ret
  exact ⟨rfl, D1.out⟩
theorem apply_spec_no (p k : Int) (w : World) (h : ¬ ((0 ≤ p ∧ p < 24) ∧ (0 ≤ k ∧ k < 4))) :
    Calls Tryd.prog 31 #[.int .i64 p, .int .i64 k] w fun e w' => e = .returned (.int .i64 (-1)) ∧ w = w' := by
  by_cases hp : 0 ≤ p ∧ p < 24
  · have HP := Lib.hid hp
    have hk : ¬ (0 ≤ k ∧ k < 4) := fun hk => h ⟨hp, hk⟩
    clear hp h
    by_cases hk0 : k < 0
    · clear hk
      have t0 : decide (k < 0) = true := by simpa using hk0
      go_enter Tryd.func31, Tryd.ntmps31
      go_wp2_with fail
      refine (l06Valid_yes _ _ HP.out.1 HP.out.2).mono ?_
      rintro e w0 ⟨rfl, rfl⟩
      go_wp2
      go_ret
      exact ⟨rfl, rfl⟩
    · have t0 : decide (k < 0) = false := by simpa using hk0
      have hk1 : 3 < k := by omega
      have t1 : decide (3 < k) = true := by simpa using hk1
      clear hk
      go_enter Tryd.func31, Tryd.ntmps31
      go_wp2_with fail
      refine (l06Valid_yes _ _ HP.out.1 HP.out.2).mono ?_
      rintro e w0 ⟨rfl, rfl⟩
      go_wp2
      go_ret
      exact ⟨rfl, rfl⟩
  · have HP := Lib.hid hp
    clear hp h
    go_enter Tryd.func31, Tryd.ntmps31
    go_wp2_with fail
    refine (l06Valid_no _ _ HP.out).mono ?_
    rintro e w0 ⟨rfl, rfl⟩
    go_wp2
    go_ret
    exact ⟨rfl, rfl⟩

end Go.Proofs.YtoegfldpadpohaaDoor
