/- Contracts of the functions that say whether a polynomial is valid, the program's and the specification's. No condition but those that each theorem names. -/
import Derived.Test.YtopbfjhgpgjnnaaDoorLauA
import Derived.Test.YtopbfjhgpgjnnaaDoorMatC
namespace Go.Proofs.YtopbfjhgpgjnnaaDoor
open Go.RowKit

set_option maxHeartbeats 400000 in
theorem isEntry_yes (x : Int) (w : World) (h : -1000000000000 ≤ x ∧ x ≤ 1000000000000) : Calls Tryd.prog 22 #[.int .i64 x] w fun e w' => e = .returned (.bool true) ∧ w = w' := by
  have d0 : decide (-1000000000000 ≤ x) = true := by simpa using h.1
  have d : decide (x ≤ 1000000000000) = true := by simpa using h.2
  clear h
  go_enter Tryd.func22, Tryd.ntmps22
  go_wp2
  go_ret
  exact ⟨rfl, rfl⟩
set_option maxHeartbeats 400000 in
theorem isEntry_no (x : Int) (w : World) (h : ¬ (-1000000000000 ≤ x ∧ x ≤ 1000000000000)) : Calls Tryd.prog 22 #[.int .i64 x] w fun e w' => e = .returned (.bool false) ∧ w = w' := by
  by_cases h1 : -1000000000000 ≤ x
  · have d0 : decide (-1000000000000 ≤ x) = true := by simpa using h1
    have d : decide (x ≤ 1000000000000) = false := by simp; omega
    clear h
    go_enter Tryd.func22, Tryd.ntmps22
    go_wp2
    go_ret
    exact ⟨rfl, rfl⟩
  · have d0 : decide (-1000000000000 ≤ x) = false := by simp; omega
    clear h
    go_enter Tryd.func22, Tryd.ntmps22
    go_wp2
    go_ret
    exact ⟨rfl, rfl⟩

set_option maxHeartbeats 1000000 in
theorem areEntries_any (A : Option Addr) (n c : Nat) (zs : List Int) (w : World) (h : Ints w w.heap.size A n zs) (hn : n ≤ 1048576) :
    Calls Tryd.prog 19 #[.slice A n c] w (SaysB (Within zs n) w.heap.size w) := by
  have H := Lib.hid h
  clear h
  go_enter Tryd.func19, Tryd.ntmps19
  go_wp2
  go_loop [7, 4] (fun i _ => ∃ k : Nat, k ≤ n ∧ i = .int .i64 k ∧ Within zs k) (fun i _ => n - (intOf i).toNat)
  case atStart => exact ⟨0, Nat.zero_le _, rfl, fun i hi => by omega⟩
  case round =>
    obtain ⟨k, hk, rfl, hin⟩ := hrel
    have HI := Lib.hid hin
    clear hin
    by_cases hlt : k < n
    · obtain ⟨b, off, z, rfl, hb, hz, hc⟩ := H.out.at_z hlt
      have HZ := Lib.hid hz
      clear hz
      by_cases hr : -1000000000000 ≤ z ∧ z ≤ 1000000000000
      · have HR := Lib.hid hr
        clear hr
        go_wp2_with (go_at_call 22; refine (isEntry_yes _ _ HR.out).mono ?_; rintro e w' ⟨rfl, rfl⟩)
        go_round
        case rel => exact ⟨k + 1, by omega, by go_num, within_succ HI.out (by rw [HZ.out]; exact HR.out)⟩
        case measure => simp [intOf]; omega
      · have HR := Lib.hid hr
        clear hr
        go_wp2_with (go_at_call 22; refine (isEntry_no _ _ HR.out).mono ?_; rintro e w' ⟨rfl, rfl⟩)
        go_ret
        exact ⟨_, rfl, ⟨fun h => (by simp at h), fun h => absurd (by have := h k hlt; rw [HZ.out] at this; exact this) HR.out⟩, Below.refl _ _⟩
    · obtain rfl : k = n := by omega
      go_wp2
      go_ret
      exact ⟨_, rfl, ⟨fun _ => HI.out, fun _ => rfl⟩, Below.refl _ _⟩

set_option maxHeartbeats 2000000 in
theorem isL_impl (r : Int) (A : Option Addr) (n c : Nat) (zs : List Int) (w : World) (h : Ints w w.heap.size A n zs) (hn : n ≤ 1048576) :
    Calls Tryd.prog 13 #[.agg #[.int .i64 r, .slice A n c]] w (SaysB (Lau.LOk r zs) w.heap.size w) := by
  have hl := h.1
  have H := Lib.hid (h.into (al1 w (Obj.cells #[.int .i64 r, .slice A n c] 27)))
  have HL := Lib.hid hl
  clear h hl
  by_cases n0 : n = 0
  case pos =>
    subst n0
    have HN := Lib.hid (List.length_eq_zero_iff.1 HL.out)
    by_cases r0 : r = 0
    · have t1 : (r == 0) = true := by simpa using r0
      have R0 := Lib.hid r0
      clear r0
      go_enter Tryd.func13, Tryd.ntmps13
      go_wp2
      go_ret
      exact ⟨_, rfl, ⟨fun _ => .inl ⟨HN.out, R0.out⟩, fun _ => rfl⟩, al1 _ _⟩
    · have t1 : (r == 0) = false := by simpa using r0
      have R0 := Lib.hid r0
      clear r0
      go_enter Tryd.func13, Tryd.ntmps13
      go_wp2
      go_ret
      exact ⟨_, rfl, ⟨fun h => (by simp at h), fun h => absurd (h.elim And.right fun h => absurd HN.out h.1) R0.out⟩, al1 _ _⟩
  have NE := Lib.hid (show zs ≠ [] from fun e => by have := HL.out; rw [e] at this; exact n0 this.symm)
  have m0 : ((n : Int) == 0) = false := by simp; omega
  have p0 : 0 < n := by omega
  have p1 : (0 : Int) < (n : Int) := by omega
  clear n0
  by_cases n1 : n ≤ 160
  case neg =>
    have N1 := Lib.hid n1
    have d1 : decide ((160 : Int) < (n : Int)) = true := by simp; omega
    have d2 : (160 : Int) < (n : Int) := by omega
    clear n1
    go_enter Tryd.func13, Tryd.ntmps13
    go_wp2
    go_ret
    exact ⟨_, rfl, ⟨fun h => (by simp at h), fun h => (by rcases h with h | h; (exact absurd h.1 NE.out); (have g1 := h.2.1; have g0 := HL.out; have g2 := N1.out; omega))⟩, al1 _ _⟩
  have d1 : decide ((160 : Int) < (n : Int)) = false := by simp; omega
  have d2 : ¬ (160 : Int) < (n : Int) := by omega
  obtain ⟨b, off, z0, rfl, hb, hz0, hc0⟩ := H.out.at_z p0
  have hc0' : (w.alloc (Obj.cells #[.int .i64 r, .slice (some ⟨b, off, none⟩) n c] 27)).cell? ⟨b, off, none⟩ = some (.int .i64 z0) := by simpa using hc0
  obtain ⟨b', off', zl, e1, _, hzl, hcl⟩ := H.out.at_z (show n - 1 < n by omega)
  cases e1
  have hcl' : (w.alloc (Obj.cells #[.int .i64 r, .slice (some ⟨b, off, none⟩) n c] 27)).cell? ⟨b, off + ((n : Int) - 1).toNat, none⟩ = some (.int .i64 zl) := by rw [show ((n : Int) - 1).toNat = n - 1 by omega]; exact hcl
  have i0 : (0 : Int) ≤ (n : Int) - 1 := by omega
  have i1 : (n : Int) - 1 < (n : Int) := by omega
  have j0 : (1 : Int) ≤ (n : Int) := by omega
  have j1 : 1 ≤ n := p0
  have ws : IntKind.i64.wrap ((n : Int) - 1) = (n : Int) - 1 := IntWalk.i64_in _ (by omega)
  have Z0 := Lib.hid hz0
  have ZL := Lib.hid hzl
  clear hz0 hzl hc0
  by_cases r0 : -240 ≤ r
  case neg =>
    have R0 := Lib.hid r0
    have t1 : decide (r < -240) = true := by simp; omega
    have t2 : r < -240 := by omega
    by_cases z00 : z0 = 0
    case pos =>
      have s1 : (z0 == 0) = true := by simpa using z00
      have Z00 := Lib.hid z00
      clear z00
      go_enter Tryd.func13, Tryd.ntmps13
      go_wp2
      go_ret
      exact ⟨_, rfl, ⟨fun h => (by simp at h), fun h => (by rcases h with h | h; (exact absurd h.1 NE.out); (have g1 := h.2.2.2.2.1; have g0 := HL.out; have g2 := R0.out; omega))⟩, al1 _ _⟩
    have s1 : (z0 == 0) = false := by simpa using z00
    clear z00
    by_cases zl0 : zl = 0
    case pos =>
      have s2 : (zl == 0) = true := by simpa using zl0
      have ZL0 := Lib.hid zl0
      clear zl0
      go_enter Tryd.func13, Tryd.ntmps13
      go_wp2
      go_ret
      exact ⟨_, rfl, ⟨fun h => (by simp at h), fun h => (by rcases h with h | h; (exact absurd h.1 NE.out); (have g1 := h.2.2.2.2.1; have g0 := HL.out; have g2 := R0.out; omega))⟩, al1 _ _⟩
    have s2 : (zl == 0) = false := by simpa using zl0
    clear zl0
    clear r0
    go_enter Tryd.func13, Tryd.ntmps13
    go_wp2
    go_ret
    exact ⟨_, rfl, ⟨fun h => (by simp at h), fun h => (by rcases h with h | h; (exact absurd h.1 NE.out); (have g1 := h.2.2.2.2.1; have g0 := HL.out; have g2 := R0.out; omega))⟩, al1 _ _⟩
  have t1 : decide (r < -240) = false := by simp; omega
  have t2 : ¬ r < -240 := by omega
  by_cases r1 : r + n - 1 ≤ 240
  case neg =>
    have R1 := Lib.hid r1
    have t3 : decide (240 - ((n : Int) - 1) < r) = true := by simp; omega
    have t4 : 240 - ((n : Int) - 1) < r := by omega
    by_cases z00 : z0 = 0
    case pos =>
      have s1 : (z0 == 0) = true := by simpa using z00
      clear z00
      go_enter Tryd.func13, Tryd.ntmps13
      go_wp2
      go_ret
      exact ⟨_, rfl, ⟨fun h => (by simp at h), fun h => (by rcases h with h | h; (exact absurd h.1 NE.out); (have g1 := h.2.2.2.2.2.1; have g0 := HL.out; have g2 := R1.out; omega))⟩, al1 _ _⟩
    have s1 : (z0 == 0) = false := by simpa using z00
    clear z00
    by_cases zl0 : zl = 0
    case pos =>
      have s2 : (zl == 0) = true := by simpa using zl0
      clear zl0
      go_enter Tryd.func13, Tryd.ntmps13
      go_wp2
      go_ret
      exact ⟨_, rfl, ⟨fun h => (by simp at h), fun h => (by rcases h with h | h; (exact absurd h.1 NE.out); (have g1 := h.2.2.2.2.2.1; have g0 := HL.out; have g2 := R1.out; omega))⟩, al1 _ _⟩
    have s2 : (zl == 0) = false := by simpa using zl0
    clear zl0
    go_enter Tryd.func13, Tryd.ntmps13
    go_wp2
    go_ret
    exact ⟨_, rfl, ⟨fun h => (by simp at h), fun h => (by rcases h with h | h; (exact absurd h.1 NE.out); (have g1 := h.2.2.2.2.2.1; have g0 := HL.out; have g2 := R1.out; omega))⟩, al1 _ _⟩
  have t3 : decide (240 - ((n : Int) - 1) < r) = false := by simp; omega
  have t4 : ¬ 240 - ((n : Int) - 1) < r := by omega
  have u0 : r ≤ 240 := by omega
  by_cases z00 : z0 = 0
  case pos =>
    have s1 : (z0 == 0) = true := by simpa using z00
    have Z00 := Lib.hid z00
    clear z00
    go_enter Tryd.func13, Tryd.ntmps13
    go_wp2
    go_ret
    exact ⟨_, rfl, ⟨fun h => (by simp at h), fun h => (by rcases h with h | h; (exact absurd h.1 NE.out); (have g1 := h.2.2.1; have g0 := HL.out; exact absurd (Z0.out.trans Z00.out) g1))⟩, al1 _ _⟩
  have s1 : (z0 == 0) = false := by simpa using z00
  have Z00 := Lib.hid z00
  clear z00
  by_cases zl0 : zl = 0
  case pos =>
    have s2 : (zl == 0) = true := by simpa using zl0
    have ZL0 := Lib.hid zl0
    clear zl0
    go_enter Tryd.func13, Tryd.ntmps13
    go_wp2
    go_ret
    exact ⟨_, rfl, ⟨fun h => (by simp at h), fun h => (by rcases h with h | h; (exact absurd h.1 NE.out); (have g1 := h.2.2.2.1; have g0 := HL.out; exact absurd (by rw [g0]; exact ZL.out.trans ZL0.out) g1))⟩, al1 _ _⟩
  have s2 : (zl == 0) = false := by simpa using zl0
  have ZL0 := Lib.hid zl0
  clear zl0
  have FIN := Lib.hid (fun (hw : Within zs n) => (show Lau.LOk r zs from .inr ⟨NE.out, by rw [HL.out]; exact n1, by rw [Z0.out]; exact Z00.out, by rw [HL.out, ZL.out]; exact ZL0.out, r0, by rw [HL.out]; omega, fun i hi => hw i (by rw [← HL.out]; exact hi)⟩))
  have BAK := Lib.hid (fun (h : Lau.LOk r zs) => (show Within zs n from fun i hi => h.ent i (by rw [HL.out]; exact hi)))
  go_enter Tryd.func13, Tryd.ntmps13
  go_wp2_with fail
  refine (areEntries_any _ n c zs _ H.out hn).mono ?_
  rintro e w1 ⟨f, rfl, hf, hb1⟩
  have HF := Lib.hid hf
  have HB := Lib.hid hb1
  clear hf hb1
  go_wp2
  go_ret
  exact ⟨f, rfl, ⟨fun h => FIN.out (HF.out.1 h), fun h => HF.out.2 (BAK.out h)⟩, on1 _ HB.out⟩

set_option maxHeartbeats 2000000 in
theorem isL_spec (r : Int) (A : Option Addr) (n c : Nat) (zs : List Int) (w : World) (h : Ints w w.heap.size A n zs) (hn : n ≤ 1048576) :
    Calls Tryd.prog 10 #[.agg #[.int .i64 r, .slice A n c]] w (SaysB (Lau.LOk r zs) w.heap.size w) := by
  have hl := h.1
  have H := Lib.hid (h.into (al1 w (Obj.cells #[.int .i64 r, .slice A n c] 27)))
  have HL := Lib.hid hl
  clear h hl
  by_cases n0 : n = 0
  case pos =>
    subst n0
    have HN := Lib.hid (List.length_eq_zero_iff.1 HL.out)
    by_cases r0 : r = 0
    · have t1 : (r == 0) = true := by simpa using r0
      have R0 := Lib.hid r0
      clear r0
      go_enter Tryd.func10, Tryd.ntmps10
      go_wp2_with (go_at_call 18; first | (refine (in_yes _ _ _ _ (by omega) (by omega)).mono ?_; rintro e w' ⟨rfl, rfl⟩) | (refine (in_no _ _ _ _ (by omega)).mono ?_; rintro e w' ⟨rfl, rfl⟩))
      go_ret
      exact ⟨_, rfl, ⟨fun _ => .inl ⟨HN.out, R0.out⟩, fun _ => rfl⟩, al1 _ _⟩
    · have t1 : (r == 0) = false := by simpa using r0
      have R0 := Lib.hid r0
      clear r0
      go_enter Tryd.func10, Tryd.ntmps10
      go_wp2_with (go_at_call 18; first | (refine (in_yes _ _ _ _ (by omega) (by omega)).mono ?_; rintro e w' ⟨rfl, rfl⟩) | (refine (in_no _ _ _ _ (by omega)).mono ?_; rintro e w' ⟨rfl, rfl⟩))
      go_ret
      exact ⟨_, rfl, ⟨fun h => (by simp at h), fun h => absurd (h.elim And.right fun h => absurd HN.out h.1) R0.out⟩, al1 _ _⟩
  have NE := Lib.hid (show zs ≠ [] from fun e => by have := HL.out; rw [e] at this; exact n0 this.symm)
  have m0 : ((n : Int) == 0) = false := by simp; omega
  have p0 : 0 < n := by omega
  have p1 : (0 : Int) < (n : Int) := by omega
  clear n0
  by_cases n1 : n ≤ 160
  case neg =>
    have N1 := Lib.hid n1
    have d1 : decide ((160 : Int) < (n : Int)) = true := by simp; omega
    have d2 : (160 : Int) < (n : Int) := by omega
    clear n1
    go_enter Tryd.func10, Tryd.ntmps10
    go_wp2_with (go_at_call 18; first | (refine (in_yes _ _ _ _ (by omega) (by omega)).mono ?_; rintro e w' ⟨rfl, rfl⟩) | (refine (in_no _ _ _ _ (by omega)).mono ?_; rintro e w' ⟨rfl, rfl⟩))
    go_ret
    exact ⟨_, rfl, ⟨fun h => (by simp at h), fun h => (by rcases h with h | h; (exact absurd h.1 NE.out); (have g1 := h.2.1; have g0 := HL.out; have g2 := N1.out; omega))⟩, al1 _ _⟩
  have d1 : decide ((160 : Int) < (n : Int)) = false := by simp; omega
  have d2 : ¬ (160 : Int) < (n : Int) := by omega
  obtain ⟨b, off, z0, rfl, hb, hz0, hc0⟩ := H.out.at_z p0
  have hc0' : (w.alloc (Obj.cells #[.int .i64 r, .slice (some ⟨b, off, none⟩) n c] 27)).cell? ⟨b, off, none⟩ = some (.int .i64 z0) := by simpa using hc0
  obtain ⟨b', off', zl, e1, _, hzl, hcl⟩ := H.out.at_z (show n - 1 < n by omega)
  cases e1
  have hcl' : (w.alloc (Obj.cells #[.int .i64 r, .slice (some ⟨b, off, none⟩) n c] 27)).cell? ⟨b, off + ((n : Int) - 1).toNat, none⟩ = some (.int .i64 zl) := by rw [show ((n : Int) - 1).toNat = n - 1 by omega]; exact hcl
  have i0 : (0 : Int) ≤ (n : Int) - 1 := by omega
  have i1 : (n : Int) - 1 < (n : Int) := by omega
  have j0 : (1 : Int) ≤ (n : Int) := by omega
  have j1 : 1 ≤ n := p0
  have ws : IntKind.i64.wrap ((n : Int) - 1) = (n : Int) - 1 := IntWalk.i64_in _ (by omega)
  have Z0 := Lib.hid hz0
  have ZL := Lib.hid hzl
  clear hz0 hzl hc0
  by_cases r0 : -240 ≤ r
  case neg =>
    have R0 := Lib.hid r0
    have t1 : decide (r < -240) = true := by simp; omega
    have t2 : r < -240 := by omega
    clear r0
    go_enter Tryd.func10, Tryd.ntmps10
    go_wp2_with (go_at_call 18; first | (refine (in_yes _ _ _ _ (by omega) (by omega)).mono ?_; rintro e w' ⟨rfl, rfl⟩) | (refine (in_no _ _ _ _ (by omega)).mono ?_; rintro e w' ⟨rfl, rfl⟩))
    go_ret
    exact ⟨_, rfl, ⟨fun h => (by simp at h), fun h => (by rcases h with h | h; (exact absurd h.1 NE.out); (have g1 := h.2.2.2.2.1; have g0 := HL.out; have g2 := R0.out; omega))⟩, al1 _ _⟩
  have t1 : decide (r < -240) = false := by simp; omega
  have t2 : ¬ r < -240 := by omega
  by_cases r1 : r + n - 1 ≤ 240
  case neg =>
    have R1 := Lib.hid r1
    by_cases u0 : r ≤ 240
    case neg =>
      go_enter Tryd.func10, Tryd.ntmps10
      go_wp2_with (go_at_call 18; first | (refine (in_yes _ _ _ _ (by omega) (by omega)).mono ?_; rintro e w' ⟨rfl, rfl⟩) | (refine (in_no _ _ _ _ (by omega)).mono ?_; rintro e w' ⟨rfl, rfl⟩))
      go_ret
      exact ⟨_, rfl, ⟨fun h => (by simp at h), fun h => (by rcases h with h | h; (exact absurd h.1 NE.out); (have g1 := h.2.2.2.2.2.1; have g0 := HL.out; have g2 := R1.out; omega))⟩, al1 _ _⟩
    have t3 : decide (240 < r + (n : Int) - 1) = true := by simp; omega
    go_enter Tryd.func10, Tryd.ntmps10
    go_wp2_with (go_at_call 18; first | (refine (in_yes _ _ _ _ (by omega) (by omega)).mono ?_; rintro e w' ⟨rfl, rfl⟩) | (refine (in_no _ _ _ _ (by omega)).mono ?_; rintro e w' ⟨rfl, rfl⟩))
    go_ret
    exact ⟨_, rfl, ⟨fun h => (by simp at h), fun h => (by rcases h with h | h; (exact absurd h.1 NE.out); (have g1 := h.2.2.2.2.2.1; have g0 := HL.out; have g2 := R1.out; omega))⟩, al1 _ _⟩
  have u0 : r ≤ 240 := by omega
  have t3 : decide (240 < r + (n : Int) - 1) = false := by simp; omega
  by_cases z00 : z0 = 0
  case pos =>
    have s1 : (z0 == 0) = true := by simpa using z00
    have Z00 := Lib.hid z00
    clear z00
    go_enter Tryd.func10, Tryd.ntmps10
    go_wp2_with (go_at_call 18; first | (refine (in_yes _ _ _ _ (by omega) (by omega)).mono ?_; rintro e w' ⟨rfl, rfl⟩) | (refine (in_no _ _ _ _ (by omega)).mono ?_; rintro e w' ⟨rfl, rfl⟩))
    go_ret
    exact ⟨_, rfl, ⟨fun h => (by simp at h), fun h => (by rcases h with h | h; (exact absurd h.1 NE.out); (have g1 := h.2.2.1; have g0 := HL.out; exact absurd (Z0.out.trans Z00.out) g1))⟩, al1 _ _⟩
  have s1 : (z0 == 0) = false := by simpa using z00
  have Z00 := Lib.hid z00
  clear z00
  by_cases zl0 : zl = 0
  case pos =>
    have s2 : (zl == 0) = true := by simpa using zl0
    have ZL0 := Lib.hid zl0
    clear zl0
    go_enter Tryd.func10, Tryd.ntmps10
    go_wp2_with (go_at_call 18; first | (refine (in_yes _ _ _ _ (by omega) (by omega)).mono ?_; rintro e w' ⟨rfl, rfl⟩) | (refine (in_no _ _ _ _ (by omega)).mono ?_; rintro e w' ⟨rfl, rfl⟩))
    go_ret
    exact ⟨_, rfl, ⟨fun h => (by simp at h), fun h => (by rcases h with h | h; (exact absurd h.1 NE.out); (have g1 := h.2.2.2.1; have g0 := HL.out; exact absurd (by rw [g0]; exact ZL.out.trans ZL0.out) g1))⟩, al1 _ _⟩
  have s2 : (zl == 0) = false := by simpa using zl0
  have ZL0 := Lib.hid zl0
  clear zl0
  have FIN := Lib.hid (fun (hw : Within zs n) => (show Lau.LOk r zs from .inr ⟨NE.out, by rw [HL.out]; exact n1, by rw [Z0.out]; exact Z00.out, by rw [HL.out, ZL.out]; exact ZL0.out, r0, by rw [HL.out]; omega, fun i hi => hw i (by rw [← HL.out]; exact hi)⟩))
  have BAK := Lib.hid (fun (h : Lau.LOk r zs) => (show Within zs n from fun i hi => h.ent i (by rw [HL.out]; exact hi)))
  go_enter Tryd.func10, Tryd.ntmps10
  go_wp2_with (go_at_call 18; first | (refine (in_yes _ _ _ _ (by omega) (by omega)).mono ?_; rintro e w' ⟨rfl, rfl⟩) | (refine (in_no _ _ _ _ (by omega)).mono ?_; rintro e w' ⟨rfl, rfl⟩))
  go_loop [4] (fun i => ∃ k : Nat, k ≤ n ∧ i = .int .i64 k ∧ Within zs k) (fun i => n - (intOf i).toNat)
  case atStart => exact ⟨0, Nat.zero_le _, rfl, fun i hi => by omega⟩
  case round =>
    obtain ⟨k, hk, rfl, hin⟩ := hrel
    have HI := Lib.hid hin
    clear hin
    by_cases hlt : k < n
    · obtain ⟨b', off', z, e1, _, hz, hc⟩ := H.out.at_z hlt
      cases e1
      have HZ := Lib.hid hz
      clear hz
      by_cases bz0 : z < -1000000000000
      · go_wp2_with (go_at_call 18; first | (refine (in_yes _ _ _ _ (by omega) (by omega)).mono ?_; rintro e w' ⟨rfl, rfl⟩) | (refine (in_no _ _ _ _ (by omega)).mono ?_; rintro e w' ⟨rfl, rfl⟩))
        go_ret
        exact ⟨_, rfl, ⟨fun h => (by simp at h), fun h => (by have := BAK.out h k hlt; rw [HZ.out] at this; omega)⟩, al1 _ _⟩
      by_cases b11 : 1000000000000 < z
      · go_wp2_with (go_at_call 18; first | (refine (in_yes _ _ _ _ (by omega) (by omega)).mono ?_; rintro e w' ⟨rfl, rfl⟩) | (refine (in_no _ _ _ _ (by omega)).mono ?_; rintro e w' ⟨rfl, rfl⟩))
        go_ret
        exact ⟨_, rfl, ⟨fun h => (by simp at h), fun h => (by have := BAK.out h k hlt; rw [HZ.out] at this; omega)⟩, al1 _ _⟩
      go_wp2_with (go_at_call 18; first | (refine (in_yes _ _ _ _ (by omega) (by omega)).mono ?_; rintro e w' ⟨rfl, rfl⟩) | (refine (in_no _ _ _ _ (by omega)).mono ?_; rintro e w' ⟨rfl, rfl⟩))
      go_round
      case rel => exact ⟨k + 1, by omega, by go_num, within_succ HI.out (by rw [HZ.out]; omega)⟩
      case measure => simp [intOf]; omega
    · obtain rfl : k = n := by omega
      go_wp2_with (go_at_call 18; first | (refine (in_yes _ _ _ _ (by omega) (by omega)).mono ?_; rintro e w' ⟨rfl, rfl⟩) | (refine (in_no _ _ _ _ (by omega)).mono ?_; rintro e w' ⟨rfl, rfl⟩))
      go_ret
      exact ⟨_, rfl, ⟨fun _ => FIN.out HI.out, fun _ => rfl⟩, al1 _ _⟩

section
variable (r : Int) (A : Option Addr) (n c : Nat) (zs : List Int) (w : World) (h : Ints w w.heap.size A n zs) (hn : n ≤ 1048576)
include h hn
theorem isLi_yes (hP : Lau.LOk r zs) : Calls Tryd.prog 13 #[.agg #[.int .i64 r, .slice A n c]] w fun e w' => e = .returned (.bool true) ∧ Below w.heap.size w w' := (isL_impl r A n c zs w h hn).mono fun _ _ h => h.yes hP
theorem isLi_no (hP : ¬ Lau.LOk r zs) : Calls Tryd.prog 13 #[.agg #[.int .i64 r, .slice A n c]] w fun e w' => e = .returned (.bool false) ∧ Below w.heap.size w w' := (isL_impl r A n c zs w h hn).mono fun _ _ h => h.no hP
theorem isLs_yes (hP : Lau.LOk r zs) : Calls Tryd.prog 10 #[.agg #[.int .i64 r, .slice A n c]] w fun e w' => e = .returned (.bool true) ∧ Below w.heap.size w w' := (isL_spec r A n c zs w h hn).mono fun _ _ h => h.yes hP
theorem isLs_no (hP : ¬ Lau.LOk r zs) : Calls Tryd.prog 10 #[.agg #[.int .i64 r, .slice A n c]] w fun e w' => e = .returned (.bool false) ∧ Below w.heap.size w w' := (isL_spec r A n c zs w h hn).mono fun _ _ h => h.no hP
end

end Go.Proofs.YtopbfjhgpgjnnaaDoor
