/- Contracts of the functions that say whether a polynomial is valid, the program's and the specification's. No condition but those that each theorem names. -/
import Derived.Test.YtpkjjcfcpmcdiaaLauA
import Derived.Test.YtpkjjcfcpmcdiaaMatC
namespace Go.Proofs.Ytpkjjcfcpmcdiaa
open Go.RowKit

set_option maxHeartbeats 2000000 in
theorem isL_impl (r : Int) (A : Option Addr) (n c : Nat) (zs : List Int) (w : World) (h : Ints w w.heap.size A n zs) (hn : n ≤ 1048576) :
    Calls Try.prog 15 #[.agg #[.int .i64 r, .slice A n c]] w (SaysB (Lau.LOk r zs) w.heap.size w) := by
  have hl := h.1
  have H := Lib.hid (h.into (al1 w (Obj.cells #[.int .i64 r, .slice A n c] 26)))
  have HL := Lib.hid hl
  clear h hl
  by_cases n0 : n = 0
  case pos =>
    subst n0
    have HN := Lib.hid (List.length_eq_zero_iff.1 HL.out)
    by_cases r0 : r = 0
    · have t1 : (r == 0) = true := by simpa using r0
      have R0 := Lib.hid r0
      clear r0
      go_enter Try.func15, Try.ntmps15
      go_wp2
      go_ret
      exact ⟨_, rfl, ⟨fun _ => .inl ⟨HN.out, R0.out⟩, fun _ => rfl⟩, al1 _ _⟩
    · have t1 : (r == 0) = false := by simpa using r0
      have R0 := Lib.hid r0
      clear r0
      go_enter Try.func15, Try.ntmps15
      go_wp2
      go_ret
      exact ⟨_, rfl, ⟨fun h => (by simp at h), fun h => absurd (h.elim And.right fun h => absurd HN.out h.1) R0.out⟩, al1 _ _⟩
  have NE := Lib.hid (show zs ≠ [] from fun e => by have := HL.out; rw [e] at this; exact n0 this.symm)
  have m0 : ((n : Int) == 0) = false := by simp; omega
  have p0 : 0 < n := by omega
  have p1 : (0 : Int) < (n : Int) := by omega
  clear n0
  by_cases n1 : n ≤ 160
  case neg =>
    have N1 := Lib.hid n1
    have d1 : decide ((160 : Int) < (n : Int)) = true := by simp; omega
    have d2 : (160 : Int) < (n : Int) := by omega
    clear n1
    go_enter Try.func15, Try.ntmps15
    go_wp2
    go_ret
    exact ⟨_, rfl, ⟨fun h => (by simp at h), fun h => (by rcases h with h | h; (exact absurd h.1 NE.out); (have g1 := h.2.1; have g0 := HL.out; have g2 := N1.out; omega))⟩, al1 _ _⟩
  have d1 : decide ((160 : Int) < (n : Int)) = false := by simp; omega
  have d2 : ¬ (160 : Int) < (n : Int) := by omega
  obtain ⟨b, off, z0, rfl, hb, hz0, hc0⟩ := H.out.at_z p0
  have hc0' : (w.alloc (Obj.cells #[.int .i64 r, .slice (some ⟨b, off, none⟩) n c] 26)).cell? ⟨b, off, none⟩ = some (.int .i64 z0) := by simpa using hc0
  obtain ⟨b', off', zl, e1, _, hzl, hcl⟩ := H.out.at_z (show n - 1 < n by omega)
  cases e1
  have hcl' : (w.alloc (Obj.cells #[.int .i64 r, .slice (some ⟨b, off, none⟩) n c] 26)).cell? ⟨b, off + ((n : Int) - 1).toNat, none⟩ = some (.int .i64 zl) := by rw [show ((n : Int) - 1).toNat = n - 1 by omega]; exact hcl
  have i0 : (0 : Int) ≤ (n : Int) - 1 := by omega
  have i1 : (n : Int) - 1 < (n : Int) := by omega
  have j0 : (1 : Int) ≤ (n : Int) := by omega
  have j1 : 1 ≤ n := p0
  have ws : IntKind.i64.wrap ((n : Int) - 1) = (n : Int) - 1 := IntWalk.i64_in _ (by omega)
  have Z0 := Lib.hid hz0
  have ZL := Lib.hid hzl
  clear hz0 hzl hc0
  by_cases r0 : -240 ≤ r
  case neg =>
    have R0 := Lib.hid r0
    have t1 : decide (r < -240) = true := by simp; omega
    have t2 : r < -240 := by omega
    by_cases z00 : z0 = 0
    case pos =>
      have s1 : (z0 == 0) = true := by simpa using z00
      have Z00 := Lib.hid z00
      clear z00
      go_enter Try.func15, Try.ntmps15
      go_wp2
      go_ret
      exact ⟨_, rfl, ⟨fun h => (by simp at h), fun h => (by rcases h with h | h; (exact absurd h.1 NE.out); (have g1 := h.2.2.2.2.1; have g0 := HL.out; have g2 := R0.out; omega))⟩, al1 _ _⟩
    have s1 : (z0 == 0) = false := by simpa using z00
    clear z00
    by_cases zl0 : zl = 0
    case pos =>
      have s2 : (zl == 0) = true := by simpa using zl0
      have ZL0 := Lib.hid zl0
      clear zl0
      go_enter Try.func15, Try.ntmps15
      go_wp2
      go_ret
      exact ⟨_, rfl, ⟨fun h => (by simp at h), fun h => (by rcases h with h | h; (exact absurd h.1 NE.out); (have g1 := h.2.2.2.2.1; have g0 := HL.out; have g2 := R0.out; omega))⟩, al1 _ _⟩
    have s2 : (zl == 0) = false := by simpa using zl0
    clear zl0
    clear r0
    go_enter Try.func15, Try.ntmps15
    go_wp2
    go_ret
    exact ⟨_, rfl, ⟨fun h => (by simp at h), fun h => (by rcases h with h | h; (exact absurd h.1 NE.out); (have g1 := h.2.2.2.2.1; have g0 := HL.out; have g2 := R0.out; omega))⟩, al1 _ _⟩
  have t1 : decide (r < -240) = false := by simp; omega
  have t2 : ¬ r < -240 := by omega
  by_cases r1 : r + n - 1 ≤ 240
  case neg =>
    have R1 := Lib.hid r1
    have t3 : decide (240 - ((n : Int) - 1) < r) = true := by simp; omega
    have t4 : 240 - ((n : Int) - 1) < r := by omega
    by_cases z00 : z0 = 0
    case pos =>
      have s1 : (z0 == 0) = true := by simpa using z00
      clear z00
      go_enter Try.func15, Try.ntmps15
      go_wp2
      go_ret
      exact ⟨_, rfl, ⟨fun h => (by simp at h), fun h => (by rcases h with h | h; (exact absurd h.1 NE.out); (have g1 := h.2.2.2.2.2.1; have g0 := HL.out; have g2 := R1.out; omega))⟩, al1 _ _⟩
    have s1 : (z0 == 0) = false := by simpa using z00
    clear z00
    by_cases zl0 : zl = 0
    case pos =>
      have s2 : (zl == 0) = true := by simpa using zl0
      clear zl0
      go_enter Try.func15, Try.ntmps15
      go_wp2
      go_ret
      exact ⟨_, rfl, ⟨fun h => (by simp at h), fun h => (by rcases h with h | h; (exact absurd h.1 NE.out); (have g1 := h.2.2.2.2.2.1; have g0 := HL.out; have g2 := R1.out; omega))⟩, al1 _ _⟩
    have s2 : (zl == 0) = false := by simpa using zl0
    clear zl0
    go_enter Try.func15, Try.ntmps15
    go_wp2
    go_ret
    exact ⟨_, rfl, ⟨fun h => (by simp at h), fun h => (by rcases h with h | h; (exact absurd h.1 NE.out); (have g1 := h.2.2.2.2.2.1; have g0 := HL.out; have g2 := R1.out; omega))⟩, al1 _ _⟩
  have t3 : decide (240 - ((n : Int) - 1) < r) = false := by simp; omega
  have t4 : ¬ 240 - ((n : Int) - 1) < r := by omega
  have u0 : r ≤ 240 := by omega
  by_cases z00 : z0 = 0
  case pos =>
    have s1 : (z0 == 0) = true := by simpa using z00
    have Z00 := Lib.hid z00
    clear z00
    go_enter Try.func15, Try.ntmps15
    go_wp2
    go_ret
    exact ⟨_, rfl, ⟨fun h => (by simp at h), fun h => (by rcases h with h | h; (exact absurd h.1 NE.out); (have g1 := h.2.2.1; have g0 := HL.out; exact absurd (Z0.out.trans Z00.out) g1))⟩, al1 _ _⟩
  have s1 : (z0 == 0) = false := by simpa using z00
  have Z00 := Lib.hid z00
  clear z00
  by_cases zl0 : zl = 0
  case pos =>
    have s2 : (zl == 0) = true := by simpa using zl0
    have ZL0 := Lib.hid zl0
    clear zl0
    go_enter Try.func15, Try.ntmps15
    go_wp2
    go_ret
    exact ⟨_, rfl, ⟨fun h => (by simp at h), fun h => (by rcases h with h | h; (exact absurd h.1 NE.out); (have g1 := h.2.2.2.1; have g0 := HL.out; exact absurd (by rw [g0]; exact ZL.out.trans ZL0.out) g1))⟩, al1 _ _⟩
  have s2 : (zl == 0) = false := by simpa using zl0
  have ZL0 := Lib.hid zl0
  clear zl0
  have FIN := Lib.hid (fun (hw : Within zs n) => (show Lau.LOk r zs from .inr ⟨NE.out, by rw [HL.out]; exact n1, by rw [Z0.out]; exact Z00.out, by rw [HL.out, ZL.out]; exact ZL0.out, r0, by rw [HL.out]; omega, fun i hi => hw i (by rw [← HL.out]; exact hi)⟩))
  have BAK := Lib.hid (fun (h : Lau.LOk r zs) => (show Within zs n from fun i hi => h.ent i (by rw [HL.out]; exact hi)))
  go_enter Try.func15, Try.ntmps15
  go_wp2_with fail
  refine (areEntries_any _ n c zs _ H.out hn).mono ?_
  rintro e w1 ⟨f, rfl, hf, hb1⟩
  have HF := Lib.hid hf
  have HB := Lib.hid hb1
  clear hf hb1
  go_wp2
  go_ret
  exact ⟨f, rfl, ⟨fun h => FIN.out (HF.out.1 h), fun h => HF.out.2 (BAK.out h)⟩, on1 _ HB.out⟩

section
variable (r : Int) (A : Option Addr) (n c : Nat) (zs : List Int) (w : World) (h : Ints w w.heap.size A n zs) (hn : n ≤ 1048576)
include h hn
theorem isLi_yes (hP : Lau.LOk r zs) : Calls Try.prog 15 #[.agg #[.int .i64 r, .slice A n c]] w fun e w' => e = .returned (.bool true) ∧ Below w.heap.size w w' := (isL_impl r A n c zs w h hn).mono fun _ _ h => h.yes hP
theorem isLi_no (hP : ¬ Lau.LOk r zs) : Calls Try.prog 15 #[.agg #[.int .i64 r, .slice A n c]] w fun e w' => e = .returned (.bool false) ∧ Below w.heap.size w w' := (isL_impl r A n c zs w h hn).mono fun _ _ h => h.no hP
end

end Go.Proofs.Ytpkjjcfcpmcdiaa
