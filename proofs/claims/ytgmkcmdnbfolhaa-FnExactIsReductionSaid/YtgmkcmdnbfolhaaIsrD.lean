/- Contracts of the specification's functions below IsReduction: the form of a diagonal, an inverse. No condition but those that each theorem names. -/
import Derived.Test.YtgmkcmdnbfolhaaIsrB
import Derived.Test.YtgmkcmdnbfolhaaHomA
import Derived.Deep.RegionHeld3
namespace Go.Proofs.Ytgmkcmdnbfolhaa
open Go.RowKit

/-- What is asked of an entry of the diagonal and the one before it. -/
def NextAt (C : Nat) (d : List Int) (a : Nat) : Prop := 0 < a → d.getD (a * C + a) 0 ≠ 0 → d.getD ((a - 1) * C + (a - 1)) 0 ≠ 0 ∧ (d.getD (a * C + a) 0).tmod (d.getD ((a - 1) * C + (a - 1)) 0) = 0
def FineAt (C : Nat) (d : List Int) (a b : Nat) : Prop := OkAt C d a b ∧ (a = b → NextAt C d a)
theorem diag_at (C : Nat) (d : List Int) : ∀ k i, i < k → (diag C d k).getD i 0 = d.getD (i * C + i) 0
  | 0, i, h => by omega
  | k + 1, i, h => by
    rw [diag, List.getD_eq_getElem?_getD]
    by_cases e : i < k
    · rw [List.getElem?_append_left (by rw [diag_len]; exact e), ← List.getD_eq_getElem?_getD]
      exact diag_at C d k i e
    · obtain rfl : i = k := by omega
      rw [List.getElem?_append_right (by rw [diag_len]; omega), diag_len]
      simp
theorem fine_iff (R C : Nat) (d : List Int) : (∀ a b, a < R → b < C → FineAt C d a b) ↔ SDiag R C d := by
  constructor
  · intro h
    refine ⟨fun a b ha hb => (h a b ha hb).1, fun i h0 hi => ?_⟩
    rw [diag_at _ _ _ _ hi, diag_at _ _ _ _ (by omega)]
    have := (h i i (by omega) (by omega)).2 rfl h0
    refine ⟨fun hz => ?_, fun _ => ?_⟩
    · by_cases e : d.getD (i * C + i) 0 = 0
      · exact e
      · exact absurd hz (this e).1
    · by_cases e : d.getD (i * C + i) 0 = 0
      · rw [e]; exact Int.zero_tmod _
      · exact (this e).2
  · intro h a b ha hb
    refine ⟨h.1 a b ha hb, fun hab h0 hne => ?_⟩
    subst hab
    have h2 := h.2 a h0 (by omega)
    rw [diag_at _ _ _ _ (by omega), diag_at _ _ _ _ (by omega)] at h2
    have h3 : d.getD ((a - 1) * C + (a - 1)) 0 ≠ 0 := fun e => hne (h2.1 e)
    exact ⟨h3, h2.2 h3⟩

set_option maxRecDepth 100000 in
set_option maxHeartbeats 8000000 in
theorem ldiag_spec (R C : Nat) (A : Option Addr) (n c : Nat) (d : List Int) (w : World) (h : Ints w w.heap.size A n d) (hn : n = R * C) (hR : R ≤ 48) (hC : C ≤ 48) (P : MOk R C d) :
    Calls Try.prog 41 #[.agg #[.int .i64 R, .int .i64 C, .slice A n c]] w (SaysB (SDiag R C d) w.heap.size w) := by
  have p1 := rc_le hR hC
  have HN := Lib.hid hn
  have HP := Lib.hid P
  have K0 := Lib.hid (Box3.new w 40 (.int .i64 R) (.int .i64 C) (.slice A n c))
  have D0 := Lib.hid (al1 w (Obj.cells #[.int .i64 R, .int .i64 C, .slice A n c] 40))
  have H := Lib.hid (h.into D0.out)
  have FI := Lib.hid (fine_iff R C d)
  clear h hn P
  go_enter Try.func41, Try.ntmps41
  go_wp2
  obtain ⟨W0, hW0⟩ : ∃ W0, W0 = w.alloc (Obj.cells #[.int .i64 R, .int .i64 C, .slice A n c] 40) := ⟨_, rfl⟩
  have s0 : w.heap.size < W0.heap.size := by rw [hW0]; simp
  rw [← hW0] at H K0 D0
  rw [← hW0]
  clear hW0
  go_loopw [3] (fun x wr => ∃ k : Nat, k ≤ R ∧ x = .int .i64 k ∧ (∀ a b, a < k → b < C → FineAt C d a b) ∧ Below W0.heap.size W0 wr) (fun x _ => R - (intOf x).toNat)
  case atStart => exact ⟨0, Nat.zero_le _, rfl, fun a b ha => by omega, Below.refl _ _⟩
  case round =>
    obtain ⟨k, hk, rfl, hin, hbel⟩ := hrel
    have HI := Lib.hid hin
    have HL := Lib.hid hbel
    have zr : W0.heap.size ≤ wr.heap.size := hbel.size
    have K1 := Lib.hid (K0.out.below hbel s0)
    have H1 := Lib.hid (H.out.into hbel)
    have D1 := Lib.hid (D0.out.trans (hbel.mono (by omega)))
    clear hin hbel
    obtain ⟨wo, rfl⟩ : ∃ wo : World, wo = wr := ⟨_, rfl⟩
    obtain ⟨k0, k1, k2⟩ := K1.out
    by_cases hlt : k < R
    · have i1 : (k : Int) < (R : Int) := by omega
      go_wp2
      clear k0 k1 k2
      go_loopw [4] (fun x wr => ∃ l : Nat, l ≤ C ∧ x = .int .i64 l ∧ (∀ b, b < l → FineAt C d k b) ∧ Below wo.heap.size wo wr) (fun x _ => C - (intOf x).toNat)
      case atStart => exact ⟨0, Nat.zero_le _, rfl, fun b hb => by omega, Below.refl _ _⟩
      case round =>
        obtain ⟨l, hl, rfl, hin, hbel⟩ := hrel
        have HJ := Lib.hid hin
        have L5 := Lib.hid hbel
        have z5 : wo.heap.size ≤ wr.heap.size := hbel.size
        have K2 := Lib.hid (K1.out.below hbel (by omega))
        have H2 := Lib.hid (H1.out.into hbel)
        have D2 := Lib.hid (D1.out.trans (hbel.mono (by omega)))
        clear hin hbel
        obtain ⟨k0, k1, k2⟩ := K2.out
        by_cases hl2 : l < C
        · have j1 : (l : Int) < (C : Int) := by omega
          have hs := ij_lt hlt hl2
          have a0 : 0 ≤ (k : Int) * (C : Int) := by rw [castM]; omega
          have a1 : (k : Int) * (C : Int) ≤ 2304 := by rw [castM]; omega
          have AT := Lib.hid (at_spec R C A n c d wr H2.out (by have := HN.out; omega) k l _ a0 a1 (castI k C l) (by rw [HN.out]; exact hs))
          have hbz := HP.out.2.2.2.2.2 (k * C + l) (by have := H2.out.1; have := HN.out; omega)
          obtain ⟨z, hz⟩ : ∃ z, d.getD (k * C + l) 0 = z := ⟨_, rfl⟩
          rw [hz] at AT hbz
          have HZ := Lib.hid hz
          have HBZ := Lib.hid hbz
          clear hz a0 a1 hs hbz
          go_wp2_with fail
          refine AT.out.mono ?_
          rintro e w6 ⟨rfl, hb⟩
          have L6 := Lib.hid (L5.out.trans (hb.mono z5))
          have D6 := Lib.hid (D2.out.trans (hb.mono (by omega)))
          have K6 := Lib.hid (K2.out.below hb (by omega))
          have H6 := Lib.hid (H2.out.into hb)
          have z6 : wo.heap.size ≤ w6.heap.size := by have := hb.size; omega
          clear hb k0 k1 k2
          by_cases h0 : z < 0
          · have t4 : (z != 0) = true := by simp; omega
            by_cases hkl : k = l
            · have t1 : ((k : Int) != (l : Int)) = false := by simp; omega
              have HKL := Lib.hid hkl
              clear hkl
              go_wp2
              go_ret
              exact SaysB.f (fun h => by have := ((FI.out.2 h) k l hlt hl2).1.1; rw [HZ.out] at this; omega) D6.out
            · have t1 : ((k : Int) != (l : Int)) = true := by simp; omega
              have HKL := Lib.hid hkl
              clear hkl
              go_wp2
              go_ret
              exact SaysB.f (fun h => by have := ((FI.out.2 h) k l hlt hl2).1.1; rw [HZ.out] at this; omega) D6.out
          · by_cases hkl : k = l
            · have t1 : ((k : Int) != (l : Int)) = false := by simp; omega
              have t2 : ((k : Int) == (l : Int)) = true := by simp; omega
              have HKL := Lib.hid hkl
              clear hkl
              by_cases hk0 : 0 < k
              case neg =>
                have t3 : ¬ (0 : Int) < (k : Int) := by omega
                have HF := Lib.hid (show FineAt C d k l from ⟨⟨by rw [HZ.out]; omega, fun h => absurd HKL.out h⟩, fun _ h => absurd h hk0⟩)
                go_wp2
                go_roundw
                case rel => exact ⟨l + 1, by omega, by go_num, fun b hb => (if e : b = l then (by rw [e]; exact HF.out) else HJ.out b (by omega)), L6.out⟩
                case measure => simp [intOf]; omega
              have t3 : (0 : Int) < (k : Int) := by omega
              by_cases hz0 : z = 0
              · have t4 : (z != 0) = false := by simpa using hz0
                have HF := Lib.hid (show FineAt C d k l from ⟨⟨by rw [HZ.out]; omega, fun h => absurd HKL.out h⟩, fun _ _ hne => absurd (show d.getD (k * C + k) 0 = 0 by have := HZ.out; rw [← HKL.out] at this; rw [this]; exact hz0) hne⟩)
                have HZ0 := Lib.hid hz0
                clear hz0
                go_wp2
                go_roundw
                case rel => exact ⟨l + 1, by omega, by go_num, fun b hb => (if e : b = l then (by rw [e]; exact HF.out) else HJ.out b (by omega)), L6.out⟩
                case measure => simp [intOf]; omega
              · have t4 : (z != 0) = true := by simpa using hz0
                have HZ0 := Lib.hid hz0
                clear hz0
                have hs := ij_lt (R := R) (show k - 1 < R by omega) (show k - 1 < C by have := HKL.out; omega)
                have hle : (k - 1) * C ≤ 2304 := by omega
                have ws : IntKind.i64.wrap ((k : Int) - 1) = (k : Int) - 1 := IntWalk.i64_in _ (by omega)
                have ek : (k : Int) - 1 = ((k - 1 : Nat) : Int) := by omega
                have a0 : 0 ≤ ((k : Int) - 1) * (C : Int) := by rw [ek, castM]; omega
                have a1 : ((k : Int) - 1) * (C : Int) ≤ 2304 := by rw [ek, castM]; omega
                have AT2 := Lib.hid (at_spec R C A n c d w6 H6.out (by have := HN.out; omega) ((k : Int) - 1) ((k : Int) - 1) ((k - 1) * C + (k - 1)) a0 a1 (by rw [ek, castI]) (by rw [HN.out]; exact hs))
                obtain ⟨y, hy⟩ : ∃ y, d.getD ((k - 1) * C + (k - 1)) 0 = y := ⟨_, rfl⟩
                rw [hy] at AT2
                have HY := Lib.hid hy
                have HZk := Lib.hid (show d.getD (k * C + k) 0 = z by have := HZ.out; rw [← HKL.out] at this; exact this)
                clear hy a0 a1 hs hle ek
                obtain ⟨k0, k1, k2⟩ := K6.out
                go_wp2_with fail
                refine AT2.out.mono ?_
                rintro e w7 ⟨rfl, hb⟩
                have L7 := Lib.hid (L6.out.trans (hb.mono z6))
                have D7 := Lib.hid (D6.out.trans (hb.mono D6.out.size))
                clear hb k0 k1 k2 ws
                by_cases hy0 : y = 0
                · have t5 : (y == 0) = true := by simpa using hy0
                  have HY0 := Lib.hid hy0
                  clear hy0
                  go_wp2
                  go_ret
                  exact SaysB.f (fun h => ((FI.out.2 h) k l hlt hl2).2 HKL.out hk0 (by rw [HZk.out]; exact HZ0.out) |>.1 (by rw [HY.out]; exact HY0.out)) D7.out
                · have t5 : (y == 0) = false := by simpa using hy0
                  obtain ⟨w3, w4⟩ := tmod_facts HBZ.out hy0
                  have HY0 := Lib.hid hy0
                  by_cases hr0 : z.tmod y = 0
                  · have t6 : (z.tmod y != 0) = false := by simpa using hr0
                    have t7 : (z % y != 0) = false := by rw [← Int.tmod_eq_emod_of_nonneg (show 0 ≤ z by omega)]; exact t6
                    have HF := Lib.hid (show FineAt C d k l from ⟨⟨by rw [HZ.out]; omega, fun h => absurd HKL.out h⟩, fun _ _ _ => by rw [HZk.out, HY.out]; exact ⟨hy0, hr0⟩⟩)
                    have HR0 := Lib.hid hr0
                    clear hr0
                    go_wp2
                    go_roundw
                    case rel => exact ⟨l + 1, by omega, by go_num, fun b hb => (if e : b = l then (by rw [e]; exact HF.out) else HJ.out b (by omega)), L7.out⟩
                    case measure => simp [intOf]; omega
                  · have t6 : (z.tmod y != 0) = true := by simpa using hr0
                    have t7 : (z % y != 0) = true := by rw [← Int.tmod_eq_emod_of_nonneg (show 0 ≤ z by omega)]; exact t6
                    have HR0 := Lib.hid hr0
                    clear hr0
                    go_wp2
                    go_ret
                    exact SaysB.f (fun h => HR0.out (by have := (((FI.out.2 h) k l hlt hl2).2 HKL.out hk0 (by rw [HZk.out]; exact HZ0.out)).2; rw [HZk.out, HY.out] at this; exact this)) D7.out
            · have t1 : ((k : Int) != (l : Int)) = true := by simp; omega
              have t2 : ((k : Int) == (l : Int)) = false := by simp; omega
              have HKL := Lib.hid hkl
              clear hkl
              by_cases hz0 : z = 0
              · have t4 : (z != 0) = false := by simpa using hz0
                have HF := Lib.hid (show FineAt C d k l from ⟨⟨by rw [HZ.out]; omega, fun _ => by rw [HZ.out]; exact hz0⟩, fun h => absurd h HKL.out⟩)
                have HZ0 := Lib.hid hz0
                clear hz0
                go_wp2
                go_roundw
                case rel => exact ⟨l + 1, by omega, by go_num, fun b hb => (if e : b = l then (by rw [e]; exact HF.out) else HJ.out b (by omega)), L6.out⟩
                case measure => simp [intOf]; omega
              · have t4 : (z != 0) = true := by simpa using hz0
                have HZ0 := Lib.hid hz0
                clear hz0
                go_wp2
                go_ret
                exact SaysB.f (fun h => HZ0.out (by have := ((FI.out.2 h) k l hlt hl2).1.2 HKL.out; rw [HZ.out] at this; exact this)) D6.out
        · have j1 : ¬ (l : Int) < (C : Int) := by omega
          obtain rfl : C = l := by omega
          go_wp2
          go_roundw
          case rel => exact ⟨k + 1, by omega, by go_num, fun a b ha hb => (if e : a = k then (by rw [e]; exact HJ.out b hb) else HI.out a b (by omega) hb), HL.out.trans (L5.out.mono zr)⟩
          case measure => simp [intOf]; omega
    · have i1 : ¬ (k : Int) < (R : Int) := by omega
      obtain rfl : R = k := by omega
      go_wp2
      go_ret
      exact SaysB.t (FI.out.1 HI.out) D1.out
end Go.Proofs.Ytgmkcmdnbfolhaa
