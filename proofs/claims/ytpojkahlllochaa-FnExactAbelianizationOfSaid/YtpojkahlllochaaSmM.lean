/- Contracts of the functions that look for entries beside the diagonal and for an entry that is not divisible, the program's. No condition but those that each theorem names. -/
import Derived.Test.YtpojkahlllochaaSmL
namespace Go.Proofs.Ytpojkahlllochaa
open Go.RowKit

/-- Row k and column k hold zeros beside the diagonal. -/
def Alone (R C k : Nat) (d : List Int) : Prop := (∀ i, i < R → i ≠ k → Sm.ent C d i k = 0) ∧ ∀ j, j < C → j ≠ k → Sm.ent C d k j = 0
theorem alone_iff {R C k : Nat} {d : List Int} (h : Sm.CK R C k d) (hk : k < R) (hkC : k < C) : Alone R C k d ↔ Sm.Clear R C k d := by
  constructor
  · exact fun g => ⟨fun i h1 h2 => g.1 i h2 (by omega), fun j h1 h2 => g.2 j h2 (by omega)⟩
  · refine fun g => ⟨fun i h1 h2 => ?_, fun j h1 h2 => ?_⟩
    · by_cases e : i < k
      · exact h i k h1 hkC (.inl e) h2
      · exact g.1 i (by omega) h1
    · by_cases e : j < k
      · exact h k j hk h1 (.inr e) (Ne.symm h2)
      · exact g.2 j (by omega) h1

set_option maxHeartbeats 4000000 in
theorem alone_impl (R C k : Nat) (A : Option Addr) (n c : Nat) (d : List Int) (w : World) (h : Ints w w.heap.size A n d) (hn : n = R * C) (hR : R ≤ 48) (hC : C ≤ 48) (hk : k < R) (hkC : k < C) :
    Calls Try.prog 130 #[.agg #[.int .i64 R, .int .i64 C, .slice A n c], .int .i64 k] w (SaysB (Alone R C k d) w.heap.size w) := by
  have p1 := rc_le hR hC
  have HN := Lib.hid hn
  have H := Lib.hid h
  have K0 := Lib.hid (Box3.new w 77 (.int .i64 R) (.int .i64 C) (.slice A n c))
  have HB0 := Lib.hid (al1 w (Obj.cells #[.int .i64 R, .int .i64 C, .slice A n c] 77))
  have AT := Lib.hid (fun (i j : Nat) (hi : i < R) (hj : j < C) (W : World) (hW : Below w.heap.size w W) => at_impl R C A n c d W (H.out.into hW) (by have := HN.out; omega) i j _ (by rw [castM]; omega) (by rw [castM]; have := Nat.mul_le_mul_right C (show i ≤ R by omega); omega) (castI i C j) (by rw [HN.out]; exact ij_lt hi hj))
  clear h hn
  go_enter Try.func130, Try.ntmps130
  go_wp2
  obtain ⟨W0, hW0⟩ : ∃ W0, W0 = w.alloc (Obj.cells #[.int .i64 R, .int .i64 C, .slice A n c] 77) := ⟨_, rfl⟩
  have s0 : w.heap.size < W0.heap.size := by rw [hW0]; simp
  rw [← hW0] at K0 HB0
  rw [← hW0]
  clear hW0
  go_loopw [9, 5] (fun x _ wr => ∃ i : Nat, i ≤ R ∧ x = .int .i64 i ∧ (∀ a, a < i → a ≠ k → Sm.ent C d a k = 0) ∧ Below W0.heap.size W0 wr) (fun x _ _ => R - (intOf x).toNat)
  case atStart => exact ⟨0, Nat.zero_le _, rfl, fun a h => by omega, Below.refl _ _⟩
  case round =>
    obtain ⟨i, hi, rfl, hz, hbel⟩ := hrel
    have HZ := Lib.hid hz
    have HL := Lib.hid hbel
    have sz : W0.heap.size ≤ wr.heap.size := hbel.size
    clear hz hbel
    obtain ⟨k0, k1, k2⟩ := K0.out.below HL.out s0
    by_cases hlt : i < R
    · by_cases hik : i = k
      · have t1 : ((i : Int) != (k : Int)) = false := by simp; omega
        have HIK := Lib.hid hik
        clear hik
        go_wp2
        go_roundw
        case rel => exact ⟨i + 1, by omega, by go_num, fun a ha hn => (if e : a = i then absurd (e.trans HIK.out) hn else HZ.out a (by omega) hn), HL.out⟩
        case measure => simp [intOf]; omega
      · have t1 : ((i : Int) != (k : Int)) = true := by simp; omega
        have HIK := Lib.hid hik
        clear hik
        obtain ⟨z, he⟩ : ∃ z, d.getD (i * C + k) 0 = z := ⟨_, rfl⟩
        have AZ := Lib.hid (AT.out i k hlt hkC wr (HB0.out.trans (HL.out.mono (by omega))))
        rw [he] at AZ
        have HE := Lib.hid he
        clear he
        by_cases hz0 : z = 0
        · have t2 : (z != 0) = false := by simpa using hz0
          have HZ0 := Lib.hid hz0
          clear hz0
          go_wp2_with fail
          refine AZ.out.mono ?_
          rintro e6 w6 ⟨rfl, hb6⟩
          have HB6 := Lib.hid hb6
          clear hb6 k0 k1 k2
          go_wp2
          go_roundw
          case rel => exact ⟨i + 1, by omega, by go_num, fun a ha hn => (if e : a = i then (by rw [e]; exact HE.out.trans HZ0.out) else HZ.out a (by omega) hn), HL.out.trans (HB6.out.mono sz)⟩
          case measure => simp [intOf]; omega
        · have t2 : (z != 0) = true := by simpa using hz0
          have HZ0 := Lib.hid hz0
          clear hz0
          go_wp2_with fail
          refine AZ.out.mono ?_
          rintro e6 w6 ⟨rfl, hb6⟩
          have HB6 := Lib.hid hb6
          clear hb6 k0 k1 k2
          go_wp2
          go_ret
          exact ⟨_, rfl, ⟨fun h => (by simp at h), fun h => absurd (HE.out.symm.trans (h.1 i hlt HIK.out)) HZ0.out⟩, HB0.out.trans ((HL.out.trans (HB6.out.mono sz)).mono (by omega))⟩
    · obtain rfl : i = R := by omega
      go_wp2
      clear k0 k1 k2
      obtain ⟨wo, rfl⟩ : ∃ wo : World, wo = wr := ⟨_, rfl⟩
      go_loopw [25, 6] (fun x _ wr => ∃ j : Nat, j ≤ C ∧ x = .int .i64 j ∧ (∀ a, a < j → a ≠ k → Sm.ent C d k a = 0) ∧ Below W0.heap.size W0 wr) (fun x _ _ => C - (intOf x).toNat)
      case atStart => exact ⟨0, Nat.zero_le _, rfl, fun a h => by omega, HL.out⟩
      case round =>
        obtain ⟨j, hj, rfl, hz, hbel⟩ := hrel
        have HY := Lib.hid hz
        have HV := Lib.hid hbel
        have sv : W0.heap.size ≤ wr.heap.size := hbel.size
        clear hz hbel
        obtain ⟨k0, k1, k2⟩ := K0.out.below HV.out s0
        by_cases hjl : j < C
        · by_cases hjk : j = k
          · have t1 : ((j : Int) != (k : Int)) = false := by simp; omega
            have HJK := Lib.hid hjk
            clear hjk
            go_wp2
            go_roundw
            case rel => exact ⟨j + 1, by omega, by go_num, fun a ha hn => (if e : a = j then absurd (e.trans HJK.out) hn else HY.out a (by omega) hn), HV.out⟩
            case measure => simp [intOf]; omega
          · have t1 : ((j : Int) != (k : Int)) = true := by simp; omega
            have HJK := Lib.hid hjk
            clear hjk
            obtain ⟨z, he⟩ : ∃ z, d.getD (k * C + j) 0 = z := ⟨_, rfl⟩
            have AZ := Lib.hid (AT.out k j hk hjl wr (HB0.out.trans (HV.out.mono (by omega))))
            rw [he] at AZ
            have HE := Lib.hid he
            clear he
            by_cases hz0 : z = 0
            · have t2 : (z != 0) = false := by simpa using hz0
              have HZ0 := Lib.hid hz0
              clear hz0
              go_wp2_with fail
              refine AZ.out.mono ?_
              rintro e6 w6 ⟨rfl, hb6⟩
              have HB6 := Lib.hid hb6
              clear hb6 k0 k1 k2
              go_wp2
              go_roundw
              case rel => exact ⟨j + 1, by omega, by go_num, fun a ha hn => (if e : a = j then (by rw [e]; exact HE.out.trans HZ0.out) else HY.out a (by omega) hn), HV.out.trans (HB6.out.mono sv)⟩
              case measure => simp [intOf]; omega
            · have t2 : (z != 0) = true := by simpa using hz0
              have HZ0 := Lib.hid hz0
              clear hz0
              go_wp2_with fail
              refine AZ.out.mono ?_
              rintro e6 w6 ⟨rfl, hb6⟩
              have HB6 := Lib.hid hb6
              clear hb6 k0 k1 k2
              go_wp2
              go_ret
              exact ⟨_, rfl, ⟨fun h => (by simp at h), fun h => absurd (HE.out.symm.trans (h.2 j hjl HJK.out)) HZ0.out⟩, HB0.out.trans ((HV.out.trans (HB6.out.mono sv)).mono (by omega))⟩
        · obtain rfl : j = C := by omega
          go_wp2
          go_ret
          exact ⟨_, rfl, ⟨fun _ => ⟨fun a ha hn => HZ.out a ha hn, fun a ha hn => HY.out a ha hn⟩, fun _ => rfl⟩, HB0.out.trans (HV.out.mono (by omega))⟩

/-- What the search for a row that is not divisible answers. -/
def OddSays (R C k : Nat) (d : List Int) (w : World) (e : Ending) (w' : World) : Prop :=
  ((∃ i : Nat, Sm.FirstOdd R C k d i ∧ e = .returned (.tuple #[.int .i64 i, .bool true])) ∨ ((∀ i, ¬ Sm.FirstOdd R C k d i) ∧ e = .returned (.tuple #[.int .i64 0, .bool false]))) ∧ Below w.heap.size w w'

set_option maxHeartbeats 4000000 in
theorem odd_impl (R C k : Nat) (A : Option Addr) (n c : Nat) (d : List Int) (w : World) (h : Ints w w.heap.size A n d) (hn : n = R * C) (hR : R ≤ 48) (hC : C ≤ 48) (hk : k < R) (hkC : k < C) (hw : Sm.Win d) (hp : 0 < Sm.ent C d k k) :
    Calls Try.prog 131 #[.agg #[.int .i64 R, .int .i64 C, .slice A n c], .int .i64 k] w (OddSays R C k d w) := by
  have p1 := rc_le hR hC
  have HN := Lib.hid hn
  have H := Lib.hid h
  have HW := Lib.hid hw
  obtain ⟨pv, hpv⟩ : ∃ pv, d.getD (k * C + k) 0 = pv := ⟨_, rfl⟩
  have hp0 : 0 < pv := by rw [← hpv]; exact hp
  have hp1 : pv ≤ 1000000000000 := by rw [← hpv]; exact (hw _).2
  have K0 := Lib.hid (Box3.new w 77 (.int .i64 R) (.int .i64 C) (.slice A n c))
  have HB0 := Lib.hid (al1 w (Obj.cells #[.int .i64 R, .int .i64 C, .slice A n c] 77))
  have AT := Lib.hid (fun (i j : Nat) (hi : i < R) (hj : j < C) (W : World) (hW : Below w.heap.size w W) => at_impl R C A n c d W (H.out.into hW) (by have := HN.out; omega) i j _ (by rw [castM]; omega) (by rw [castM]; have := Nat.mul_le_mul_right C (show i ≤ R by omega); omega) (castI i C j) (by rw [HN.out]; exact ij_lt hi hj))
  have AP := Lib.hid (AT.out k k hk hkC)
  rw [hpv] at AP
  have HPV := Lib.hid hpv
  have np : ¬ pv = 0 := by omega
  have tp : (pv == 0) = false := by simpa using np
  clear h hn hw hp hpv
  go_enter Try.func131, Try.ntmps131
  go_wp2
  obtain ⟨W0, hW0⟩ : ∃ W0, W0 = w.alloc (Obj.cells #[.int .i64 R, .int .i64 C, .slice A n c] 77) := ⟨_, rfl⟩
  have s0 : w.heap.size < W0.heap.size := by rw [hW0]; simp
  rw [← hW0] at K0 HB0
  rw [← hW0]
  clear hW0
  go_loopw [6] (fun x wr => ∃ i : Nat, k < i ∧ i ≤ R ∧ x = .int .i64 i ∧ (∀ a, k < a → a < i → ¬ Sm.Odd C k d a) ∧ Below W0.heap.size W0 wr) (fun x _ => R - (intOf x).toNat)
  case atStart => exact ⟨k + 1, by omega, by omega, by go_num, fun a h1 h2 => by omega, Below.refl _ _⟩
  case round =>
    obtain ⟨i, hki, hi, rfl, hz, hbel⟩ := hrel
    have HZ := Lib.hid hz
    have HL := Lib.hid hbel
    have sz : W0.heap.size ≤ wr.heap.size := hbel.size
    clear hz hbel
    obtain ⟨k0, k1, k2⟩ := K0.out.below HL.out s0
    obtain ⟨wo, rfl⟩ : ∃ wo : World, wo = wr := ⟨_, rfl⟩
    by_cases hlt : i < R
    · go_wp2
      clear k0 k1 k2
      go_loopw [7] (fun y wr => ∃ j : Nat, k < j ∧ j ≤ C ∧ y = .int .i64 j ∧ (∀ a, k < a → a < j → (Sm.ent C d i a).tmod (Sm.ent C d k k) = 0) ∧ Below W0.heap.size W0 wr) (fun y _ => C - (intOf y).toNat)
      case atStart => exact ⟨k + 1, by omega, by omega, by go_num, fun a h1 h2 => by omega, HL.out⟩
      case round =>
        obtain ⟨j, hkj, hj, rfl, hz, hbel⟩ := hrel
        have HY := Lib.hid hz
        have HV := Lib.hid hbel
        have sv : W0.heap.size ≤ wr.heap.size := hbel.size
        clear hz hbel
        have X1 := Lib.hid (K0.out.below HV.out s0)
        obtain ⟨k0, k1, k2⟩ := X1.out
        by_cases hjl : j < C
        · obtain ⟨z, he⟩ : ∃ z, d.getD (i * C + j) 0 = z := ⟨_, rfl⟩
          have AZ := Lib.hid (AT.out i j hlt hjl)
          have hb := HW.out (i * C + j)
          rw [he] at AZ hb
          obtain ⟨hb0, hb1⟩ := hb
          have HE := Lib.hid he
          have hm1 := Int.tmod_lt_of_pos z hp0
          have hm2 : -pv < z.tmod pv := by
            have := Int.tmod_lt_of_pos (-z) hp0
            rw [Int.neg_tmod] at this
            omega
          have w3 : wrap64 (z.tmod pv) = z.tmod pv := IntWalk.wrap64_in _ ⟨by omega, by omega⟩
          have w4 : IntKind.i64.wrap (z.tmod pv) = z.tmod pv := IntWalk.i64_in _ (by omega)
          obtain ⟨m, hm⟩ : ∃ m, z.tmod pv = m := ⟨_, rfl⟩
          have HM := Lib.hid hm
          have wl := HB0.out.trans (HV.out.mono (by omega))
          have WL := Lib.hid wl
          clear he wl hm hm1 hm2
          by_cases hz0 : m = 0
          · have t2 : (z.tmod pv != 0) = false := by rw [HM.out]; simpa using hz0
            have HZ0 := Lib.hid hz0
            clear hz0
            go_wp2_with fail
            go_region_held3 (fun W => W.cell? ⟨w.heap.size, 0, none⟩ = some (.int .i64 R) ∧ W.cell? ⟨w.heap.size, 1, none⟩ = some (.int .i64 C) ∧ W.cell? ⟨w.heap.size, 2, none⟩ = some (.slice A n c)) (go_keep)
              (first
                | (go_at_call 97; (with_reducible refine (AZ.out _ (by exact WL.out.drew)).mono ?_); rintro e w6 ⟨rfl, hb'⟩; have B6 := Lib.hid (undrew hb'); have z6 := B6.out.size; obtain ⟨e0, e1, e2⟩ := X1.out.below B6.out (by omega); clear hb')
                | (go_at_call 97; (with_reducible refine (AP.out _ (by exact WL.out.trans (B6.out.mono (by omega)))).mono ?_); rintro e w7 ⟨rfl, hb'⟩; have B7 := Lib.hid (B6.out.trans (hb'.mono z6)); have z7 := B7.out.size; obtain ⟨f0, f1, f2⟩ := X1.out.below B7.out (by omega); clear hb'))
            clear k0 k1 k2 e0 e1 e2 f0 f1 f2
            go_wp2
            go_roundw
            case rel => exact ⟨j + 1, by omega, by omega, by go_num, fun a h1 h2 => (if e : a = j then (by rw [e]; show (d.getD (i * C + j) 0).tmod (d.getD (k * C + k) 0) = 0; rw [HE.out, HPV.out, HM.out]; exact HZ0.out) else HY.out a h1 (by omega)), HV.out.trans (B7.out.mono sv)⟩
            case measure => simp [intOf]; omega
          · have t2 : (z.tmod pv != 0) = true := by rw [HM.out]; simpa using hz0
            have HZ0 := Lib.hid hz0
            clear hz0
            go_wp2_with fail
            go_region_held3 (fun W => W.cell? ⟨w.heap.size, 0, none⟩ = some (.int .i64 R) ∧ W.cell? ⟨w.heap.size, 1, none⟩ = some (.int .i64 C) ∧ W.cell? ⟨w.heap.size, 2, none⟩ = some (.slice A n c)) (go_keep)
              (first
                | (go_at_call 97; (with_reducible refine (AZ.out _ (by exact WL.out.drew)).mono ?_); rintro e w6 ⟨rfl, hb'⟩; have B6 := Lib.hid (undrew hb'); have z6 := B6.out.size; obtain ⟨e0, e1, e2⟩ := X1.out.below B6.out (by omega); clear hb')
                | (go_at_call 97; (with_reducible refine (AP.out _ (by exact WL.out.trans (B6.out.mono (by omega)))).mono ?_); rintro e w7 ⟨rfl, hb'⟩; have B7 := Lib.hid (B6.out.trans (hb'.mono z6)); have z7 := B7.out.size; obtain ⟨f0, f1, f2⟩ := X1.out.below B7.out (by omega); clear hb'))
            clear k0 k1 k2 e0 e1 e2 f0 f1 f2
            go_wp2
            go_ret2
            refine ⟨.inl ⟨i, ⟨hki, hlt, ⟨j, hkj, hjl, ?_⟩, HZ.out⟩, rfl⟩, HB0.out.trans ((HV.out.trans (B7.out.mono sv)).mono (by omega))⟩
            show (d.getD (i * C + j) 0).tmod (d.getD (k * C + k) 0) ≠ 0
            rw [HE.out, HPV.out, HM.out]
            exact HZ0.out
        · obtain rfl : j = C := by omega
          go_wp2
          go_roundw
          case rel => exact ⟨i + 1, by omega, by omega, by go_num, fun a h1 h2 => (if e : a = i then (by rw [e]; rintro ⟨b, b1, b2, b3⟩; exact b3 (HY.out b b1 b2)) else HZ.out a h1 (by omega)), HV.out⟩
          case measure => simp [intOf]; omega
    · obtain rfl : i = R := by omega
      go_wp2
      go_ret2
      exact ⟨.inr ⟨fun a h => HZ.out a h.1 h.2.1 h.2.2.1, rfl⟩, HB0.out.trans (HL.out.mono (by omega))⟩

end Go.Proofs.Ytpojkahlllochaa
