/- Contracts of the functions that look for entries beside the diagonal and for an entry that is not divisible, the specification's. No condition but those that each theorem names. -/
import Derived.Test.YtpojkahlllochaaTsD
namespace Go.Proofs.Ytpojkahlllochaa
open Go.RowKit

set_option maxRecDepth 100000 in
set_option maxHeartbeats 8000000 in
theorem clear_work (L : Lay) (R C gw a0 a3 k : Nat) (s : Sm.St) (w : World) (hR : R ≤ 48) (hC : C ≤ 48) (hk : k < R) (hkC : k < C) (hp : Pos L gw a0 a3) (hs : a3 ≤ w.heap.size) (h : Work L R C gw w s) :
    Calls Try.prog 139 #[.pointer (some ⟨gw, 0, none⟩), .int .i64 k] w (SaysB (Sm.Clear R C k s.d) w.heap.size w) := by
  have pc1 := rc_le hR hC
  have R0 := Lib.hid h.row
  have I0 := Lib.hid (h.five.d.ints.more (show L.gd + 1 ≤ w.heap.size by have := hp.bd; omega))
  have gwl := h.row.lt
  have AT := Lib.hid (fun (x y : Nat) (hx : x < R) (hy : y < C) (W : World) (hW : Below w.heap.size w W) => at_spec R C (some ⟨L.gd, 0, none⟩) (R * C) L.cd s.d W (I0.out.into hW) (by omega) x y _ (by rw [castM]; omega) (by rw [castM]; have := Nat.mul_le_mul_right C (show x ≤ R by omega); omega) (castI x C y) (ij_lt hx hy))
  clear h hp
  obtain ⟨y0, y1, y2, y3, y4, y5, y6, y7, y8, y9, y10, y11, y12, y13, y14, y15⟩ := R0.out.box16
  go_enter Try.func139, Try.ntmps139
  go_wp2
  clear y0 y1 y2 y3 y4 y5 y6 y7 y8 y9 y10 y11 y12 y13 y14 y15
  go_loopw [5] (fun x wr => ∃ i : Nat, k < i ∧ i ≤ R ∧ x = .int .i64 i ∧ (∀ a, k < a → a < i → Sm.ent C s.d a k = 0) ∧ Below w.heap.size w wr) (fun x _ => R - (intOf x).toNat)
  case atStart => exact ⟨k + 1, by omega, by omega, by go_num, fun a h1 h2 => by omega, Below.refl _ _⟩
  case round =>
    obtain ⟨i, hki, hi, rfl, hz, hbel⟩ := hrel
    have HZ := Lib.hid hz
    have HL := Lib.hid hbel
    have sz : w.heap.size ≤ wr.heap.size := hbel.size
    clear hz hbel
    obtain ⟨y0, y1, y2, y3, y4, y5, y6, y7, y8, y9, y10, y11, y12, y13, y14, y15⟩ := (R0.out.below HL.out gwl).box16
    by_cases hlt : i < R
    · obtain ⟨z, he⟩ : ∃ z, s.d.getD (i * C + k) 0 = z := ⟨_, rfl⟩
      have AZ := Lib.hid (AT.out i k hlt hkC wr HL.out)
      rw [he] at AZ
      have HE := Lib.hid he
      clear he
      by_cases hz0 : z = 0
      · have t2 : (z != 0) = false := by simpa using hz0
        have HZ0 := Lib.hid hz0
        clear hz0
        go_wp2_with fail
        refine AZ.out.mono ?_
        rintro e6 w6 ⟨rfl, hb6⟩
        have HB6 := Lib.hid hb6
        clear hb6 y0 y1 y2 y3 y4 y5 y6 y7 y8 y9 y10 y11 y12 y13 y14 y15
        go_wp2
        go_roundw
        case rel => exact ⟨i + 1, by omega, by omega, by go_num, fun a h1 h2 => (if e : a = i then (by rw [e]; exact HE.out.trans HZ0.out) else HZ.out a h1 (by omega)), HL.out.trans (HB6.out.mono sz)⟩
        case measure => simp [intOf]; omega
      · have t2 : (z != 0) = true := by simpa using hz0
        have HZ0 := Lib.hid hz0
        clear hz0
        go_wp2_with fail
        refine AZ.out.mono ?_
        rintro e6 w6 ⟨rfl, hb6⟩
        have HB6 := Lib.hid hb6
        clear hb6 y0 y1 y2 y3 y4 y5 y6 y7 y8 y9 y10 y11 y12 y13 y14 y15
        go_wp2
        go_ret
        exact ⟨_, rfl, ⟨fun h => (by simp at h), fun h => absurd (HE.out.symm.trans (h.1 i hki hlt)) HZ0.out⟩, HL.out.trans (HB6.out.mono sz)⟩
    · obtain rfl : i = R := by omega
      go_wp2
      clear y0 y1 y2 y3 y4 y5 y6 y7 y8 y9 y10 y11 y12 y13 y14 y15
      obtain ⟨wo, rfl⟩ : ∃ wo : World, wo = wr := ⟨_, rfl⟩
      go_loopw [6] (fun x wr => ∃ j : Nat, k < j ∧ j ≤ C ∧ x = .int .i64 j ∧ (∀ a, k < a → a < j → Sm.ent C s.d k a = 0) ∧ Below w.heap.size w wr) (fun x _ => C - (intOf x).toNat)
      case atStart => exact ⟨k + 1, by omega, by omega, by go_num, fun a h1 h2 => by omega, HL.out⟩
      case round =>
        obtain ⟨j, hkj, hj, rfl, hz, hbel⟩ := hrel
        have HY := Lib.hid hz
        have HV := Lib.hid hbel
        have sv : w.heap.size ≤ wr.heap.size := hbel.size
        clear hz hbel
        obtain ⟨y0, y1, y2, y3, y4, y5, y6, y7, y8, y9, y10, y11, y12, y13, y14, y15⟩ := (R0.out.below HV.out gwl).box16
        by_cases hjl : j < C
        · obtain ⟨z, he⟩ : ∃ z, s.d.getD (k * C + j) 0 = z := ⟨_, rfl⟩
          have AZ := Lib.hid (AT.out k j hk hjl wr HV.out)
          rw [he] at AZ
          have HE := Lib.hid he
          clear he
          by_cases hz0 : z = 0
          · have t2 : (z != 0) = false := by simpa using hz0
            have HZ0 := Lib.hid hz0
            clear hz0
            go_wp2_with fail
            refine AZ.out.mono ?_
            rintro e6 w6 ⟨rfl, hb6⟩
            have HB6 := Lib.hid hb6
            clear hb6 y0 y1 y2 y3 y4 y5 y6 y7 y8 y9 y10 y11 y12 y13 y14 y15
            go_wp2
            go_roundw
            case rel => exact ⟨j + 1, by omega, by omega, by go_num, fun a h1 h2 => (if e : a = j then (by rw [e]; exact HE.out.trans HZ0.out) else HY.out a h1 (by omega)), HV.out.trans (HB6.out.mono sv)⟩
            case measure => simp [intOf]; omega
          · have t2 : (z != 0) = true := by simpa using hz0
            have HZ0 := Lib.hid hz0
            clear hz0
            go_wp2_with fail
            refine AZ.out.mono ?_
            rintro e6 w6 ⟨rfl, hb6⟩
            have HB6 := Lib.hid hb6
            clear hb6 y0 y1 y2 y3 y4 y5 y6 y7 y8 y9 y10 y11 y12 y13 y14 y15
            go_wp2
            go_ret
            exact ⟨_, rfl, ⟨fun h => (by simp at h), fun h => absurd (HE.out.symm.trans (h.2 j hkj hjl)) HZ0.out⟩, HV.out.trans (HB6.out.mono sv)⟩
        · obtain rfl : j = C := by omega
          go_wp2
          go_ret
          exact ⟨_, rfl, ⟨fun _ => ⟨HZ.out, HY.out⟩, fun _ => rfl⟩, HV.out⟩

/-- What the specification's search for a row that is not divisible answers. -/
def OddSpec (R C k : Nat) (d : List Int) (w : World) (e : Ending) (w' : World) : Prop :=
  ((∃ i : Nat, Sm.FirstOdd R C k d i ∧ e = .returned (.int .i64 i)) ∨ ((∀ i, ¬ Sm.FirstOdd R C k d i) ∧ e = .returned (.int .i64 (-1)))) ∧ Below w.heap.size w w'

set_option maxRecDepth 100000 in
set_option maxHeartbeats 8000000 in
theorem odd_work (L : Lay) (R C gw a0 a3 k : Nat) (s : Sm.St) (w : World) (hR : R ≤ 48) (hC : C ≤ 48) (hk : k < R) (hkC : k < C) (hp : Pos L gw a0 a3) (hs : a3 ≤ w.heap.size) (h : Work L R C gw w s) (hw : Sm.Win s.d) (hpos : 0 < Sm.ent C s.d k k) :
    Calls Try.prog 140 #[.pointer (some ⟨gw, 0, none⟩), .int .i64 k] w (OddSpec R C k s.d w) := by
  have pc1 := rc_le hR hC
  have R0 := Lib.hid h.row
  have I0 := Lib.hid (h.five.d.ints.more (show L.gd + 1 ≤ w.heap.size by have := hp.bd; omega))
  have gwl := h.row.lt
  have HW := Lib.hid hw
  obtain ⟨pv, hpv⟩ : ∃ pv, s.d.getD (k * C + k) 0 = pv := ⟨_, rfl⟩
  have hp0 : 0 < pv := by rw [← hpv]; exact hpos
  have hp1 : pv ≤ 1000000000000 := by rw [← hpv]; exact (hw _).2
  have AT := Lib.hid (fun (x y : Nat) (hx : x < R) (hy : y < C) (W : World) (hW : Below w.heap.size w W) => at_spec R C (some ⟨L.gd, 0, none⟩) (R * C) L.cd s.d W (I0.out.into hW) (by omega) x y _ (by rw [castM]; omega) (by rw [castM]; have := Nat.mul_le_mul_right C (show x ≤ R by omega); omega) (castI x C y) (ij_lt hx hy))
  have AP := Lib.hid (AT.out k k hk hkC)
  rw [hpv] at AP
  have HPV := Lib.hid hpv
  have np : ¬ pv = 0 := by omega
  have tp : (pv == 0) = false := by simpa using np
  clear h hp hw hpos hpv
  obtain ⟨y0, y1, y2, y3, y4, y5, y6, y7, y8, y9, y10, y11, y12, y13, y14, y15⟩ := R0.out.box16
  go_enter Try.func140, Try.ntmps140
  go_wp2
  clear y0 y1 y2 y3 y4 y5 y6 y7 y8 y9 y10 y11 y12 y13 y14 y15
  go_loopw [5] (fun x wr => ∃ i : Nat, k < i ∧ i ≤ R ∧ x = .int .i64 i ∧ (∀ a, k < a → a < i → ¬ Sm.Odd C k s.d a) ∧ Below w.heap.size w wr) (fun x _ => R - (intOf x).toNat)
  case atStart => exact ⟨k + 1, by omega, by omega, by go_num, fun a h1 h2 => by omega, Below.refl _ _⟩
  case round =>
    obtain ⟨i, hki, hi, rfl, hz, hbel⟩ := hrel
    have HZ := Lib.hid hz
    have HL := Lib.hid hbel
    have sz : w.heap.size ≤ wr.heap.size := hbel.size
    clear hz hbel
    obtain ⟨y0, y1, y2, y3, y4, y5, y6, y7, y8, y9, y10, y11, y12, y13, y14, y15⟩ := (R0.out.below HL.out gwl).box16
    obtain ⟨wo, rfl⟩ : ∃ wo : World, wo = wr := ⟨_, rfl⟩
    by_cases hlt : i < R
    · go_wp2
      clear y0 y1 y2 y3 y4 y5 y6 y7 y8 y9 y10 y11 y12 y13 y14 y15
      go_loopw [6] (fun y wr => ∃ j : Nat, k < j ∧ j ≤ C ∧ y = .int .i64 j ∧ (∀ a, k < a → a < j → (Sm.ent C s.d i a).tmod (Sm.ent C s.d k k) = 0) ∧ Below w.heap.size w wr) (fun y _ => C - (intOf y).toNat)
      case atStart => exact ⟨k + 1, by omega, by omega, by go_num, fun a h1 h2 => by omega, HL.out⟩
      case round =>
        obtain ⟨j, hkj, hj, rfl, hz, hbel⟩ := hrel
        have HY := Lib.hid hz
        have HV := Lib.hid hbel
        have sv : w.heap.size ≤ wr.heap.size := hbel.size
        clear hz hbel
        have X1 := Lib.hid (R0.out.below HV.out gwl)
        have gwr : gw < wr.heap.size := by omega
        obtain ⟨y0, y1, y2, y3, y4, y5, y6, y7, y8, y9, y10, y11, y12, y13, y14, y15⟩ := X1.out.box16
        by_cases hjl : j < C
        · obtain ⟨z, he⟩ : ∃ z, s.d.getD (i * C + j) 0 = z := ⟨_, rfl⟩
          have AZ := Lib.hid (AT.out i j hlt hjl)
          have hb := HW.out (i * C + j)
          rw [he] at AZ hb
          obtain ⟨hb0, hb1⟩ := hb
          have HE := Lib.hid he
          have hm1 := Int.tmod_lt_of_pos z hp0
          have hm2 : -pv < z.tmod pv := by
            have := Int.tmod_lt_of_pos (-z) hp0
            rw [Int.neg_tmod] at this
            omega
          have w3 : wrap64 (z.tmod pv) = z.tmod pv := IntWalk.wrap64_in _ ⟨by omega, by omega⟩
          have w4 : IntKind.i64.wrap (z.tmod pv) = z.tmod pv := IntWalk.i64_in _ (by omega)
          obtain ⟨m, hm⟩ : ∃ m, z.tmod pv = m := ⟨_, rfl⟩
          have HM := Lib.hid hm
          clear he hm hm1 hm2
          by_cases hz0 : m = 0
          · have t2 : (z.tmod pv != 0) = false := by rw [HM.out]; simpa using hz0
            have HZ0 := Lib.hid hz0
            clear hz0
            go_wp2_with fail
            go_region_held3 (fun W => W.cell? ⟨gw, 0, none⟩ = some (.int .i64 R) ∧ W.cell? ⟨gw, 1, none⟩ = some (.int .i64 C) ∧ W.cell? ⟨gw, 2, none⟩ = some (.slice (some ⟨L.gd, 0, none⟩) (R * C) L.cd)) (go_keep)
              (first
                | (go_at_call 112; (with_reducible refine (AZ.out _ (by exact HV.out.drew)).mono ?_); rintro e w6 ⟨rfl, hb'⟩; have B6 := Lib.hid (undrew hb'); have z6 := B6.out.size; obtain ⟨e0, e1, e2, e3, e4, e5, e6, e7, e8, e9, e10, e11, e12, e13, e14, e15⟩ := (X1.out.below B6.out (by omega)).box16; clear hb')
                | (go_at_call 112; (with_reducible refine (AP.out _ (by exact HV.out.trans (B6.out.mono (by omega)))).mono ?_); rintro e w7 ⟨rfl, hb'⟩; have B7 := Lib.hid (B6.out.trans (hb'.mono z6)); have z7 := B7.out.size; obtain ⟨f0, f1, f2, f3, f4, f5, f6, f7, f8, f9, f10, f11, f12, f13, f14, f15⟩ := (X1.out.below B7.out (by omega)).box16; clear hb'))
            clear y0 y1 y2 y3 y4 y5 y6 y7 y8 y9 y10 y11 y12 y13 y14 y15 e0 e1 e2 e3 e4 e5 e6 e7 e8 e9 e10 e11 e12 e13 e14 e15 f0 f1 f2 f3 f4 f5 f6 f7 f8 f9 f10 f11 f12 f13 f14 f15
            go_wp2
            go_roundw
            case rel => exact ⟨j + 1, by omega, by omega, by go_num, fun a h1 h2 => (if e : a = j then (by rw [e]; show (s.d.getD (i * C + j) 0).tmod (s.d.getD (k * C + k) 0) = 0; rw [HE.out, HPV.out, HM.out]; exact HZ0.out) else HY.out a h1 (by omega)), HV.out.trans (B7.out.mono sv)⟩
            case measure => simp [intOf]; omega
          · have t2 : (z.tmod pv != 0) = true := by rw [HM.out]; simpa using hz0
            have HZ0 := Lib.hid hz0
            clear hz0
            go_wp2_with fail
            go_region_held3 (fun W => W.cell? ⟨gw, 0, none⟩ = some (.int .i64 R) ∧ W.cell? ⟨gw, 1, none⟩ = some (.int .i64 C) ∧ W.cell? ⟨gw, 2, none⟩ = some (.slice (some ⟨L.gd, 0, none⟩) (R * C) L.cd)) (go_keep)
              (first
                | (go_at_call 112; (with_reducible refine (AZ.out _ (by exact HV.out.drew)).mono ?_); rintro e w6 ⟨rfl, hb'⟩; have B6 := Lib.hid (undrew hb'); have z6 := B6.out.size; obtain ⟨e0, e1, e2, e3, e4, e5, e6, e7, e8, e9, e10, e11, e12, e13, e14, e15⟩ := (X1.out.below B6.out (by omega)).box16; clear hb')
                | (go_at_call 112; (with_reducible refine (AP.out _ (by exact HV.out.trans (B6.out.mono (by omega)))).mono ?_); rintro e w7 ⟨rfl, hb'⟩; have B7 := Lib.hid (B6.out.trans (hb'.mono z6)); have z7 := B7.out.size; obtain ⟨f0, f1, f2, f3, f4, f5, f6, f7, f8, f9, f10, f11, f12, f13, f14, f15⟩ := (X1.out.below B7.out (by omega)).box16; clear hb'))
            clear y0 y1 y2 y3 y4 y5 y6 y7 y8 y9 y10 y11 y12 y13 y14 y15 e0 e1 e2 e3 e4 e5 e6 e7 e8 e9 e10 e11 e12 e13 e14 e15 f0 f1 f2 f3 f4 f5 f6 f7 f8 f9 f10 f11 f12 f13 f14 f15
            go_wp2
            go_ret
            refine ⟨.inl ⟨i, ⟨hki, hlt, ⟨j, hkj, hjl, ?_⟩, HZ.out⟩, rfl⟩, HV.out.trans (B7.out.mono sv)⟩
            show (s.d.getD (i * C + j) 0).tmod (s.d.getD (k * C + k) 0) ≠ 0
            rw [HE.out, HPV.out, HM.out]
            exact HZ0.out
        · obtain rfl : j = C := by omega
          go_wp2
          go_roundw
          case rel => exact ⟨i + 1, by omega, by omega, by go_num, fun a h1 h2 => (if e : a = i then (by rw [e]; rintro ⟨b, b1, b2, b3⟩; exact b3 (HY.out b b1 b2)) else HZ.out a h1 (by omega)), HV.out⟩
          case measure => simp [intOf]; omega
    · obtain rfl : i = R := by omega
      go_wp2
      go_ret
      exact ⟨.inr ⟨fun a h => HZ.out a h.1 h.2.1 h.2.2.1, rfl⟩, HL.out⟩

end Go.Proofs.Ytpojkahlllochaa
