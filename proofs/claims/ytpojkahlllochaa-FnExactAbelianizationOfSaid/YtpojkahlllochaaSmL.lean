/- Contracts of the functions that look for a smallest entry, for zeros and for an entry that is not divisible, the program's. No condition but those that each theorem names. -/
import Derived.Test.YtpojkahlllochaaSmJ
namespace Go.Proofs.Ytpojkahlllochaa
open Go.RowKit

theorem mg_av (x : Int) : mg x = Sm.av x := by unfold mg Sm.av; split <;> omega
/-- How a place that was found lies in three variables. -/
def SelV (C : Nat) (d : List Int) (b : Option (Nat × Nat)) (r c l : Value) : Prop :=
  ∃ x y z : Int, r = .int .i64 x ∧ c = .int .i64 y ∧ l = .int .i64 z ∧ match b with
  | none => z = 0
  | some p => x = p.1 ∧ y = p.2 ∧ z = mg (Sm.ent C d p.1 p.2) ∧ 1 ≤ z ∧ z ≤ 1000000000000
def SelSays (w : World) (b : Option (Nat × Nat)) (e : Ending) (w' : World) : Prop :=
  ∃ (x y : Int) (f : Bool), e = .returned (.tuple #[.int .i64 x, .int .i64 y, .bool f]) ∧ (match b with | none => f = false | some p => f = true ∧ x = p.1 ∧ y = p.2) ∧ Below w.heap.size w w'
theorem pick_zero {C : Nat} {d : List Int} {b : Option (Nat × Nat)} {i j : Nat} (h : Sm.ent C d i j = 0) : Sm.pick C d b i j = b := by unfold Sm.pick; rw [if_pos h]
theorem pick_new {C : Nat} {d : List Int} {i j : Nat} (h : Sm.ent C d i j ≠ 0) : Sm.pick C d none i j = some (i, j) := by unfold Sm.pick; rw [if_neg h]
theorem pick_less {C : Nat} {d : List Int} {p : Nat × Nat} {i j : Nat} (h : Sm.ent C d i j ≠ 0) (hl : mg (Sm.ent C d i j) < mg (Sm.ent C d p.1 p.2)) : Sm.pick C d (some p) i j = some (i, j) := by
  rw [mg_av, mg_av] at hl
  unfold Sm.pick
  rw [if_neg h]
  exact if_pos hl
theorem pick_keep {C : Nat} {d : List Int} {p : Nat × Nat} {i j : Nat} (hl : ¬ mg (Sm.ent C d i j) < mg (Sm.ent C d p.1 p.2)) : Sm.pick C d (some p) i j = some p := by
  rw [mg_av, mg_av] at hl
  unfold Sm.pick
  split
  · rfl
  · exact if_neg hl

set_option maxHeartbeats 4000000 in
theorem small_impl (R C k : Nat) (A : Option Addr) (n c : Nat) (d : List Int) (w : World) (h : Ints w w.heap.size A n d) (hn : n = R * C) (hR : R ≤ 48) (hC : C ≤ 48) (hk : k < R) (hkC : k < C) (hw : Sm.Win d) :
    Calls Try.prog 126 #[.agg #[.int .i64 R, .int .i64 C, .slice A n c], .int .i64 k] w (SelSays w (Sm.selAll C d k (R - k))) := by
  have p1 := rc_le hR hC
  have HN := Lib.hid hn
  have HW := Lib.hid hw
  have H := Lib.hid h
  have K0 := Lib.hid (Box3.new w 77 (.int .i64 R) (.int .i64 C) (.slice A n c))
  have HB0 := Lib.hid (al1 w (Obj.cells #[.int .i64 R, .int .i64 C, .slice A n c] 77))
  clear h hn hw
  go_enter Try.func126, Try.ntmps126
  go_wp2
  obtain ⟨W0, hW0⟩ : ∃ W0, W0 = w.alloc (Obj.cells #[.int .i64 R, .int .i64 C, .slice A n c] 77) := ⟨_, rfl⟩
  have s0 : w.heap.size < W0.heap.size := by rw [hW0]; simp
  rw [← hW0] at K0 HB0
  rw [← hW0]
  clear hW0
  go_loopw [7, 8, 9, 10] (fun r q l x wr => ∃ a : Nat, a ≤ R - k ∧ x = .int .i64 ((k + a : Nat) : Int) ∧ SelV C d (Sm.selAll C d k a) r q l ∧ Below W0.heap.size W0 wr) (fun _ _ _ x _ => R - (intOf x).toNat)
  case atStart => exact ⟨0, Nat.zero_le _, by simp, ⟨0, 0, 0, rfl, rfl, rfl, rfl⟩, Below.refl _ _⟩
  case round =>
    obtain ⟨a, ha, rfl, ⟨x, y, z, rfl, rfl, rfl, hsel⟩, hbel⟩ := hrel
    have HS := Lib.hid hsel
    have HL := Lib.hid hbel
    have sz : W0.heap.size ≤ wr.heap.size := hbel.size
    clear hsel hbel
    obtain ⟨wo, rfl⟩ : ∃ wo : World, wo = wr := ⟨_, rfl⟩
    obtain ⟨i, hi⟩ : ∃ i, k + a = i := ⟨_, rfl⟩
    rw [hi]
    have HI := Lib.hid hi
    have hiR : i ≤ R := by omega
    clear hi
    obtain ⟨k0, k1, k2⟩ := K0.out.below HL.out s0
    by_cases hlt : i < R
    · go_wp2
      clear k0 k1 k2
      go_loopw [7, 8, 9, 11, 12] (fun r q l u _ wr => ∃ b : Nat, b ≤ C - k ∧ u = .int .i64 ((k + b : Nat) : Int) ∧ SelV C d (Sm.selRow C d i k (Sm.selAll C d k a) b) r q l ∧ Below W0.heap.size W0 wr) (fun _ _ _ u _ _ => C - (intOf u).toNat)
      case atStart => exact ⟨0, Nat.zero_le _, by simp, ⟨x, y, z, rfl, rfl, rfl, HS.out⟩, HL.out⟩
      case round =>
        obtain ⟨b, hb, rfl, ⟨x', y', l, rfl, rfl, rfl, hsel⟩, hbel⟩ := hrel
        have HV := Lib.hid hbel
        have sv : W0.heap.size ≤ wr.heap.size := hbel.size
        obtain ⟨j, hj⟩ : ∃ j, k + b = j := ⟨_, rfl⟩
        rw [hj]
        have HJ := Lib.hid hj
        have hjC : j ≤ C := by omega
        obtain ⟨o, ho⟩ : ∃ o, Sm.selRow C d i k (Sm.selAll C d k a) b = o := ⟨_, rfl⟩
        rw [ho] at hsel
        have HO := Lib.hid (show Sm.selRow C d i k (Sm.selAll C d k a) (b + 1) = Sm.pick C d o i j by rw [Sm.selRow, ho, hj])
        have HO0 := Lib.hid ho
        clear hj hbel ho
        by_cases hjl : j < C
        · have sij := ij_lt hlt hjl
          have a0 : 0 ≤ (i : Int) * (C : Int) := by rw [castM]; omega
          have a1 : (i : Int) * (C : Int) ≤ 2304 := by rw [castM]; omega
          have AT := Lib.hid (fun (W : World) (hW : Below wr.heap.size wr W) => at_impl R C A n c d W ((((H.out.into HB0.out).below (HV.out.mono (by omega))).below (hW.mono sv)).more (by have := hW.size; omega)) (by have := HN.out; omega) i j _ a0 a1 (castI i C j) (by rw [HN.out]; exact sij))
          obtain ⟨e, he⟩ : ∃ e, Sm.ent C d i j = e := ⟨_, rfl⟩
          have hwe := HW.out (i * C + j)
          have he2 : d.getD (i * C + j) 0 = e := he
          rw [he2] at AT hwe
          have hm := mg_le hwe
          have hm0 := mg_nonneg e
          obtain ⟨X, hX⟩ : ∃ X, mg e = X := ⟨_, rfl⟩
          obtain ⟨hw0, hw1⟩ := hwe
          rw [hX] at hm hm0
          have HX := Lib.hid hX
          have HE := Lib.hid he
          clear he he2 hX
          obtain ⟨k0, k1, k2⟩ := K0.out.below HV.out s0
          have fin : ∀ (wn : World) (x'' y'' l'' : Int), Below wr.heap.size wr wn → (match Sm.pick C d o i j with | none => l'' = 0 | some p => x'' = p.1 ∧ y'' = p.2 ∧ l'' = mg (Sm.ent C d p.1 p.2) ∧ 1 ≤ l'' ∧ l'' ≤ 1000000000000) →
              ∃ b' : Nat, b' ≤ C - k ∧ Value.int .i64 ((j : Int) + 1) = .int .i64 ((k + b' : Nat) : Int) ∧ SelV C d (Sm.selRow C d i k (Sm.selAll C d k a) b') (.int .i64 x'') (.int .i64 y'') (.int .i64 l'') ∧ Below W0.heap.size W0 wn := by
            intro wn x'' y'' l'' hb' hm'
            refine ⟨b + 1, by have := HJ.out; omega, by have := HJ.out; go_num, ⟨x'', y'', l'', rfl, rfl, rfl, ?_⟩, HV.out.trans (hb'.mono sv)⟩
            rw [HO.out]; exact hm'
          have FIN := Lib.hid fin
          clear fin
          by_cases hz : X = 0
          · have t1 : (X == 0) = true := by simpa using hz
            have t2 : (X != 0) = false := by simpa using hz
            have hp := pick_zero (C := C) (d := d) (b := o) (i := i) (j := j) (by rw [HE.out]; have := HX.out; unfold mg at this; omega)
            have HP := Lib.hid hp
            have HSL := Lib.hid hsel
            clear hz hp hsel
            go_wp2_with fail
            refine (AT.out _ (Below.refl _ _)).mono ?_
            rintro e6 w6 ⟨rfl, hb6⟩
            go_wp2_with fail
            (with_reducible refine (mag_impl _ 1000000000000 _ hw0 hw1 (by omega)).mono ?_)
            rintro e7 w7 ⟨rfl, rfl⟩
            rw [HX.out]
            have HB6 := Lib.hid hb6
            clear hb6 k0 k1 k2
            go_wp2
            go_roundw
            case rel => exact FIN.out _ _ _ _ HB6.out (by rw [HP.out]; exact HSL.out)
            case measure => simp [intOf]; omega
          · have t1 : (X == 0) = false := by simpa using hz
            have t2 : (X != 0) = true := by simpa using hz
            have hne : Sm.ent C d i j ≠ 0 := by rw [HE.out]; intro g; apply hz; have := HX.out; rw [g] at this; rw [← this]; rfl
            have hx1 : 1 ≤ X := by omega
            have HNE := Lib.hid hne
            clear hz hne
            cases o with
            | none =>
              have l0 : l = 0 := hsel
              subst l0
              clear hsel
              go_wp2_with fail
              refine (AT.out _ (Below.refl _ _)).mono ?_
              rintro e6 w6 ⟨rfl, hb6⟩
              go_wp2_with fail
              (with_reducible refine (mag_impl _ 1000000000000 _ hw0 hw1 (by omega)).mono ?_)
              rintro e7 w7 ⟨rfl, rfl⟩
              rw [HX.out]
              have HB6 := Lib.hid hb6
              clear hb6 k0 k1 k2
              go_wp2
              go_roundw
              case rel => exact FIN.out _ _ _ _ HB6.out (by rw [pick_new HNE.out]; exact ⟨rfl, rfl, by dsimp only; rw [HE.out, HX.out], hx1, hm⟩)
              case measure => simp [intOf]; omega
            | some p =>
              obtain ⟨hs1, hs2, hs3, hs4, hs5⟩ := hsel
              have HS3 := Lib.hid hs3
              have HS12 := Lib.hid (And.intro hs1 hs2)
              have n0 : ¬ l = 0 := by omega
              have t3 : (l == 0) = false := by simpa using n0
              clear hs1 hs2 hs3 n0
              by_cases hlt2 : X < l
              · have t4 : decide (X < l) = true := by simpa using hlt2
                go_wp2_with fail
                refine (AT.out _ (Below.refl _ _)).mono ?_
                rintro e6 w6 ⟨rfl, hb6⟩
                go_wp2_with fail
                (with_reducible refine (mag_impl _ 1000000000000 _ hw0 hw1 (by omega)).mono ?_)
                rintro e7 w7 ⟨rfl, rfl⟩
                rw [HX.out]
                have HB6 := Lib.hid hb6
                clear hb6 k0 k1 k2
                go_wp2
                go_roundw
                case rel => exact FIN.out _ _ _ _ HB6.out (by rw [pick_less HNE.out (by rw [HE.out, HX.out, ← HS3.out]; exact hlt2)]; exact ⟨rfl, rfl, by dsimp only; rw [HE.out, HX.out], hx1, hm⟩)
                case measure => simp [intOf]; omega
              · have t4 : decide (X < l) = false := by simpa using hlt2
                go_wp2_with fail
                refine (AT.out _ (Below.refl _ _)).mono ?_
                rintro e6 w6 ⟨rfl, hb6⟩
                go_wp2_with fail
                (with_reducible refine (mag_impl _ 1000000000000 _ hw0 hw1 (by omega)).mono ?_)
                rintro e7 w7 ⟨rfl, rfl⟩
                rw [HX.out]
                have HB6 := Lib.hid hb6
                clear hb6 k0 k1 k2
                go_wp2
                go_roundw
                case rel => exact FIN.out _ _ _ _ HB6.out (by rw [pick_keep (by rw [HE.out, HX.out, ← HS3.out]; omega)]; exact ⟨HS12.out.1, HS12.out.2, HS3.out, hs4, hs5⟩)
                case measure => simp [intOf]; omega
        · obtain rfl : j = C := by omega
          have hb2 : b = j - k := by have := HJ.out; omega
          have HB2 := Lib.hid hb2
          have HSL := Lib.hid hsel
          clear hb2 hsel
          obtain ⟨k0, k1, k2⟩ := K0.out.below HV.out s0
          go_wp2
          go_roundw
          case rel => exact ⟨a + 1, by have := HI.out; omega, by have := HI.out; go_num, ⟨x', y', l, rfl, rfl, rfl, by rw [Sm.selAll, HI.out, ← HB2.out, HO0.out]; exact HSL.out⟩, HV.out⟩
          case measure => simp [intOf]; omega
    · have ha2 : a = R - k := by have := HI.out; omega
      have HA := Lib.hid ha2
      clear ha2
      have hz : (z = 0 ∧ Sm.selAll C d k (R - k) = none) ∨ (1 ≤ z ∧ ∃ p, Sm.selAll C d k (R - k) = some p ∧ x = p.1 ∧ y = p.2) := by
        have := HS.out
        rw [HA.out] at this
        cases e : Sm.selAll C d k (R - k) with
        | none => rw [e] at this; exact .inl ⟨this, rfl⟩
        | some p => rw [e] at this; exact .inr ⟨this.2.2.2.1, p, rfl, this.1, this.2.1⟩
      rcases hz with ⟨rfl, hz⟩ | ⟨hz1, p, hz, hx, hy⟩
      · have HZ := Lib.hid hz
        clear hz
        go_wp2
        go_ret3
        exact ⟨_, _, _, rfl, by rw [HZ.out], HB0.out.trans (HL.out.mono (by omega))⟩
      · have HZ := Lib.hid hz
        have HXY := Lib.hid (And.intro hx hy)
        have n0 : ¬ z = 0 := by omega
        have t3 : (z != 0) = true := by simpa using n0
        clear hz n0 hx hy
        go_wp2
        go_ret3
        exact ⟨_, _, _, rfl, by rw [HZ.out]; exact ⟨rfl, HXY.out.1, HXY.out.2⟩, HB0.out.trans (HL.out.mono (by omega))⟩

end Go.Proofs.Ytpojkahlllochaa
