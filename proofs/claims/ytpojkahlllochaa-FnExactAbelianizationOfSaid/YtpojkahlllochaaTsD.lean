/- The contract of the specification's choice of a pivot. No condition but those that each theorem names. -/
import Derived.Test.YtpojkahlllochaaTsC
namespace Go.Proofs.Ytpojkahlllochaa
open Go.RowKit

/-- How a place that was found lies in two variables. -/
def SelP (R C : Nat) (_d : List Int) (b : Option (Nat × Nat)) (p q : Value) : Prop :=
  match b with
  | none => p = .int .i64 (-1) ∧ q = .int .i64 (-1)
  | some s => p = .int .i64 s.1 ∧ q = .int .i64 s.2 ∧ s.1 < R ∧ s.2 < C
theorem SelP.pick {R C : Nat} {d : List Int} {i j : Nat} (hi : i < R) (hj : j < C) : SelP R C d (some (i, j)) (.int .i64 i) (.int .i64 j) := ⟨rfl, rfl, hi, hj⟩
/-- What a negation of a row leaves as it was while it works on the second and third matrix. -/
structure Rest (L : Lay) (R C gw : Nat) (w : World) (d r ri : List Int) : Prop where
  d : Own w L.gd (L.gd + 1) (some ⟨L.gd, 0, none⟩) (R * C) L.cd d
  r : Own w L.gr (L.gr + 1) (some ⟨L.gr, 0, none⟩) (C * C) L.cr r
  ri : Own w L.gri (L.gri + 1) (some ⟨L.gri, 0, none⟩) (C * C) L.cri ri
  row : Row w gw #[.int .i64 R, .int .i64 C, .slice (some ⟨L.gd, 0, none⟩) (R * C) L.cd, .int .i64 R, .int .i64 R, .slice (some ⟨L.gl, 0, none⟩) (R * R) L.cl, .int .i64 R, .int .i64 R, .slice (some ⟨L.gli, 0, none⟩) (R * R) L.cli, .int .i64 C, .int .i64 C, .slice (some ⟨L.gr, 0, none⟩) (C * C) L.cr, .int .i64 C, .int .i64 C, .slice (some ⟨L.gri, 0, none⟩) (C * C) L.cri, .bool false] 132
theorem Rest.kept_l {L : Lay} {R C gw a0 a3 : Nat} {w w' : World} {d r ri : List Int} (h : Rest L R C gw w d r ri) (hp : Pos L gw a0 a3) (hs : a3 ≤ w.heap.size) (hk : Kept L.gl (L.gl + 1) w w') : Rest L R C gw w' d r ri := by
  have hbd := hp.bd
  exact ⟨h.d.kept hk (by omega) (by have := hp.n_d_l; omega), h.r.kept hk (by omega) (by have := hp.n_l_r; omega), h.ri.kept hk (by omega) (by have := hp.n_l_ri; omega), h.row.kept hk (by have := hp.w_l; omega)⟩
theorem Rest.kept_li {L : Lay} {R C gw a0 a3 : Nat} {w w' : World} {d r ri : List Int} (h : Rest L R C gw w d r ri) (hp : Pos L gw a0 a3) (hs : a3 ≤ w.heap.size) (hk : Kept L.gli (L.gli + 1) w w') : Rest L R C gw w' d r ri := by
  have hbd := hp.bd
  exact ⟨h.d.kept hk (by omega) (by have := hp.n_d_li; omega), h.r.kept hk (by omega) (by have := hp.n_li_r; omega), h.ri.kept hk (by omega) (by have := hp.n_li_ri; omega), h.row.kept hk (by have := hp.w_li; omega)⟩
/-- What the choice of a pivot answers. -/
def PickSays (L : Lay) (R C gw a0 a3 k : Nat) (s : Sm.St) (w : World) (e : Ending) (w' : World) : Prop :=
  Kept a0 a3 w w' ∧ match Sm.selAll C s.d k (R - k) with
  | none => e = .returned (.bool false) ∧ Work L R C gw w' s
  | some p => e = .returned (.bool true) ∧ Work L R C gw w' (Sm.place R C k p.1 p.2 s)
theorem PickSays.no {L : Lay} {R C gw a0 a3 k : Nat} {s : Sm.St} {w w' : World} (h : Sm.selAll C s.d k (R - k) = none) (hk : Kept a0 a3 w w') (hw : Work L R C gw w' s) : PickSays L R C gw a0 a3 k s w (.returned (.bool false)) w' := by
  unfold PickSays; rw [h]; exact ⟨hk, rfl, hw⟩
theorem PickSays.yes {L : Lay} {R C gw a0 a3 k : Nat} {s : Sm.St} {w w' : World} {p : Nat × Nat} (h : Sm.selAll C s.d k (R - k) = some p) (hk : Kept a0 a3 w w') (hw : Work L R C gw w' (Sm.place R C k p.1 p.2 s)) : PickSays L R C gw a0 a3 k s w (.returned (.bool true)) w' := by
  unfold PickSays; rw [h]; exact ⟨hk, rfl, hw⟩

set_option maxRecDepth 100000 in
set_option maxHeartbeats 16000000 in
theorem select_work (L : Lay) (R C gw a0 a3 k : Nat) (s : Sm.St) (w : World) (hR : R ≤ 48) (hC : C ≤ 48) (hk : k < R) (hkC : k < C) (hp : Pos L gw a0 a3) (hs : a3 ≤ w.heap.size) (h : Work L R C gw w s) (g : Sm.Good R C s) :
    Calls Try.prog 135 #[.pointer (some ⟨gw, 0, none⟩), .int .i64 k] w (PickSays L R C gw a0 a3 k s w) := by
  have pc1 := rc_le hR hC
  have HPS := Lib.hid hp
  have hbd := hp.bd
  have HW0 := Lib.hid h
  have G := Lib.hid g
  have R0 := Lib.hid h.row
  have I0 := Lib.hid (h.five.d.ints.more (show L.gd + 1 ≤ w.heap.size by omega))
  have gwl := h.row.lt
  clear h g
  obtain ⟨y0, y1, y2, y3, y4, y5, y6, y7, y8, y9, y10, y11, y12, y13, y14, y15⟩ := R0.out.box16
  go_enter Try.func135, Try.ntmps135
  go_wp2
  clear y0 y1 y2 y3 y4 y5 y6 y7 y8 y9 y10 y11 y12 y13 y14 y15
  go_loopw [5, 6, 7] (fun p q x wr => ∃ a : Nat, a ≤ R - k ∧ x = .int .i64 ((k + a : Nat) : Int) ∧ SelP R C s.d (Sm.selAll C s.d k a) p q ∧ Below w.heap.size w wr) (fun _ _ x _ => R - (intOf x).toNat)
  case atStart => exact ⟨0, Nat.zero_le _, by simp, ⟨rfl, rfl⟩, Below.refl _ _⟩
  case round =>
    obtain ⟨a, ha, rfl, hsel, hbel⟩ := hrel
    have HS := Lib.hid hsel
    have HL := Lib.hid hbel
    have sz : w.heap.size ≤ wr.heap.size := hbel.size
    have RR := Lib.hid (R0.out.below hbel gwl)
    clear hsel hbel
    obtain ⟨wo, rfl⟩ : ∃ wo : World, wo = wr := ⟨_, rfl⟩
    obtain ⟨i, hi⟩ : ∃ i, k + a = i := ⟨_, rfl⟩
    rw [hi]
    have HI := Lib.hid hi
    have hiR : i ≤ R := by omega
    clear hi
    obtain ⟨y0, y1, y2, y3, y4, y5, y6, y7, y8, y9, y10, y11, y12, y13, y14, y15⟩ := RR.out.box16
    by_cases hlt : i < R
    · go_wp2
      clear y0 y1 y2 y3 y4 y5 y6 y7 y8 y9 y10 y11 y12 y13 y14 y15
      go_loopw [5, 6, 8, 9] (fun p q u _ wr => ∃ b : Nat, b ≤ C - k ∧ u = .int .i64 ((k + b : Nat) : Int) ∧ SelP R C s.d (Sm.selRow C s.d i k (Sm.selAll C s.d k a) b) p q ∧ Below w.heap.size w wr) (fun _ _ u _ _ => C - (intOf u).toNat)
      case atStart => exact ⟨0, Nat.zero_le _, by simp, HS.out, HL.out⟩
      case round =>
        obtain ⟨b, hb, rfl, hsel, hbel⟩ := hrel
        have HV := Lib.hid hbel
        have sv : w.heap.size ≤ wr.heap.size := hbel.size
        have RV := Lib.hid (R0.out.below hbel gwl)
        obtain ⟨j, hj⟩ : ∃ j, k + b = j := ⟨_, rfl⟩
        rw [hj]
        have HJ := Lib.hid hj
        have hjC : j ≤ C := by omega
        obtain ⟨o, ho⟩ : ∃ o, Sm.selRow C s.d i k (Sm.selAll C s.d k a) b = o := ⟨_, rfl⟩
        rw [ho] at hsel
        have HO := Lib.hid (show Sm.selRow C s.d i k (Sm.selAll C s.d k a) (b + 1) = Sm.pick C s.d o i j by rw [Sm.selRow, ho, hj])
        have HO0 := Lib.hid ho
        clear hj hbel ho
        obtain ⟨y0, y1, y2, y3, y4, y5, y6, y7, y8, y9, y10, y11, y12, y13, y14, y15⟩ := RV.out.box16
        by_cases hjl : j < C
        · have AT := Lib.hid (fun (x y : Nat) (hx : x < R) (hy : y < C) (W : World) (hW : Below w.heap.size w W) => at_spec R C (some ⟨L.gd, 0, none⟩) (R * C) L.cd s.d W (I0.out.into hW) (by omega) x y _ (by rw [castM]; omega) (by rw [castM]; have := Nat.mul_le_mul_right C (show x ≤ R by omega); omega) (castI x C y) (ij_lt hx hy))
          have AX := Lib.hid (AT.out i j hlt hjl wr HV.out)
          obtain ⟨e, he⟩ : ∃ e, Sm.ent C s.d i j = e := ⟨_, rfl⟩
          have hwe := G.out.wd (i * C + j)
          have he2 : s.d.getD (i * C + j) 0 = e := he
          rw [he2] at AX hwe
          have hm := mg_le hwe
          have hm0 := mg_nonneg e
          obtain ⟨X, hX⟩ : ∃ X, mg e = X := ⟨_, rfl⟩
          obtain ⟨hw0, hw1⟩ := hwe
          rw [hX] at hm hm0
          have HX := Lib.hid hX
          have HE := Lib.hid he
          clear he he2 hX
          have fin : ∀ (wn : World) (vp vq : Value), Below w.heap.size w wn → SelP R C s.d (Sm.pick C s.d o i j) vp vq →
              ∃ b' : Nat, b' ≤ C - k ∧ Value.int .i64 ((j : Int) + 1) = .int .i64 ((k + b' : Nat) : Int) ∧ SelP R C s.d (Sm.selRow C s.d i k (Sm.selAll C s.d k a) b') vp vq ∧ Below w.heap.size w wn := by
            intro wn vp vq hb' hm'
            exact ⟨b + 1, by have := HJ.out; omega, by have := HJ.out; go_num, by rw [HO.out]; exact hm', hb'⟩
          have FIN := Lib.hid fin
          clear fin
          by_cases hz : X = 0
          · have t1 : decide (0 < X) = false := by simp; omega
            have hpz := pick_zero (C := C) (d := s.d) (b := o) (i := i) (j := j) (by rw [HE.out]; have := HX.out; unfold mg at this; omega)
            have HP := Lib.hid hpz
            have HSL := Lib.hid hsel
            have hx0 : ¬ 0 < X := by omega
            clear hz hpz hsel
            go_wp2_with fail
            refine AX.out.mono ?_
            rintro e6 w6 ⟨rfl, hb6⟩
            go_wp2_with fail
            (with_reducible refine (abs_spec _ 1000000000000 _ hw0 hw1 (by omega)).mono ?_)
            rintro e7 w7 ⟨rfl, rfl⟩
            rw [HX.out]
            have HB6 := Lib.hid (HV.out.trans (hb6.mono sv))
            clear hb6 y0 y1 y2 y3 y4 y5 y6 y7 y8 y9 y10 y11 y12 y13 y14 y15
            go_wp2
            go_roundw
            case rel => exact FIN.out _ _ _ HB6.out (by rw [HP.out]; exact HSL.out)
            case measure => simp [intOf]; omega
          · have t1 : decide (0 < X) = true := by simp; omega
            have hx1 : 0 < X := by omega
            have hne : Sm.ent C s.d i j ≠ 0 := by rw [HE.out]; intro g; apply hz; have := HX.out; rw [g] at this; rw [← this]; rfl
            have HNE := Lib.hid hne
            clear hz hne
            cases o with
            | none =>
              obtain ⟨rfl, rfl⟩ := hsel
              go_wp2_with fail
              refine AX.out.mono ?_
              rintro e6 w6 ⟨rfl, hb6⟩
              go_wp2_with fail
              (with_reducible refine (abs_spec _ 1000000000000 _ hw0 hw1 (by omega)).mono ?_)
              rintro e7 w7 ⟨rfl, rfl⟩
              rw [HX.out]
              have HB6 := Lib.hid (HV.out.trans (hb6.mono sv))
              clear hb6 y0 y1 y2 y3 y4 y5 y6 y7 y8 y9 y10 y11 y12 y13 y14 y15
              go_wp2
              go_roundw
              case rel => exact FIN.out _ _ _ HB6.out (by rw [pick_new HNE.out]; exact SelP.pick hlt hjl)
              case measure => simp [intOf]; omega
            | some pp =>
              obtain ⟨x, y⟩ := pp
              obtain ⟨rfl, rfl, hxR, hyC⟩ := hsel
              dsimp only at hxR hyC ⊢
              obtain ⟨f, hf⟩ : ∃ f, Sm.ent C s.d x y = f := ⟨_, rfl⟩
              have AY := Lib.hid (AT.out x y hxR hyC)
              have hwf := G.out.wd (x * C + y)
              have hf2 : s.d.getD (x * C + y) 0 = f := hf
              rw [hf2] at AY hwf
              obtain ⟨l, hl⟩ : ∃ l, mg f = l := ⟨_, rfl⟩
              obtain ⟨hf0, hf1⟩ := hwf
              have HLL := Lib.hid hl
              have HF := Lib.hid hf
              clear hf hf2 hl
              by_cases hlt2 : X < l
              · have t4 : decide (X < l) = true := by simpa using hlt2
                go_wp2_with fail
                refine AX.out.mono ?_
                rintro e6 w6 ⟨rfl, hb6⟩
                go_wp2_with fail
                (with_reducible refine (abs_spec _ 1000000000000 _ hw0 hw1 (by omega)).mono ?_)
                rintro e7 w7 ⟨rfl, rfl⟩
                rw [HX.out]
                have HB6 := Lib.hid (HV.out.trans (hb6.mono sv))
                have R6 := Lib.hid (R0.out.below HB6.out gwl)
                clear hb6 y0 y1 y2 y3 y4 y5 y6 y7 y8 y9 y10 y11 y12 y13 y14 y15
                obtain ⟨y0, y1, y2, y3, y4, y5, y6, y7, y8, y9, y10, y11, y12, y13, y14, y15⟩ := R6.out.box16
                go_wp2_with fail
                refine (AY.out _ HB6.out).mono ?_
                rintro e8 w8 ⟨rfl, hb8⟩
                go_wp2_with fail
                (with_reducible refine (abs_spec _ 1000000000000 _ hf0 hf1 (by omega)).mono ?_)
                rintro e9 w9 ⟨rfl, rfl⟩
                rw [HLL.out]
                have HB8 := Lib.hid (HB6.out.trans (hb8.mono HB6.out.size))
                clear hb8 y0 y1 y2 y3 y4 y5 y6 y7 y8 y9 y10 y11 y12 y13 y14 y15
                go_wp2
                go_roundw
                case rel => exact FIN.out _ _ _ HB8.out (by rw [pick_less HNE.out (by rw [HE.out, HX.out]; show X < mg (Sm.ent C s.d x y); rw [HF.out, HLL.out]; exact hlt2)]; exact SelP.pick hlt hjl)
                case measure => simp [intOf]; omega
              · have t4 : decide (X < l) = false := by simpa using hlt2
                go_wp2_with fail
                refine AX.out.mono ?_
                rintro e6 w6 ⟨rfl, hb6⟩
                go_wp2_with fail
                (with_reducible refine (abs_spec _ 1000000000000 _ hw0 hw1 (by omega)).mono ?_)
                rintro e7 w7 ⟨rfl, rfl⟩
                rw [HX.out]
                have HB6 := Lib.hid (HV.out.trans (hb6.mono sv))
                have R6 := Lib.hid (R0.out.below HB6.out gwl)
                clear hb6 y0 y1 y2 y3 y4 y5 y6 y7 y8 y9 y10 y11 y12 y13 y14 y15
                obtain ⟨y0, y1, y2, y3, y4, y5, y6, y7, y8, y9, y10, y11, y12, y13, y14, y15⟩ := R6.out.box16
                go_wp2_with fail
                refine (AY.out _ HB6.out).mono ?_
                rintro e8 w8 ⟨rfl, hb8⟩
                go_wp2_with fail
                (with_reducible refine (abs_spec _ 1000000000000 _ hf0 hf1 (by omega)).mono ?_)
                rintro e9 w9 ⟨rfl, rfl⟩
                rw [HLL.out]
                have HB8 := Lib.hid (HB6.out.trans (hb8.mono HB6.out.size))
                clear hb8 y0 y1 y2 y3 y4 y5 y6 y7 y8 y9 y10 y11 y12 y13 y14 y15
                go_wp2
                go_roundw
                case rel => exact FIN.out _ _ _ HB8.out (by rw [pick_keep (by rw [HE.out, HX.out]; show ¬ X < mg (Sm.ent C s.d x y); rw [HF.out, HLL.out]; omega)]; exact ⟨rfl, rfl, hxR, hyC⟩)
                case measure => simp [intOf]; omega
        · obtain rfl : j = C := by omega
          have hb2 : b = j - k := by have := HJ.out; omega
          have HB2 := Lib.hid hb2
          have HSL := Lib.hid hsel
          clear hb2 hsel
          go_wp2
          go_roundw
          case rel => exact ⟨a + 1, by have := HI.out; omega, by have := HI.out; go_num, by rw [Sm.selAll, HI.out, ← HB2.out, HO0.out]; exact HSL.out, HV.out⟩
          case measure => simp [intOf]; omega
    · have ha2 : a = R - k := by have := HI.out; omega
      have hse := HS.out
      rw [ha2] at hse
      cases he : Sm.selAll C s.d k (R - k) with
      | none =>
        rw [he] at hse
        obtain ⟨rfl, rfl⟩ := hse
        have HE := Lib.hid he
        clear ha2 he
        go_wp2
        go_ret
        exact PickSays.no HE.out (Kept.of_below HL.out _ _) (HW0.out.below HPS.out (by omega) HL.out)
      | some pp =>
        rw [he] at hse
        obtain ⟨p, q⟩ := pp
        obtain ⟨rfl, rfl, hpR, hqC⟩ := hse
        dsimp only at hpR hqC ⊢
        have HE := Lib.hid he
        clear ha2 he HS
        have W1 := Lib.hid (HW0.out.below HPS.out (by omega) HL.out)
        have Hl0 := Lib.hid W1.out.five.l
        have Hli0 := Lib.hid W1.out.five.li
        have Hd0 := Lib.hid W1.out.five.d
        have Hr0 := Lib.hid W1.out.five.r
        have Hri0 := Lib.hid W1.out.five.ri
        have RW0 := Lib.hid W1.out.row
        have u0 : w.heap.size ≤ wo.heap.size := sz
        have K0 := Lib.hid (Kept.of_below HL.out a0 a3)
        clear y0 y1 y2 y3 y4 y5 y6 y7 y8 y9 y10 y11 y12 y13 y14 y15 W1 RR
        obtain ⟨y0, y1, y2, y3, y4, y5, y6, y7, y8, y9, y10, y11, y12, y13, y14, y15⟩ := RW0.out.box16
        go_wp2_with fail
        refine (swap_rows R C p k _ _ L.cd L.gd (L.gd + 1) _ _ Hd0.out (by omega) rfl (by omega) (by omega) (by omega) (by omega)).mono ?_
        rintro e w1 ⟨rfl, hown, hk9⟩
        rw [Sm.exch_comm] at hown
        have K1 := Lib.hid (K0.out.trans (hk9.wide (lo' := a0) (hi' := a3) (by omega) (by omega)))
        have Hl1 := Lib.hid (Hl0.out.kept hk9 (by omega) (by have := HPS.out.n_d_l; omega))
        clear Hl0
        have Hli1 := Lib.hid (Hli0.out.kept hk9 (by omega) (by have := HPS.out.n_d_li; omega))
        clear Hli0
        have Hd1 := Lib.hid hown
        clear Hd0
        have Hr1 := Lib.hid (Hr0.out.kept hk9 (by omega) (by have := HPS.out.n_d_r; omega))
        clear Hr0
        have Hri1 := Lib.hid (Hri0.out.kept hk9 (by omega) (by have := HPS.out.n_d_ri; omega))
        clear Hri0
        have RW1 := Lib.hid (RW0.out.kept hk9 (by have := HPS.out.w_d; omega))
        have u1 : w.heap.size ≤ w1.heap.size := by have := hk9.size; omega
        clear hown hk9 y0 y1 y2 y3 y4 y5 y6 y7 y8 y9 y10 y11 y12 y13 y14 y15 RW0 K0
        obtain ⟨y0, y1, y2, y3, y4, y5, y6, y7, y8, y9, y10, y11, y12, y13, y14, y15⟩ := RW1.out.box16
        go_wp2_with fail
        refine (swap_rows R R p k _ _ L.cl L.gl (L.gl + 1) _ _ Hl1.out (by omega) rfl (by omega) (by omega) (by omega) (by omega)).mono ?_
        rintro e w2 ⟨rfl, hown, hk9⟩
        rw [Sm.exch_comm] at hown
        have K2 := Lib.hid (K1.out.trans (hk9.wide (lo' := a0) (hi' := a3) (by omega) (by omega)))
        have Hl2 := Lib.hid hown
        clear Hl1
        have Hli2 := Lib.hid (Hli1.out.kept hk9 (by omega) (by have := HPS.out.n_l_li; omega))
        clear Hli1
        have Hd2 := Lib.hid (Hd1.out.kept hk9 (by omega) (by have := HPS.out.n_d_l; omega))
        clear Hd1
        have Hr2 := Lib.hid (Hr1.out.kept hk9 (by omega) (by have := HPS.out.n_l_r; omega))
        clear Hr1
        have Hri2 := Lib.hid (Hri1.out.kept hk9 (by omega) (by have := HPS.out.n_l_ri; omega))
        clear Hri1
        have RW2 := Lib.hid (RW1.out.kept hk9 (by have := HPS.out.w_l; omega))
        have u2 : w.heap.size ≤ w2.heap.size := by have := hk9.size; omega
        clear hown hk9 y0 y1 y2 y3 y4 y5 y6 y7 y8 y9 y10 y11 y12 y13 y14 y15 RW1 K1
        obtain ⟨y0, y1, y2, y3, y4, y5, y6, y7, y8, y9, y10, y11, y12, y13, y14, y15⟩ := RW2.out.box16
        go_wp2_with fail
        refine (swap_cols R R p k _ _ L.cli L.gli (L.gli + 1) _ _ Hli2.out (by omega) rfl (by omega) (by omega) (by omega) (by omega)).mono ?_
        rintro e w3 ⟨rfl, hown, hk9⟩
        rw [Sm.exch_comm] at hown
        have K3 := Lib.hid (K2.out.trans (hk9.wide (lo' := a0) (hi' := a3) (by omega) (by omega)))
        have Hl3 := Lib.hid (Hl2.out.kept hk9 (by omega) (by have := HPS.out.n_l_li; omega))
        clear Hl2
        have Hli3 := Lib.hid hown
        clear Hli2
        have Hd3 := Lib.hid (Hd2.out.kept hk9 (by omega) (by have := HPS.out.n_d_li; omega))
        clear Hd2
        have Hr3 := Lib.hid (Hr2.out.kept hk9 (by omega) (by have := HPS.out.n_li_r; omega))
        clear Hr2
        have Hri3 := Lib.hid (Hri2.out.kept hk9 (by omega) (by have := HPS.out.n_li_ri; omega))
        clear Hri2
        have RW3 := Lib.hid (RW2.out.kept hk9 (by have := HPS.out.w_li; omega))
        have u3 : w.heap.size ≤ w3.heap.size := by have := hk9.size; omega
        clear hown hk9 y0 y1 y2 y3 y4 y5 y6 y7 y8 y9 y10 y11 y12 y13 y14 y15 RW2 K2
        obtain ⟨y0, y1, y2, y3, y4, y5, y6, y7, y8, y9, y10, y11, y12, y13, y14, y15⟩ := RW3.out.box16
        go_wp2_with fail
        refine (swap_cols R C q k _ _ L.cd L.gd (L.gd + 1) _ _ Hd3.out (by omega) rfl (by omega) (by omega) (by omega) (by omega)).mono ?_
        rintro e w4 ⟨rfl, hown, hk9⟩
        rw [Sm.exch_comm] at hown
        have K4 := Lib.hid (K3.out.trans (hk9.wide (lo' := a0) (hi' := a3) (by omega) (by omega)))
        have Hl4 := Lib.hid (Hl3.out.kept hk9 (by omega) (by have := HPS.out.n_d_l; omega))
        clear Hl3
        have Hli4 := Lib.hid (Hli3.out.kept hk9 (by omega) (by have := HPS.out.n_d_li; omega))
        clear Hli3
        have Hd4 := Lib.hid hown
        clear Hd3
        have Hr4 := Lib.hid (Hr3.out.kept hk9 (by omega) (by have := HPS.out.n_d_r; omega))
        clear Hr3
        have Hri4 := Lib.hid (Hri3.out.kept hk9 (by omega) (by have := HPS.out.n_d_ri; omega))
        clear Hri3
        have RW4 := Lib.hid (RW3.out.kept hk9 (by have := HPS.out.w_d; omega))
        have u4 : w.heap.size ≤ w4.heap.size := by have := hk9.size; omega
        clear hown hk9 y0 y1 y2 y3 y4 y5 y6 y7 y8 y9 y10 y11 y12 y13 y14 y15 RW3 K3
        obtain ⟨y0, y1, y2, y3, y4, y5, y6, y7, y8, y9, y10, y11, y12, y13, y14, y15⟩ := RW4.out.box16
        go_wp2_with fail
        refine (swap_cols C C q k _ _ L.cr L.gr (L.gr + 1) _ _ Hr4.out (by omega) rfl (by omega) (by omega) (by omega) (by omega)).mono ?_
        rintro e w5 ⟨rfl, hown, hk9⟩
        rw [Sm.exch_comm] at hown
        have K5 := Lib.hid (K4.out.trans (hk9.wide (lo' := a0) (hi' := a3) (by omega) (by omega)))
        have Hl5 := Lib.hid (Hl4.out.kept hk9 (by omega) (by have := HPS.out.n_l_r; omega))
        clear Hl4
        have Hli5 := Lib.hid (Hli4.out.kept hk9 (by omega) (by have := HPS.out.n_li_r; omega))
        clear Hli4
        have Hd5 := Lib.hid (Hd4.out.kept hk9 (by omega) (by have := HPS.out.n_d_r; omega))
        clear Hd4
        have Hr5 := Lib.hid hown
        clear Hr4
        have Hri5 := Lib.hid (Hri4.out.kept hk9 (by omega) (by have := HPS.out.n_r_ri; omega))
        clear Hri4
        have RW5 := Lib.hid (RW4.out.kept hk9 (by have := HPS.out.w_r; omega))
        have u5 : w.heap.size ≤ w5.heap.size := by have := hk9.size; omega
        clear hown hk9 y0 y1 y2 y3 y4 y5 y6 y7 y8 y9 y10 y11 y12 y13 y14 y15 RW4 K4
        obtain ⟨y0, y1, y2, y3, y4, y5, y6, y7, y8, y9, y10, y11, y12, y13, y14, y15⟩ := RW5.out.box16
        go_wp2_with fail
        refine (swap_rows C C q k _ _ L.cri L.gri (L.gri + 1) _ _ Hri5.out (by omega) rfl (by omega) (by omega) (by omega) (by omega)).mono ?_
        rintro e w6 ⟨rfl, hown, hk9⟩
        rw [Sm.exch_comm] at hown
        have K6 := Lib.hid (K5.out.trans (hk9.wide (lo' := a0) (hi' := a3) (by omega) (by omega)))
        have Hl6 := Lib.hid (Hl5.out.kept hk9 (by omega) (by have := HPS.out.n_l_ri; omega))
        clear Hl5
        have Hli6 := Lib.hid (Hli5.out.kept hk9 (by omega) (by have := HPS.out.n_li_ri; omega))
        clear Hli5
        have Hd6 := Lib.hid (Hd5.out.kept hk9 (by omega) (by have := HPS.out.n_d_ri; omega))
        clear Hd5
        have Hr6 := Lib.hid (Hr5.out.kept hk9 (by omega) (by have := HPS.out.n_r_ri; omega))
        clear Hr5
        have Hri6 := Lib.hid hown
        clear Hri5
        have RW6 := Lib.hid (RW5.out.kept hk9 (by have := HPS.out.w_ri; omega))
        have u6 : w.heap.size ≤ w6.heap.size := by have := hk9.size; omega
        clear hown hk9 y0 y1 y2 y3 y4 y5 y6 y7 y8 y9 y10 y11 y12 y13 y14 y15 RW5 K5
        obtain ⟨y0, y1, y2, y3, y4, y5, y6, y7, y8, y9, y10, y11, y12, y13, y14, y15⟩ := RW6.out.box16
        have GS := Lib.hid (G.out.rowEx (a := k) (b := p) |>.colEx (a := k) (b := q))
        obtain ⟨sw, hsw⟩ : ∃ sw, sw = Sm.swapped R C k p q s := ⟨_, rfl⟩
        have W6 : Work L R C gw w6 sw := by rw [hsw]; exact ⟨⟨Hd6.out, Hl6.out, Hli6.out, Hr6.out, Hri6.out⟩, RW6.out⟩
        have GW : Sm.Good R C sw := by rw [hsw]; exact GS.out
        have HPL := Lib.hid (show Sm.place R C k p q s = if Sm.ent C sw.d k k < 0 then Sm.rowNeg R C k sw else sw by rw [hsw]; rfl)
        have HW6 := Lib.hid W6
        have HGW := Lib.hid GW
        clear W6 GW hsw GS Hd6 Hl6 Hli6 Hr6 Hri6 y0 y1 y2 y3 y4 y5 y6 y7 y8 y9 y10 y11 y12 y13 y14 y15 HW0 I0
        obtain ⟨pv, hpv⟩ : ∃ pv, sw.d.getD (k * C + k) 0 = pv := ⟨_, rfl⟩
        have hpb := HGW.out.wd (k * C + k)
        rw [hpv] at hpb
        obtain ⟨hpb0, hpb1⟩ := hpb
        have hpe : Sm.ent C sw.d k k = pv := hpv
        have HPV := Lib.hid hpv
        have HPE := Lib.hid hpe
        clear hpv hpe
        obtain ⟨y0, y1, y2, y3, y4, y5, y6, y7, y8, y9, y10, y11, y12, y13, y14, y15⟩ := RW6.out.box16
        go_wp2_with fail
        refine (at_spec R C _ _ L.cd sw.d _ (HW6.out.five.d.ints.more (by omega)) (by omega) k k _ (by rw [castM]; omega) (by rw [castM]; have := Nat.mul_le_mul_right C (show k ≤ R by omega); omega) (castI k C k) (ij_lt hk hkC)).mono ?_
        rintro e w7 ⟨rfl, hb7⟩
        rw [HPV.out]
        have HW7 := Lib.hid (HW6.out.below HPS.out (by omega) hb7)
        have K7 := Lib.hid (K6.out.trans (Kept.of_below hb7 _ _))
        have u7 : w.heap.size ≤ w7.heap.size := by have := hb7.size; omega
        clear hb7 y0 y1 y2 y3 y4 y5 y6 y7 y8 y9 y10 y11 y12 y13 y14 y15
        by_cases hneg : pv < 0
        case neg =>
          have t9 : decide (pv < 0) = false := by simpa using hneg
          go_wp2_with fail
          go_ret
          refine PickSays.yes HE.out K7.out ?_
          show Work L R C gw w7 (Sm.place R C k p q s)
          rw [HPL.out, HPE.out, if_neg (by omega)]
          exact HW7.out
        have t9 : decide (pv < 0) = true := by simpa using hneg
        have RW7 := Lib.hid HW7.out.row
        have Il := Lib.hid HW7.out.five.l
        have Ili := Lib.hid HW7.out.five.li
        have Id := Lib.hid HW7.out.five.d
        have Ir := Lib.hid HW7.out.five.r
        have Iri := Lib.hid HW7.out.five.ri
        go_wp2
        go_loopw [10] (fun x wr => ∃ t : Nat, t ≤ C ∧ x = .int .i64 t ∧ Own wr L.gd (L.gd + 1) (some ⟨L.gd, 0, none⟩) (R * C) L.cd (Sm.negl (k * C) 1 sw.d t) ∧ Kept L.gd (L.gd + 1) w7 wr) (fun x _ => C - (intOf x).toNat)
        case atStart => exact ⟨0, Nat.zero_le _, rfl, Id.out, Kept.refl _ _ _⟩
        case round =>
          obtain ⟨t, ht, rfl, hown, hkept⟩ := hrel
          have HO := Lib.hid hown
          have HKP := Lib.hid hkept
          have sx : w7.heap.size ≤ wr.heap.size := hkept.size
          have RL := Lib.hid (RW7.out.kept hkept (by have := HPS.out.w_d; omega))
          clear hown hkept
          by_cases hlt9 : t < C
          · obtain ⟨m, hm⟩ : ∃ m, Sm.negl (k * C) 1 sw.d t = m := ⟨_, rfl⟩
            have hwm : Sm.Win m := by rw [← hm]; exact Sm.negl_win HGW.out.wd t
            rw [hm] at HO
            have HMM := Lib.hid hm
            clear hm
            have st1 : k * C + t < R * C := ij_lt (by omega) (by omega)
            have a10 : 0 ≤ (k : Int) * (C : Int) := by rw [castM]; omega
            have a11 : (k : Int) * (C : Int) ≤ 2304 := by rw [castM]; have := Nat.mul_le_mul (show k ≤ 48 by omega) (show C ≤ 48 by omega); omega
            have AA1 := Lib.hid (fun (W : World) (hW : Below wr.heap.size wr W) => at_spec R C (some ⟨L.gd, 0, none⟩) (R * C) L.cd m W ((HO.out.below hW (by omega)).ints.more (by have := hW.size; omega)) (by have := rc_le (show R ≤ 48 by omega) (show C ≤ 48 by omega); omega) k t _ a10 a11 (castI k C t) st1)
            obtain ⟨x1, hx1⟩ : ∃ x, m.getD (k * C + t) 0 = x := ⟨_, rfl⟩
            have bx1 := (show Sm.Win m by assumption) (k * C + t)
            rw [hx1] at AA1 bx1
            obtain ⟨bx10, bx11⟩ := bx1
            have wn1 : IntKind.i64.wrap (-x1) = -x1 := IntWalk.i64_in _ (by omega)
            have c10 : 0 ≤ (k : Int) * (C : Int) + (t : Int) := by omega
            have c11 : (k : Int) * (C : Int) + (t : Int) < ((R * C : Nat) : Int) := by rw [castI]; omega
            have c12 : (k : Int) * (C : Int) + (t : Int) < (R : Int) * (C : Int) := by rw [castI, castM]; omega
            have hw11 : IntKind.i64.wrap ((k : Int) * (C : Int)) = (k : Int) * (C : Int) := IntWalk.i64_in _ (by omega)
            have hw12 : IntKind.i64.wrap ((k : Int) * (C : Int) + (t : Int)) = (k : Int) * (C : Int) + (t : Int) := IntWalk.i64_in _ (by rw [castI]; have := rc_le (show R ≤ 48 by omega) (show C ≤ 48 by omega); omega)
            obtain ⟨gx1, zz1, eg1, hlo1, hlt1, _, _, _⟩ := HO.out.at_ st1
            cases eg1
            have ng12 : ¬ gw = L.gd := HPS.out.w_d
            have ng11 : ¬ L.gd = gw := Ne.symm ng12
            have gl1 : L.gd < wr.heap.size := by omega
            have HX1 := Lib.hid hx1
            clear hx1
            obtain ⟨y0, y1, y2, y3, y4, y5, y6, y7, y8, y9, y10, y11, y12, y13, y14, y15⟩ := RL.out.box16
            go_wp2_with fail
            go_region_held3 (fun W => W.cell? ⟨gw, 0, none⟩ = some (.int .i64 R) ∧ W.cell? ⟨gw, 1, none⟩ = some (.int .i64 C) ∧ W.cell? ⟨gw, 2, none⟩ = some (.slice (some ⟨L.gd, 0, none⟩) (R * C) L.cd)) (go_keep)
              ((go_at_call 112; (with_reducible refine (AA1.out _ (by exact (Below.refl _ _).drew)).mono ?_); rintro e wx1 ⟨rfl, hb'⟩; have BX1 := Lib.hid (undrew hb'); have zx1 := BX1.out.size; have RX1 := Lib.hid (RL.out.below BX1.out (by omega)); obtain ⟨v0, v1, v2, v3, v4, v5, v6, v7, v8, v9, v10, v11, v12, v13, v14, v15⟩ := RX1.out.box16; obtain ⟨g', z7', eg, _, _, _, hcz, hfz⟩ := (HO.out.below BX1.out (by omega)).at_ st1; cases eg; have hcz' : wx1.cell? ⟨L.gd, ((k : Int) * (C : Int) + (t : Int)).toNat, none⟩ = some (.int .i64 z7') := (by rw [castI]; exact hcz); have hfz' : wx1.frozen? ⟨L.gd, ((k : Int) * (C : Int) + (t : Int)).toNat, none⟩ = false := (by rw [castI]; exact hfz); clear hb'))
            have ho1 : ((k : Int) * (C : Int) + (t : Int)).toNat = k * C + t := by rw [castI]; rfl
            rw [ho1]
            have ON1 := Lib.hid ((HO.out.below BX1.out (by omega)).set_ (k * C + t) (-x1))
            have KN1 := Lib.hid (Kept.set_ (p := ⟨L.gd, k * C + t, none⟩) (Kept.of_below BX1.out L.gd (L.gd + 1)) hlo1 hlt1 (.int .i64 (-x1)))
            clear y0 y1 y2 y3 y4 y5 y6 y7 y8 y9 y10 y11 y12 y13 y14 y15 v0 v1 v2 v3 v4 v5 v6 v7 v8 v9 v10 v11 v12 v13 v14 v15 hcz hfz hcz' hfz' ho1 hw11 hw12 wn1 c10 c11 c12
            have Q1 := Lib.hid (show Sm.negl (k * C) 1 sw.d (t + 1) = m.set (k * C + t) (-x1) by rw [Sm.negl, HMM.out, Nat.mul_one, HX1.out])
            clear hwm
            go_wp2
            go_roundw
            case rel => exact ⟨t + 1, by omega, by go_num, by rw [Q1.out]; exact ON1.out, HKP.out.trans KN1.out⟩
            case measure => simp [intOf]; omega
          · have htc : C = t := by omega
            have HTC := Lib.hid htc
            rw [← htc] at HO
            have nlt : ¬ (t : Int) < (C : Int) := by omega
            clear htc hlt9
            obtain ⟨y0, y1, y2, y3, y4, y5, y6, y7, y8, y9, y10, y11, y12, y13, y14, y15⟩ := RL.out.box16
            go_wp2
            clear y0 y1 y2 y3 y4 y5 y6 y7 y8 y9 y10 y11 y12 y13 y14 y15
            have J1 := Lib.hid (Il.out.kept HKP.out (by omega) (by have := HPS.out.n_d_l; omega))
            have J2 := Lib.hid (Ili.out.kept HKP.out (by omega) (by have := HPS.out.n_d_li; omega))
            have J3 := Lib.hid (Ir.out.kept HKP.out (by omega) (by have := HPS.out.n_d_r; omega))
            have J4 := Lib.hid (Iri.out.kept HKP.out (by omega) (by have := HPS.out.n_d_ri; omega))
            have J5 := Lib.hid (show Rest L R C gw wr (Sm.negl (k * C) 1 sw.d C) sw.r sw.ri from ⟨HO.out, J3.out, J4.out, RL.out⟩)
            have zq : w7.heap.size ≤ wr.heap.size := HKP.out.size
            obtain ⟨wq, rfl⟩ : ∃ wq : World, wq = wr := ⟨_, rfl⟩
            go_loopw [11] (fun x wr => ∃ t' : Nat, t' ≤ R ∧ x = .int .i64 t' ∧ Own wr L.gl (L.gl + 1) (some ⟨L.gl, 0, none⟩) (R * R) L.cl (Sm.negl (k * R) 1 sw.l t') ∧ Own wr L.gli (L.gli + 1) (some ⟨L.gli, 0, none⟩) (R * R) L.cli (Sm.negl k R sw.li t') ∧ Rest L R C gw wr (Sm.negl (k * C) 1 sw.d C) sw.r sw.ri ∧ Kept a0 a3 wq wr) (fun x _ => R - (intOf x).toNat)
            case atStart => exact ⟨0, Nat.zero_le _, rfl, J1.out, J2.out, J5.out, Kept.refl _ _ _⟩
            case round =>
              obtain ⟨t', ht', rfl, hown, hown2, hrest, hkept⟩ := hrel
              have HP1 := Lib.hid hown
              have HP2 := Lib.hid hown2
              have HKQ := Lib.hid hkept
              have sy : wq.heap.size ≤ wr.heap.size := hkept.size
              have HRS := Lib.hid hrest
              have RM := Lib.hid hrest.row
              clear hown hown2 hkept hrest
              by_cases hlt9 : t' < R
              · obtain ⟨m, hm⟩ : ∃ m, Sm.negl (k * R) 1 sw.l t' = m := ⟨_, rfl⟩
                obtain ⟨m2, hm2⟩ : ∃ m2, Sm.negl k R sw.li t' = m2 := ⟨_, rfl⟩
                have hwm : Sm.Win m := by rw [← hm]; exact Sm.negl_win HGW.out.wl t'
                have HWM2 := Lib.hid (show Sm.Win m2 by rw [← hm2]; exact Sm.negl_win HGW.out.wli t')
                rw [hm] at HP1
                rw [hm2] at HP2
                have HMM := Lib.hid hm
                have HMM2 := Lib.hid hm2
                clear hm hm2
                have st2 : k * R + t' < R * R := ij_lt (by omega) (by omega)
                have a20 : 0 ≤ (k : Int) * (R : Int) := by rw [castM]; omega
                have a21 : (k : Int) * (R : Int) ≤ 2304 := by rw [castM]; have := Nat.mul_le_mul (show k ≤ 48 by omega) (show R ≤ 48 by omega); omega
                have AA2 := Lib.hid (fun (W : World) (hW : Below wr.heap.size wr W) => at_spec R R (some ⟨L.gl, 0, none⟩) (R * R) L.cl m W ((HP1.out.below hW (by omega)).ints.more (by have := hW.size; omega)) (by have := rc_le (show R ≤ 48 by omega) (show R ≤ 48 by omega); omega) k t' _ a20 a21 (castI k R t') st2)
                obtain ⟨x2, hx2⟩ : ∃ x, m.getD (k * R + t') 0 = x := ⟨_, rfl⟩
                have bx2 := (show Sm.Win m by assumption) (k * R + t')
                rw [hx2] at AA2 bx2
                obtain ⟨bx20, bx21⟩ := bx2
                have wn2 : IntKind.i64.wrap (-x2) = -x2 := IntWalk.i64_in _ (by omega)
                have c20 : 0 ≤ (k : Int) * (R : Int) + (t' : Int) := by omega
                have c21 : (k : Int) * (R : Int) + (t' : Int) < ((R * R : Nat) : Int) := by rw [castI]; omega
                have c22 : (k : Int) * (R : Int) + (t' : Int) < (R : Int) * (R : Int) := by rw [castI, castM]; omega
                have hw21 : IntKind.i64.wrap ((k : Int) * (R : Int)) = (k : Int) * (R : Int) := IntWalk.i64_in _ (by omega)
                have hw22 : IntKind.i64.wrap ((k : Int) * (R : Int) + (t' : Int)) = (k : Int) * (R : Int) + (t' : Int) := IntWalk.i64_in _ (by rw [castI]; have := rc_le (show R ≤ 48 by omega) (show R ≤ 48 by omega); omega)
                obtain ⟨gx2, zz2, eg2, hlo2, hlt2, _, _, _⟩ := HP1.out.at_ st2
                cases eg2
                have ng22 : ¬ gw = L.gl := HPS.out.w_l
                have ng21 : ¬ L.gl = gw := Ne.symm ng22
                have gl2 : L.gl < wr.heap.size := by omega
                have HX2 := Lib.hid hx2
                clear hx2
                obtain ⟨y0, y1, y2, y3, y4, y5, y6, y7, y8, y9, y10, y11, y12, y13, y14, y15⟩ := RM.out.box16
                go_wp2_with fail
                go_region_held3 (fun W => W.cell? ⟨gw, 3, none⟩ = some (.int .i64 R) ∧ W.cell? ⟨gw, 4, none⟩ = some (.int .i64 R) ∧ W.cell? ⟨gw, 5, none⟩ = some (.slice (some ⟨L.gl, 0, none⟩) (R * R) L.cl)) (go_keep)
                  ((go_at_call 112; (with_reducible refine (AA2.out _ (by exact (Below.refl _ _).drew)).mono ?_); rintro e wx2 ⟨rfl, hb'⟩; have BX2 := Lib.hid (undrew hb'); have zx2 := BX2.out.size; have RX2 := Lib.hid (RM.out.below BX2.out (by omega)); obtain ⟨v0, v1, v2, v3, v4, v5, v6, v7, v8, v9, v10, v11, v12, v13, v14, v15⟩ := RX2.out.box16; obtain ⟨g', z7', eg, _, _, _, hcz, hfz⟩ := (HP1.out.below BX2.out (by omega)).at_ st2; cases eg; have hcz' : wx2.cell? ⟨L.gl, ((k : Int) * (R : Int) + (t' : Int)).toNat, none⟩ = some (.int .i64 z7') := (by rw [castI]; exact hcz); have hfz' : wx2.frozen? ⟨L.gl, ((k : Int) * (R : Int) + (t' : Int)).toNat, none⟩ = false := (by rw [castI]; exact hfz); clear hb'))
                have ho2 : ((k : Int) * (R : Int) + (t' : Int)).toNat = k * R + t' := by rw [castI]; rfl
                rw [ho2]
                have ON2 := Lib.hid ((HP1.out.below BX2.out (by omega)).set_ (k * R + t') (-x2))
                have KN2 := Lib.hid (Kept.set_ (p := ⟨L.gl, k * R + t', none⟩) (Kept.of_below BX2.out L.gl (L.gl + 1)) hlo2 hlt2 (.int .i64 (-x2)))
                clear y0 y1 y2 y3 y4 y5 y6 y7 y8 y9 y10 y11 y12 y13 y14 y15 v0 v1 v2 v3 v4 v5 v6 v7 v8 v9 v10 v11 v12 v13 v14 v15 hcz hfz hcz' hfz' ho2 hw21 hw22 wn2 c20 c21 c22
                obtain ⟨wz, hwz⟩ : ∃ wz, wz = wx2.setCell ⟨L.gl, k * R + t', none⟩ (.int .i64 (-x2)) := ⟨_, rfl⟩
                rw [← hwz] at ON2 KN2
                rw [← hwz]
                have zz2l : wr.heap.size ≤ wz.heap.size := KN2.out.size
                clear hwz hwm
                have RN := Lib.hid (RM.out.kept KN2.out (by have := HPS.out.w_l; omega))
                have HR2 := Lib.hid (HRS.out.kept_l HPS.out (by omega) KN2.out)
                have HP3 := Lib.hid (HP2.out.kept KN2.out (by omega) (by have := HPS.out.n_l_li; omega))
                have hwm : Sm.Win m2 := HWM2.out
                have st3 : t' * R + k < R * R := ij_lt (by omega) (by omega)
                have a30 : 0 ≤ (t' : Int) * (R : Int) := by rw [castM]; omega
                have a31 : (t' : Int) * (R : Int) ≤ 2304 := by rw [castM]; have := Nat.mul_le_mul (show t' ≤ 48 by omega) (show R ≤ 48 by omega); omega
                have AA3 := Lib.hid (fun (W : World) (hW : Below wz.heap.size wz W) => at_spec R R (some ⟨L.gli, 0, none⟩) (R * R) L.cli m2 W ((HP3.out.below hW (by omega)).ints.more (by have := hW.size; omega)) (by have := rc_le (show R ≤ 48 by omega) (show R ≤ 48 by omega); omega) t' k _ a30 a31 (castI t' R k) st3)
                obtain ⟨x3, hx3⟩ : ∃ x, m2.getD (t' * R + k) 0 = x := ⟨_, rfl⟩
                have bx3 := (show Sm.Win m2 by assumption) (t' * R + k)
                rw [hx3] at AA3 bx3
                obtain ⟨bx30, bx31⟩ := bx3
                have wn3 : IntKind.i64.wrap (-x3) = -x3 := IntWalk.i64_in _ (by omega)
                have c30 : 0 ≤ (t' : Int) * (R : Int) + (k : Int) := by omega
                have c31 : (t' : Int) * (R : Int) + (k : Int) < ((R * R : Nat) : Int) := by rw [castI]; omega
                have c32 : (t' : Int) * (R : Int) + (k : Int) < (R : Int) * (R : Int) := by rw [castI, castM]; omega
                have hw31 : IntKind.i64.wrap ((t' : Int) * (R : Int)) = (t' : Int) * (R : Int) := IntWalk.i64_in _ (by omega)
                have hw32 : IntKind.i64.wrap ((t' : Int) * (R : Int) + (k : Int)) = (t' : Int) * (R : Int) + (k : Int) := IntWalk.i64_in _ (by rw [castI]; have := rc_le (show R ≤ 48 by omega) (show R ≤ 48 by omega); omega)
                obtain ⟨gx3, zz3, eg3, hlo3, hlt3, _, _, _⟩ := HP3.out.at_ st3
                cases eg3
                have ng32 : ¬ gw = L.gli := HPS.out.w_li
                have ng31 : ¬ L.gli = gw := Ne.symm ng32
                have gl3 : L.gli < wz.heap.size := by omega
                have HX3 := Lib.hid hx3
                clear hx3
                obtain ⟨y0, y1, y2, y3, y4, y5, y6, y7, y8, y9, y10, y11, y12, y13, y14, y15⟩ := RN.out.box16
                go_wp2_with fail
                go_region_held3 (fun W => W.cell? ⟨gw, 6, none⟩ = some (.int .i64 R) ∧ W.cell? ⟨gw, 7, none⟩ = some (.int .i64 R) ∧ W.cell? ⟨gw, 8, none⟩ = some (.slice (some ⟨L.gli, 0, none⟩) (R * R) L.cli)) (go_keep)
                  ((go_at_call 112; (with_reducible refine (AA3.out _ (by exact (Below.refl _ _).drew)).mono ?_); rintro e wx3 ⟨rfl, hb'⟩; have BX3 := Lib.hid (undrew hb'); have zx3 := BX3.out.size; have RX3 := Lib.hid (RN.out.below BX3.out (by omega)); obtain ⟨v0, v1, v2, v3, v4, v5, v6, v7, v8, v9, v10, v11, v12, v13, v14, v15⟩ := RX3.out.box16; obtain ⟨g', z7', eg, _, _, _, hcz, hfz⟩ := (HP3.out.below BX3.out (by omega)).at_ st3; cases eg; have hcz' : wx3.cell? ⟨L.gli, ((t' : Int) * (R : Int) + (k : Int)).toNat, none⟩ = some (.int .i64 z7') := (by rw [castI]; exact hcz); have hfz' : wx3.frozen? ⟨L.gli, ((t' : Int) * (R : Int) + (k : Int)).toNat, none⟩ = false := (by rw [castI]; exact hfz); clear hb'))
                have ho3 : ((t' : Int) * (R : Int) + (k : Int)).toNat = t' * R + k := by rw [castI]; rfl
                rw [ho3]
                have ON3 := Lib.hid ((HP3.out.below BX3.out (by omega)).set_ (t' * R + k) (-x3))
                have KN3 := Lib.hid (Kept.set_ (p := ⟨L.gli, t' * R + k, none⟩) (Kept.of_below BX3.out L.gli (L.gli + 1)) hlo3 hlt3 (.int .i64 (-x3)))
                clear y0 y1 y2 y3 y4 y5 y6 y7 y8 y9 y10 y11 y12 y13 y14 y15 v0 v1 v2 v3 v4 v5 v6 v7 v8 v9 v10 v11 v12 v13 v14 v15 hcz hfz hcz' hfz' ho3 hw31 hw32 wn3 c30 c31 c32
                have Q2 := Lib.hid (show Sm.negl (k * R) 1 sw.l (t' + 1) = m.set (k * R + t') (-x2) by rw [Sm.negl, HMM.out, Nat.mul_one, HX2.out])
                have Q3 := Lib.hid (show Sm.negl k R sw.li (t' + 1) = m2.set (t' * R + k) (-x3) by rw [Sm.negl, HMM2.out, Nat.add_comm k, HX3.out])
                clear hwm
                go_wp2
                go_roundw
                case rel => exact ⟨t' + 1, by omega, by go_num, by rw [Q2.out]; exact ON2.out.kept KN3.out (by omega) (by have := HPS.out.n_l_li; omega), by rw [Q3.out]; exact ON3.out, HR2.out.kept_li HPS.out (by omega) KN3.out, HKQ.out.trans ((KN2.out.wide (by omega) (by omega)).trans (KN3.out.wide (by omega) (by omega)))⟩
                case measure => simp [intOf]; omega
              · have htc : R = t' := by omega
                rw [← htc] at HP1 HP2
                have nlt2 : ¬ (t' : Int) < (R : Int) := by omega
                clear htc hlt9
                obtain ⟨y0, y1, y2, y3, y4, y5, y6, y7, y8, y9, y10, y11, y12, y13, y14, y15⟩ := RM.out.box16
                go_wp2
                go_ret
                refine PickSays.yes HE.out (K7.out.trans ((HKP.out.wide (by omega) (by omega)).trans (HKQ.out.wide (by omega) (by omega)))) ?_
                show Work L R C gw wr (Sm.place R C k p q s)
                rw [HPL.out, HPE.out, if_pos hneg]
                exact ⟨⟨HRS.out.d, HP1.out, HP2.out, HRS.out.r, HRS.out.ri⟩, HRS.out.row⟩

end Go.Proofs.Ytpojkahlllochaa
