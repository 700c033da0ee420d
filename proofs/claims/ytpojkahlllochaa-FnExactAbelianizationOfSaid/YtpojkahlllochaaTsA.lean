/- Contracts of the functions that change lines of a matrix, the specification's. No condition but those that each theorem names. -/
import Derived.Test.YtpojkahlllochaaSmS
namespace Go.Proofs.Ytpojkahlllochaa
open Go.RowKit

def Times2 (x y : Int) (w : World) (e : Ending) (w' : World) : Prop :=
  (mg (x * y) ≤ 2000000000000 → e = .returned (.tuple #[.int .i64 (x * y), .bool true])) ∧ (¬ mg (x * y) ≤ 2000000000000 → e = .returned (.tuple #[.int .i64 0, .bool false])) ∧ w = w'
set_option maxHeartbeats 1000000 in
theorem times2_spec (x y : Int) (w : World) (hx : -4000000000000 ≤ x ∧ x ≤ 4000000000000) (hy : -4000000000000 ≤ y ∧ y ≤ 4000000000000) :
    Calls Try.prog 163 #[.int .i64 x, .int .i64 y, .int .i64 2000000000000] w (Times2 x y w) := by
  by_cases hx0 : x = 0
  · subst hx0
    go_enter Try.func163, Try.ntmps163
    go_wp2
    go_ret2
    exact ⟨fun _ => by simp, fun h => absurd (by simp [mg]) h, rfl⟩
  have t : (x == 0) = false := by simpa using hx0
  have t' : (x != 0) = true := by simpa using hx0
  have y1 := mg_pos hx0
  have y2 := mg_le hx
  have y3 := mg_nonneg y
  have y4 := mg_le hy
  clear hx0
  go_enter Try.func163, Try.ntmps163
  go_wp2_with fail
  refine (abs_spec y 4000000000000 _ hy.1 hy.2 (by omega)).mono ?_
  rintro e w8 ⟨rfl, rfl⟩
  go_wp2_with fail
  refine (abs_spec x 4000000000000 _ hx.1 hx.2 (by omega)).mono ?_
  rintro e w8 ⟨rfl, rfl⟩
  by_cases hg : 2000000000000 / mg x < mg y
  · have d : decide (2000000000000 / mg x < mg y) = true := by simpa using hg
    go_wp2
    go_ret2
    have g1 := div_lt_mul y1 hg
    exact ⟨fun h => absurd h (by rw [mg_mul]; omega), fun _ => rfl, rfl⟩
  · have d : decide (2000000000000 / mg x < mg y) = false := by simpa using hg
    have g1 := le_div_mul y1 hg
    have g2 := mg_mul x y
    have g3 : -2000000000000 ≤ x * y ∧ x * y ≤ 2000000000000 := mg_ge (by omega)
    clear g1 g2
    go_wp2
    go_ret2
    exact ⟨fun _ => rfl, fun h => absurd (mg_le g3) h, rfl⟩
/-- What 'l02Sum' answers: the sum where it lies within the limit, else something beyond it. -/
theorem sum_spec (a q x : Int) (ha : -1000000000000 ≤ a ∧ a ≤ 1000000000000) (hx : -1000000000000 ≤ x ∧ x ≤ 1000000000000) (hq : -4000000000000 ≤ q ∧ q ≤ 4000000000000) :
    ∃ v, (∀ w, Calls Try.prog 159 #[.int .i64 a, .int .i64 q, .int .i64 x] w fun e w' => e = .returned (.int .i64 v) ∧ w = w') ∧ -3000000000000 ≤ v ∧ v ≤ 3000000000000 ∧
      ((-1000000000000 ≤ a - q * x ∧ a - q * x ≤ 1000000000000) → v = a - q * x) ∧ (¬ (-1000000000000 ≤ a - q * x ∧ a - q * x ≤ 1000000000000) → ¬ (-1000000000000 ≤ v ∧ v ≤ 1000000000000)) := by
  by_cases hm : mg (q * x) ≤ 2000000000000
  · have hb := mg_ge hm
    have HB := Lib.hid hb
    have HM := Lib.hid hm
    obtain ⟨p, hp⟩ : ∃ p, q * x = p := ⟨_, rfl⟩
    rw [hp] at hb HM
    obtain ⟨b0, b1⟩ := hb
    obtain ⟨a0, a1⟩ := ha
    have HP := Lib.hid hp
    refine ⟨a - p, fun w => ?_, by omega, by omega, fun _ => by rw [hp], fun h => by rw [hp] at h; exact h⟩
    clear hm hp
    go_enter Try.func159, Try.ntmps159
    go_wp2_with fail
    refine (times2_spec q x _ hq (by omega)).mono ?_
    rintro e w1 ⟨h1, _, rfl⟩
    obtain rfl := h1 (by rw [HP.out]; exact HM.out)
    rw [HP.out]
    clear h1
    go_wp2
    go_ret
    exact ⟨rfl, rfl⟩
  · have HM := Lib.hid hm
    refine ⟨3000000000000, fun w => ?_, by omega, by omega, fun h => ?_, fun _ => by omega⟩
    · clear hm
      go_enter Try.func159, Try.ntmps159
      go_wp2_with fail
      refine (times2_spec q x _ hq (by omega)).mono ?_
      rintro e w1 ⟨_, h2, rfl⟩
      obtain rfl := h2 (by have := HM.out; omega)
      clear h2
      go_wp2
      go_ret
      exact ⟨rfl, rfl⟩
    · exfalso
      apply hm
      apply mg_le
      omega

set_option maxHeartbeats 1000000 in
theorem put_yes (gw : Nat) (r q i j x : Int) (k : Nat) (A : Option Addr) (n c : Nat) (zs : List Int) (lo hi : Nat) (w : World) (h : Own w lo hi A n c zs) (hhi : hi ≤ w.heap.size) (hn : n ≤ 2304) (h0 : 0 ≤ i * q) (h1 : i * q ≤ 2304) (he : i * q + j = k) (hk : k < n) (hx : -1000000000000 ≤ x ∧ x ≤ 1000000000000) :
    Calls Try.prog 158 #[.pointer (some ⟨gw, 0, none⟩), .agg #[.int .i64 r, .int .i64 q, .slice A n c], .int .i64 i, .int .i64 j, .int .i64 x] w fun e w' => e = .returned (.tuple #[]) ∧ Own w' lo hi A n c (zs.set k x) ∧ Kept lo hi w w' := by
  obtain ⟨g, z, rfl, hlo, hlt, hz, hc, hf⟩ := h.at_ hk
  have hc' : w.cell? ⟨g, (i * q + j).toNat, none⟩ = some (.int .i64 z) := by rw [he]; exact hc
  have hf' : w.frozen? ⟨g, (i * q + j).toNat, none⟩ = false := by rw [he]; exact hf
  have b0 : 0 ≤ i * q + j := by omega
  have b1 : i * q + j < (n : Int) := by omega
  have hg : g < w.heap.size := by omega
  have H := Lib.hid h
  have HE := Lib.hid (show (i * q + j).toNat = k by omega)
  have d : decide (1000000000000 < mg x) = false := by simp only [decide_eq_false_iff_not]; have := mg_le hx; omega
  clear hc hf he h hz hk
  go_enter Try.func158, Try.ntmps158
  go_wp2_with fail
  refine (abs_spec x 4000000000000 _ (by omega) (by omega) (by omega)).mono ?_
  rintro e w8 ⟨rfl, rfl⟩
  go_wp2
  go_end0
  refine ⟨rfl, ?_, ?_⟩
  · rw [HE.out]
    exact (H.out.set_ k x).al (by simpa [World.setCell] using hhi) (al1 _ _)
  · exact (Kept.set_ (p := ⟨g, _, none⟩) (Kept.refl _ _ _) hlo hlt _).alloc _

set_option maxHeartbeats 1000000 in
theorem put_no (gw : Nat) (r q i j x : Int) (A : Option Addr) (n c : Nat) (cs : Array Value) (w : World) (h : Row w gw cs 132) (hs : cs.size = 16) (hx0 : -3000000000000 ≤ x ∧ x ≤ 3000000000000) (hx : ¬ (-1000000000000 ≤ x ∧ x ≤ 1000000000000)) :
    Calls Try.prog 158 #[.pointer (some ⟨gw, 0, none⟩), .agg #[.int .i64 r, .int .i64 q, .slice A n c], .int .i64 i, .int .i64 j, .int .i64 x] w fun e w' => e = .returned (.tuple #[]) ∧ Row w' gw (cs.setIfInBounds 15 (.bool true)) 132 ∧ Kept gw (gw + 1) w w' := by
  have H := Lib.hid h
  have hgw := h.lt
  have hc := cell_of_row w gw 15 cs _ (0, 0) h
  rw [Array.getElem?_eq_getElem (show 15 < cs.size by omega)] at hc
  have hf := frozen_of_row w gw 15 cs _ h
  obtain ⟨v, hv⟩ : ∃ v, cs[15]'(by omega) = v := ⟨_, rfl⟩
  rw [hv] at hc
  have d : decide (1000000000000 < mg x) = true := by
    simp only [decide_eq_true_eq]
    have : ¬ mg x ≤ 1000000000000 := fun g => hx (mg_ge g)
    omega
  clear hx h hv
  go_enter Try.func158, Try.ntmps158
  go_wp2_with fail
  refine (abs_spec x 4000000000000 _ (by omega) (by omega) (by omega)).mono ?_
  rintro e w8 ⟨rfl, rfl⟩
  go_wp2
  refine bodyPost_ret (results_none rfl _ _ _) rfl ?_
  exact ⟨rfl, (H.out.set_ (i := 15) (.bool true)).alloc _, (Kept.set_ (p := ⟨gw, 15, none⟩) (Kept.refl _ _ _) (Nat.le_refl _) (by dsimp only; omega) _).alloc _⟩

/-- What a change of a line answers, the specification's: the new list, or the mark that an entry would leave the limit. -/
def WorkSays (a0 a3 lo hi gw : Nat) (A : Option Addr) (n c : Nat) (cs : Array Value) (o : Option (List Int)) (w : World) (e : Ending) (w' : World) : Prop :=
  e = .returned (.tuple #[]) ∧ match o with
  | some l => Own w' lo hi A n c l ∧ Kept lo hi w w'
  | none => Row w' gw (cs.setIfInBounds 15 (.bool true)) 132 ∧ Kept a0 a3 w w'

set_option maxRecDepth 100000 in
set_option maxHeartbeats 8000000 in
theorem rows_spec (a0 a3 gw : Nat) (R C i k : Nat) (q : Int) (A : Option Addr) (n c : Nat) (l : List Int) (lo hi' : Nat) (cs : Array Value) (w : World) (h : Own w lo hi' A n c l) (hr : Row w gw cs 132) (hsz : cs.size = 16) (hbad : cs[15]? = some (.bool false))
    (h0 : a0 ≤ lo) (h1 : hi' ≤ a3) (h2 : a0 ≤ gw) (h3 : gw < a3) (h4 : a3 ≤ w.heap.size) (h5 : gw < lo ∨ hi' ≤ gw) (hn : n = R * C) (hR : R ≤ 48) (hC : C ≤ 48) (hi : i < R) (hk : k < R) (hq : -4000000000000 ≤ q ∧ q ≤ 4000000000000) (hwin : Sm.Win l) :
    Calls Try.prog 151 #[.pointer (some ⟨gw, 0, none⟩), .agg #[.int .i64 R, .int .i64 C, .slice A n c], .int .i64 i, .int .i64 k, .int .i64 q] w (WorkSays a0 a3 lo hi' gw A n c cs (Sm.subl (i * C) (k * C) 1 q l C) w) := by
  have p1 := rc_le hR hC
  have HN := Lib.hid hn
  have HSZ := Lib.hid hsz
  have HW := Lib.hid hwin
  have H := Lib.hid (h.al (by omega) (al1 w (Obj.cells #[.int .i64 R, .int .i64 C, .slice A n c] 77)))
  have G := Lib.hid (hr.alloc (Obj.cells #[.int .i64 R, .int .i64 C, .slice A n c] 77))
  have K0 := Lib.hid (Box3.new w 77 (.int .i64 R) (.int .i64 C) (.slice A n c))
  have HB0 := Lib.hid (al1 w (Obj.cells #[.int .i64 R, .int .i64 C, .slice A n c] 77))
  have HBD := Lib.hid hbad
  clear h hr hn hsz hbad hwin
  go_enter Try.func151, Try.ntmps151
  go_wp2
  obtain ⟨W0, hW0⟩ : ∃ W0, W0 = w.alloc (Obj.cells #[.int .i64 R, .int .i64 C, .slice A n c] 77) := ⟨_, rfl⟩
  have s0 : w.heap.size < W0.heap.size := by rw [hW0]; simp
  rw [← hW0] at K0 HB0 H G
  rw [← hW0]
  clear hW0
  go_loopw [10] (fun x wr => ∃ t : Nat, t ≤ C ∧ x = .int .i64 t ∧ Kept a0 a3 W0 wr ∧ ((∃ z, Sm.subl (i * C) (k * C) 1 q l t = some z ∧ Own wr lo hi' A n c z ∧ Row wr gw cs 132 ∧ Kept lo hi' W0 wr) ∨ (Sm.subl (i * C) (k * C) 1 q l C = none ∧ Row wr gw (cs.setIfInBounds 15 (.bool true)) 132))) (fun x _ => C - (intOf x).toNat)
  case atStart => exact ⟨0, Nat.zero_le _, rfl, Kept.refl _ _ _, .inl ⟨l, rfl, H.out, G.out, Kept.refl _ _ _⟩⟩
  case round =>
    obtain ⟨t, ht, rfl, hkept, hcase⟩ := hrel
    have HK := Lib.hid hkept
    have sz : W0.heap.size ≤ wr.heap.size := hkept.size
    have X1 := Lib.hid (K0.out.kept hkept s0 (by omega))
    clear hkept
    obtain ⟨k0, k1, k2⟩ := X1.out
    rcases hcase with ⟨z, hz, hown, hrow, hkl⟩ | ⟨hz, hrow⟩
    · have HZ := Lib.hid hz
      have HO := Lib.hid hown
      have HR := Lib.hid hrow
      have HKL := Lib.hid hkl
      have hwz := Sm.subl_win HW.out hz
      have HWZ := Lib.hid hwz
      have hcb := cell_of_row wr gw 15 cs _ (0, 0) hrow
      rw [HBD.out] at hcb
      clear hz hown hrow hkl hwz
      by_cases hlt : t < C
      · have st : i * C + t < R * C := ij_lt hi hlt
        have ss : k * C + t < R * C := ij_lt hk hlt
        obtain ⟨x, hx⟩ : ∃ x, z.getD (i * C + t) 0 = x := ⟨_, rfl⟩
        obtain ⟨y, hy⟩ : ∃ y, z.getD (k * C + t) 0 = y := ⟨_, rfl⟩
        have bx := HWZ.out (i * C + t)
        have by' := HWZ.out (k * C + t)
        rw [hx] at bx
        rw [hy] at by'
        obtain ⟨v, hv, v0, v1, v2, v3⟩ := sum_spec x q y bx by' hq
        have AT := fun (a b : Nat) (hs : a * C + b < R * C) (ha : a ≤ 48) (W : World) (hW : Below wr.heap.size wr W) => at_spec R C A n c z W ((HO.out.below hW (by omega)).ints.more (by have := hW.size; omega)) (by have := HN.out; omega) a b _ (by rw [castM]; omega) (by rw [castM]; have := Nat.mul_le_mul ha hC; omega) (castI a C b) (by rw [HN.out]; exact hs)
        have AX := Lib.hid (AT i t st (by omega))
        have AY := Lib.hid (AT k t ss (by omega))
        rw [hx] at AX
        rw [hy] at AY
        have HV := Lib.hid hv
        have o1 : (i * C) + t * 1 = i * C + t := by rw [Nat.mul_one]
        have o2 : (k * C) + t * 1 = k * C + t := by rw [Nat.mul_one]
        have step : ∀ P : Prop, (-1000000000000 ≤ x - q * y ∧ x - q * y ≤ 1000000000000 → Sm.subl (i * C) (k * C) 1 q l (t + 1) = some (z.set (i * C + t) (x - q * y)) → P) → (¬ (-1000000000000 ≤ x - q * y ∧ x - q * y ≤ 1000000000000) → Sm.subl (i * C) (k * C) 1 q l (t + 1) = none → P) → P := by
          intro P f1 f2
          by_cases hf : -1000000000000 ≤ x - q * y ∧ x - q * y ≤ 1000000000000
          · exact f1 hf (by rw [Sm.subl, HZ.out]; dsimp only; rw [o1, o2, hx, hy, if_pos hf])
          · exact f2 hf (by rw [Sm.subl, HZ.out]; dsimp only; rw [o1, o2, hx, hy, if_neg hf])
        have V2 := Lib.hid v2
        have V3 := Lib.hid v3
        have STEP := Lib.hid step
        clear AT hx hy bx by' hv v2 v3 o1 o2 step
        refine STEP.out _ ?_ ?_
        · intro hf hnext
          have HNX := Lib.hid hnext
          have hve := V2.out hf
          have HVE := Lib.hid hve
          have hvb : -1000000000000 ≤ v ∧ v ≤ 1000000000000 := by rw [hve]; exact hf
          have HVB := Lib.hid hvb
          clear hf hnext hve hvb
          go_wp2_with fail
          go_region_held3 (fun W => W.cell? ⟨w.heap.size, 0, none⟩ = some (.int .i64 R) ∧ W.cell? ⟨w.heap.size, 1, none⟩ = some (.int .i64 C) ∧ W.cell? ⟨w.heap.size, 2, none⟩ = some (.slice A n c)) (go_keep)
            (first
              | (go_at_call 112; (with_reducible refine (AX.out _ (by exact (Below.refl _ _).drew)).mono ?_); rintro e w6 ⟨rfl, hb'⟩; have B6 := Lib.hid (undrew hb'); have z6 := B6.out.size; obtain ⟨e0, e1, e2⟩ := X1.out.below B6.out (by omega); clear hb')
              | (go_at_call 112; (with_reducible refine (AY.out _ (by exact B6.out)).mono ?_); rintro e w7 ⟨rfl, hb'⟩; have B7 := Lib.hid (B6.out.trans (hb'.mono z6)); have z7 := B7.out.size; obtain ⟨f0, f1, f2⟩ := X1.out.below B7.out (by omega); clear hb')
              | (go_at_call 159; (with_reducible refine (HV.out _).mono ?_); rintro e w8 ⟨rfl, rfl⟩)
              | (go_at_call 158; (with_reducible refine (put_yes gw R C i t v _ A n c z lo hi' _ (by exact HO.out.below B7.out (by omega)) (by omega) (by have := HN.out; omega) (by rw [castM]; omega) (by rw [castM]; have := Nat.mul_le_mul (show i ≤ 48 by omega) hC; omega) (castI i C t) (by rw [HN.out]; exact st) HVB.out).mono ?_); rintro e w9 ⟨rfl, hown, hk9⟩; have O9 := Lib.hid hown; have K9 := Lib.hid hk9; obtain ⟨g0, g1, g2⟩ := (X1.out.below B7.out (by omega)).kept hk9 (by omega) (by omega); clear hown hk9))
          clear k0 k1 k2 e0 e1 e2 f0 f1 f2 g0 g1 g2 hcb
          have L9 := Lib.hid ((HKL.out.trans (Kept.of_below B7.out _ _)).trans K9.out)
          have R9 := Lib.hid ((HR.out.below B7.out (by omega)).kept K9.out (by omega))
          go_wp2
          go_roundw
          case rel => exact ⟨t + 1, by omega, by go_num, L9.out.wide h0 h1, .inl ⟨_, HNX.out, by rw [← HVE.out]; exact O9.out, R9.out, L9.out⟩⟩
          case measure => simp [intOf]; omega
        · intro hf hnext
          have hnn := subl_none hnext (show t + 1 ≤ C by omega)
          have HNX := Lib.hid hnn
          have HVB := Lib.hid (V3.out hf)
          clear hf hnext hnn
          go_wp2_with fail
          go_region_held3 (fun W => W.cell? ⟨w.heap.size, 0, none⟩ = some (.int .i64 R) ∧ W.cell? ⟨w.heap.size, 1, none⟩ = some (.int .i64 C) ∧ W.cell? ⟨w.heap.size, 2, none⟩ = some (.slice A n c)) (go_keep)
            (first
              | (go_at_call 112; (with_reducible refine (AX.out _ (by exact (Below.refl _ _).drew)).mono ?_); rintro e w6 ⟨rfl, hb'⟩; have B6 := Lib.hid (undrew hb'); have z6 := B6.out.size; obtain ⟨e0, e1, e2⟩ := X1.out.below B6.out (by omega); clear hb')
              | (go_at_call 112; (with_reducible refine (AY.out _ (by exact B6.out)).mono ?_); rintro e w7 ⟨rfl, hb'⟩; have B7 := Lib.hid (B6.out.trans (hb'.mono z6)); have z7 := B7.out.size; obtain ⟨f0, f1, f2⟩ := X1.out.below B7.out (by omega); clear hb')
              | (go_at_call 159; (with_reducible refine (HV.out _).mono ?_); rintro e w8 ⟨rfl, rfl⟩)
              | (go_at_call 158; (with_reducible refine (put_no gw R C i t v A n c cs _ (by exact HR.out.below B7.out (by omega)) HSZ.out (by omega) HVB.out).mono ?_); rintro e w9 ⟨rfl, hown, hk9⟩; have O9 := Lib.hid hown; have K9 := Lib.hid hk9; obtain ⟨g0, g1, g2⟩ := (X1.out.below B7.out (by omega)).kept hk9 (by omega) (by omega); clear hown hk9))
          clear k0 k1 k2 e0 e1 e2 f0 f1 f2 g0 g1 g2 hcb
          have L9 := Lib.hid ((HK.out.trans (Kept.of_below B7.out _ _)).trans (K9.out.wide (by omega) (by omega)))
          go_wp2
          go_roundw
          case rel => exact ⟨t + 1, by omega, by go_num, L9.out, .inr ⟨HNX.out, O9.out⟩⟩
          case measure => simp [intOf]; omega
      · obtain rfl : t = C := by omega
        go_wp2
        go_end0
        rw [HZ.out]
        exact ⟨rfl, HO.out, (Kept.of_below HB0.out _ _).trans HKL.out⟩
    · have HZ := Lib.hid hz
      have HR := Lib.hid hrow
      have hcb := cell_of_row wr gw 15 _ _ (0, 0) hrow
      rw [Array.getElem?_setIfInBounds_self_of_lt (by rw [HSZ.out]; omega)] at hcb
      clear hz hrow
      by_cases hlt : t < C
      all_goals
        go_wp2
        go_end0
        rw [HZ.out]
        exact ⟨rfl, HR.out, (Kept.of_below HB0.out _ _).trans HK.out⟩

set_option maxRecDepth 100000 in
set_option maxHeartbeats 8000000 in
theorem cols_spec (a0 a3 gw : Nat) (R C i k : Nat) (q : Int) (A : Option Addr) (n c : Nat) (l : List Int) (lo hi' : Nat) (cs : Array Value) (w : World) (h : Own w lo hi' A n c l) (hr : Row w gw cs 132) (hsz : cs.size = 16) (hbad : cs[15]? = some (.bool false))
    (h0 : a0 ≤ lo) (h1 : hi' ≤ a3) (h2 : a0 ≤ gw) (h3 : gw < a3) (h4 : a3 ≤ w.heap.size) (h5 : gw < lo ∨ hi' ≤ gw) (hn : n = R * C) (hR : R ≤ 48) (hC : C ≤ 48) (hi : i < C) (hk : k < C) (hq : -4000000000000 ≤ q ∧ q ≤ 4000000000000) (hwin : Sm.Win l) :
    Calls Try.prog 152 #[.pointer (some ⟨gw, 0, none⟩), .agg #[.int .i64 R, .int .i64 C, .slice A n c], .int .i64 i, .int .i64 k, .int .i64 q] w (WorkSays a0 a3 lo hi' gw A n c cs (Sm.subl i k C q l R) w) := by
  have p1 := rc_le hR hC
  have HN := Lib.hid hn
  have HSZ := Lib.hid hsz
  have HW := Lib.hid hwin
  have H := Lib.hid (h.al (by omega) (al1 w (Obj.cells #[.int .i64 R, .int .i64 C, .slice A n c] 77)))
  have G := Lib.hid (hr.alloc (Obj.cells #[.int .i64 R, .int .i64 C, .slice A n c] 77))
  have K0 := Lib.hid (Box3.new w 77 (.int .i64 R) (.int .i64 C) (.slice A n c))
  have HB0 := Lib.hid (al1 w (Obj.cells #[.int .i64 R, .int .i64 C, .slice A n c] 77))
  have HBD := Lib.hid hbad
  clear h hr hn hsz hbad hwin
  go_enter Try.func152, Try.ntmps152
  go_wp2
  obtain ⟨W0, hW0⟩ : ∃ W0, W0 = w.alloc (Obj.cells #[.int .i64 R, .int .i64 C, .slice A n c] 77) := ⟨_, rfl⟩
  have s0 : w.heap.size < W0.heap.size := by rw [hW0]; simp
  rw [← hW0] at K0 HB0 H G
  rw [← hW0]
  clear hW0
  go_loopw [10] (fun x wr => ∃ t : Nat, t ≤ R ∧ x = .int .i64 t ∧ Kept a0 a3 W0 wr ∧ ((∃ z, Sm.subl i k C q l t = some z ∧ Own wr lo hi' A n c z ∧ Row wr gw cs 132 ∧ Kept lo hi' W0 wr) ∨ (Sm.subl i k C q l R = none ∧ Row wr gw (cs.setIfInBounds 15 (.bool true)) 132))) (fun x _ => R - (intOf x).toNat)
  case atStart => exact ⟨0, Nat.zero_le _, rfl, Kept.refl _ _ _, .inl ⟨l, rfl, H.out, G.out, Kept.refl _ _ _⟩⟩
  case round =>
    obtain ⟨t, ht, rfl, hkept, hcase⟩ := hrel
    have HK := Lib.hid hkept
    have sz : W0.heap.size ≤ wr.heap.size := hkept.size
    have X1 := Lib.hid (K0.out.kept hkept s0 (by omega))
    clear hkept
    obtain ⟨k0, k1, k2⟩ := X1.out
    rcases hcase with ⟨z, hz, hown, hrow, hkl⟩ | ⟨hz, hrow⟩
    · have HZ := Lib.hid hz
      have HO := Lib.hid hown
      have HR := Lib.hid hrow
      have HKL := Lib.hid hkl
      have hwz := Sm.subl_win HW.out hz
      have HWZ := Lib.hid hwz
      have hcb := cell_of_row wr gw 15 cs _ (0, 0) hrow
      rw [HBD.out] at hcb
      clear hz hown hrow hkl hwz
      by_cases hlt : t < R
      · have st : t * C + i < R * C := ij_lt hlt hi
        have ss : t * C + k < R * C := ij_lt hlt hk
        obtain ⟨x, hx⟩ : ∃ x, z.getD (t * C + i) 0 = x := ⟨_, rfl⟩
        obtain ⟨y, hy⟩ : ∃ y, z.getD (t * C + k) 0 = y := ⟨_, rfl⟩
        have bx := HWZ.out (t * C + i)
        have by' := HWZ.out (t * C + k)
        rw [hx] at bx
        rw [hy] at by'
        obtain ⟨v, hv, v0, v1, v2, v3⟩ := sum_spec x q y bx by' hq
        have AT := fun (a b : Nat) (hs : a * C + b < R * C) (ha : a ≤ 48) (W : World) (hW : Below wr.heap.size wr W) => at_spec R C A n c z W ((HO.out.below hW (by omega)).ints.more (by have := hW.size; omega)) (by have := HN.out; omega) a b _ (by rw [castM]; omega) (by rw [castM]; have := Nat.mul_le_mul ha hC; omega) (castI a C b) (by rw [HN.out]; exact hs)
        have AX := Lib.hid (AT t i st (by omega))
        have AY := Lib.hid (AT t k ss (by omega))
        rw [hx] at AX
        rw [hy] at AY
        have HV := Lib.hid hv
        have o1 : i + t * C = t * C + i := by omega
        have o2 : k + t * C = t * C + k := by omega
        have step : ∀ P : Prop, (-1000000000000 ≤ x - q * y ∧ x - q * y ≤ 1000000000000 → Sm.subl i k C q l (t + 1) = some (z.set (t * C + i) (x - q * y)) → P) → (¬ (-1000000000000 ≤ x - q * y ∧ x - q * y ≤ 1000000000000) → Sm.subl i k C q l (t + 1) = none → P) → P := by
          intro P f1 f2
          by_cases hf : -1000000000000 ≤ x - q * y ∧ x - q * y ≤ 1000000000000
          · exact f1 hf (by rw [Sm.subl, HZ.out]; dsimp only; rw [o1, o2, hx, hy, if_pos hf])
          · exact f2 hf (by rw [Sm.subl, HZ.out]; dsimp only; rw [o1, o2, hx, hy, if_neg hf])
        have V2 := Lib.hid v2
        have V3 := Lib.hid v3
        have STEP := Lib.hid step
        clear AT hx hy bx by' hv v2 v3 o1 o2 step
        refine STEP.out _ ?_ ?_
        · intro hf hnext
          have HNX := Lib.hid hnext
          have hve := V2.out hf
          have HVE := Lib.hid hve
          have hvb : -1000000000000 ≤ v ∧ v ≤ 1000000000000 := by rw [hve]; exact hf
          have HVB := Lib.hid hvb
          clear hf hnext hve hvb
          go_wp2_with fail
          go_region_held3 (fun W => W.cell? ⟨w.heap.size, 0, none⟩ = some (.int .i64 R) ∧ W.cell? ⟨w.heap.size, 1, none⟩ = some (.int .i64 C) ∧ W.cell? ⟨w.heap.size, 2, none⟩ = some (.slice A n c)) (go_keep)
            (first
              | (go_at_call 112; (with_reducible refine (AX.out _ (by exact (Below.refl _ _).drew)).mono ?_); rintro e w6 ⟨rfl, hb'⟩; have B6 := Lib.hid (undrew hb'); have z6 := B6.out.size; obtain ⟨e0, e1, e2⟩ := X1.out.below B6.out (by omega); clear hb')
              | (go_at_call 112; (with_reducible refine (AY.out _ (by exact B6.out)).mono ?_); rintro e w7 ⟨rfl, hb'⟩; have B7 := Lib.hid (B6.out.trans (hb'.mono z6)); have z7 := B7.out.size; obtain ⟨f0, f1, f2⟩ := X1.out.below B7.out (by omega); clear hb')
              | (go_at_call 159; (with_reducible refine (HV.out _).mono ?_); rintro e w8 ⟨rfl, rfl⟩)
              | (go_at_call 158; (with_reducible refine (put_yes gw R C t i v _ A n c z lo hi' _ (by exact HO.out.below B7.out (by omega)) (by omega) (by have := HN.out; omega) (by rw [castM]; omega) (by rw [castM]; have := Nat.mul_le_mul (show t ≤ 48 by omega) hC; omega) (castI t C i) (by rw [HN.out]; exact st) HVB.out).mono ?_); rintro e w9 ⟨rfl, hown, hk9⟩; have O9 := Lib.hid hown; have K9 := Lib.hid hk9; obtain ⟨g0, g1, g2⟩ := (X1.out.below B7.out (by omega)).kept hk9 (by omega) (by omega); clear hown hk9))
          clear k0 k1 k2 e0 e1 e2 f0 f1 f2 g0 g1 g2 hcb
          have L9 := Lib.hid ((HKL.out.trans (Kept.of_below B7.out _ _)).trans K9.out)
          have R9 := Lib.hid ((HR.out.below B7.out (by omega)).kept K9.out (by omega))
          go_wp2
          go_roundw
          case rel => exact ⟨t + 1, by omega, by go_num, L9.out.wide h0 h1, .inl ⟨_, HNX.out, by rw [← HVE.out]; exact O9.out, R9.out, L9.out⟩⟩
          case measure => simp [intOf]; omega
        · intro hf hnext
          have hnn := subl_none hnext (show t + 1 ≤ R by omega)
          have HNX := Lib.hid hnn
          have HVB := Lib.hid (V3.out hf)
          clear hf hnext hnn
          go_wp2_with fail
          go_region_held3 (fun W => W.cell? ⟨w.heap.size, 0, none⟩ = some (.int .i64 R) ∧ W.cell? ⟨w.heap.size, 1, none⟩ = some (.int .i64 C) ∧ W.cell? ⟨w.heap.size, 2, none⟩ = some (.slice A n c)) (go_keep)
            (first
              | (go_at_call 112; (with_reducible refine (AX.out _ (by exact (Below.refl _ _).drew)).mono ?_); rintro e w6 ⟨rfl, hb'⟩; have B6 := Lib.hid (undrew hb'); have z6 := B6.out.size; obtain ⟨e0, e1, e2⟩ := X1.out.below B6.out (by omega); clear hb')
              | (go_at_call 112; (with_reducible refine (AY.out _ (by exact B6.out)).mono ?_); rintro e w7 ⟨rfl, hb'⟩; have B7 := Lib.hid (B6.out.trans (hb'.mono z6)); have z7 := B7.out.size; obtain ⟨f0, f1, f2⟩ := X1.out.below B7.out (by omega); clear hb')
              | (go_at_call 159; (with_reducible refine (HV.out _).mono ?_); rintro e w8 ⟨rfl, rfl⟩)
              | (go_at_call 158; (with_reducible refine (put_no gw R C t i v A n c cs _ (by exact HR.out.below B7.out (by omega)) HSZ.out (by omega) HVB.out).mono ?_); rintro e w9 ⟨rfl, hown, hk9⟩; have O9 := Lib.hid hown; have K9 := Lib.hid hk9; obtain ⟨g0, g1, g2⟩ := (X1.out.below B7.out (by omega)).kept hk9 (by omega) (by omega); clear hown hk9))
          clear k0 k1 k2 e0 e1 e2 f0 f1 f2 g0 g1 g2 hcb
          have L9 := Lib.hid ((HK.out.trans (Kept.of_below B7.out _ _)).trans (K9.out.wide (by omega) (by omega)))
          go_wp2
          go_roundw
          case rel => exact ⟨t + 1, by omega, by go_num, L9.out, .inr ⟨HNX.out, O9.out⟩⟩
          case measure => simp [intOf]; omega
      · obtain rfl : t = R := by omega
        go_wp2
        go_end0
        rw [HZ.out]
        exact ⟨rfl, HO.out, (Kept.of_below HB0.out _ _).trans HKL.out⟩
    · have HZ := Lib.hid hz
      have HR := Lib.hid hrow
      have hcb := cell_of_row wr gw 15 _ _ (0, 0) hrow
      rw [Array.getElem?_setIfInBounds_self_of_lt (by rw [HSZ.out]; omega)] at hcb
      clear hz hrow
      by_cases hlt : t < R
      all_goals
        go_wp2
        go_end0
        rw [HZ.out]
        exact ⟨rfl, HR.out, (Kept.of_below HB0.out _ _).trans HK.out⟩

end Go.Proofs.Ytpojkahlllochaa
