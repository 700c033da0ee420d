/- Contracts of the functions that hold a determinant's rows against the limit, the program's and the specification's. No condition but those that each theorem names. -/
import Derived.Test.YtdbljeglnhefmaaMatL
namespace Go.Proofs.Ytdbljeglnhefmaa
open Go.RowKit

/-- The sum of the absolute values of the first k entries of row i. -/
def rsum (K : Nat) (zs : List Int) (i : Nat) : Nat → Int
  | 0 => 0
  | k + 1 => rsum K zs i k + mg (zs.getD (i * K + k) 0)
theorem rsum_nonneg (K : Nat) (zs : List Int) (i k : Nat) : 0 ≤ rsum K zs i k := by
  induction k with
  | zero => simp [rsum]
  | succ k ih => rw [rsum]; have := mg_nonneg (zs.getD (i * K + k) 0); omega
/-- At least 1. -/
def mx1 (x : Int) : Int := if 1 < x then x else 1
theorem mx1_ge (x : Int) : 1 ≤ mx1 x := by unfold mx1; split <;> omega
theorem mx1_lo {x : Int} (h : ¬ 1 < x) : mx1 x = 1 := by unfold mx1; rw [if_neg h]
theorem mx1_hi {x : Int} (h : 1 < x) : mx1 x = x := by unfold mx1; rw [if_pos h]
theorem mx1_le {x b : Int} (h : x ≤ b) (hb : 1 ≤ b) : mx1 x ≤ b := by unfold mx1; split <;> omega
/-- The product over the first t rows. -/
def vol (K : Nat) (zs : List Int) : Nat → Int
  | 0 => 1
  | t + 1 => vol K zs t * mx1 (rsum K zs t K)
theorem vol_ge (K : Nat) (zs : List Int) (t : Nat) : 1 ≤ vol K zs t := by
  induction t with
  | zero => simp [vol]
  | succ t ih =>
    rw [vol]
    have := Int.mul_le_mul ih (mx1_ge (rsum K zs t K)) (by omega) (by omega)
    omega
theorem vol_mono (K : Nat) (zs : List Int) {t u : Nat} (h : t ≤ u) : vol K zs t ≤ vol K zs u := by
  induction u with
  | zero => have : t = 0 := by omega
            subst this; omega
  | succ u ih =>
    by_cases e : t = u + 1
    · subst e; omega
    · have h1 := ih (by omega)
      rw [vol]
      have := Int.mul_le_mul_of_nonneg_left (mx1_ge (rsum K zs u K)) (by have := vol_ge K zs u; omega : 0 ≤ vol K zs u)
      omega

/-- The bound of an entry. -/
def B12 (zs : List Int) : Prop := ∀ i, i < zs.length → -1000000000000 ≤ zs.getD i 0 ∧ zs.getD i 0 ≤ 1000000000000
theorem rsum_le (K : Nat) (zs : List Int) (i k : Nat) (h : B12 zs) (hk : ∀ j, j < k → i * K + j < zs.length) : rsum K zs i k ≤ 1000000000000 * k := by
  induction k with
  | zero => simp [rsum]
  | succ k ih =>
    rw [rsum]
    have h1 := ih (fun j hj => hk j (by omega))
    have h2 := mg_le (h _ (hk k (by omega)))
    omega

set_option maxHeartbeats 1000000 in
theorem rowSum_impl (R K : Nat) (A : Option Addr) (n c i : Nat) (zs : List Int) (w : World) (h : Ints w w.heap.size A n zs) (hR : R ≤ 48) (hK : K ≤ 48) (hP : MOk R K zs) (hi : i < R) :
    Calls Try.prog 85 #[.agg #[.int .i64 R, .int .i64 K, .slice A n c], .int .i64 i] w fun e w' => e = .returned (.int .i64 (rsum K zs i K)) ∧ Below w.heap.size w w' := by
  have hn : n = R * K := by have h1 := hP.2.2.2.2.1; rw [h.1, castM] at h1; exact_mod_cast h1
  have p1 := rc_le hR hK
  have HN := Lib.hid hn
  have H := Lib.hid h
  have HP := Lib.hid hP
  have K0 := Lib.hid (Box3.new w 27 (.int .i64 R) (.int .i64 K) (.slice A n c))
  have HB0 := Lib.hid (al1 w (Obj.cells #[.int .i64 R, .int .i64 K, .slice A n c] 27))
  clear h hP hn
  go_enter Try.func85, Try.ntmps85
  go_wp2
  obtain ⟨W0, hW0⟩ : ∃ W0, W0 = (w.alloc (Obj.cells #[.int .i64 R, .int .i64 K, .slice A n c] 27)) := ⟨_, rfl⟩
  have s0 : w.heap.size < W0.heap.size := by rw [hW0]; simp
  rw [← hW0] at K0 HB0
  rw [← hW0]
  clear hW0
  go_loopw [9, 5] (fun x s wr => ∃ k : Nat, k ≤ K ∧ x = .int .i64 k ∧ s = .int .i64 (rsum K zs i k) ∧ Below W0.heap.size W0 wr) (fun x _ _ => K - (intOf x).toNat)
  case atStart => exact ⟨0, Nat.zero_le _, rfl, rfl, Below.refl _ _⟩
  case round =>
    obtain ⟨k, hk, rfl, rfl, hbel⟩ := hrel
    have HW := Lib.hid hbel
    have HBw := Lib.hid (HB0.out.trans (hbel.mono (by omega)))
    have sz : W0.heap.size ≤ wr.heap.size := hbel.size
    clear hbel
    by_cases hlt : k < K
    · have hs1 := ij_lt hi hlt
      have a0 : 0 ≤ (i : Int) * (K : Int) := by rw [castM]; omega
      have a1 : (i : Int) * (K : Int) ≤ 2304 := by rw [castM]; omega
      have hlen : zs.length = R * K := by rw [H.out.1, HN.out]
      have m0 := rsum_nonneg K zs i k
      have m1 := rsum_le K zs i k HP.out.2.2.2.2.2 (fun j hj => by have := ij_lt hi (show j < K by omega); omega)
      have hx := HP.out.2.2.2.2.2 (i * K + k) (by omega)
      have hg := mg_le hx
      have hg0 := mg_nonneg (zs.getD (i * K + k) 0)
      have q : rsum K zs i (k + 1) = rsum K zs i k + mg (zs.getD (i * K + k) 0) := rfl
      obtain ⟨x, hzx⟩ : ∃ x, zs.getD (i * K + k) 0 = x := ⟨_, rfl⟩
      obtain ⟨s, hs⟩ : ∃ s, rsum K zs i k = s := ⟨_, rfl⟩
      have AX := Lib.hid (fun (W : World) (hW : Below w.heap.size w W) => at_impl R K A n c zs W (H.out.into hW) (by have := HN.out; omega) i k _ a0 a1 (castI i K k) (by rw [HN.out]; exact hs1))
      rw [hzx] at AX hx hg hg0 q
      rw [hs] at m0 m1 q
      rw [hs]
      have Q := Lib.hid q
      clear hzx hs q a0 a1 hs1 hlen
      have X1 := Lib.hid (K0.out.below HW.out (by omega))
      obtain ⟨k0, k1, k2⟩ := X1.out
      go_wp2_with fail
      refine (AX.out _ HBw.out).mono ?_
      rintro e w6 ⟨rfl, hb6⟩
      have D6 := Lib.hid (HW.out.trans (hb6.mono (by omega)))
      clear k0 k1 k2 hb6
      go_wp2_with fail
      refine (mag_impl x 1000000000000 _ hx.1 hx.2 (by omega)).mono ?_
      rintro e w8 ⟨rfl, rfl⟩
      go_wp2
      go_roundw
      case rel => exact ⟨k + 1, by omega, by go_num, by rw [Q.out], D6.out⟩
      case measure => simp [intOf]; omega
    · obtain rfl : k = K := by omega
      go_wp2
      go_ret
      exact ⟨rfl, HBw.out⟩

/-- The volume stays within the limit. -/
def VolOk (n : Nat) (zs : List Int) : Prop := vol n zs n ≤ 1000000000

set_option maxHeartbeats 1000000 in
theorem exceeds_impl (K : Nat) (A : Option Addr) (n c : Nat) (zs : List Int) (w : World) (h : Ints w w.heap.size A n zs) (hK : K ≤ 48) (hP : MOk K K zs) :
    Calls Try.prog 66 #[.agg #[.int .i64 K, .int .i64 K, .slice A n c]] w (SaysB (¬ VolOk K zs) w.heap.size w) := by
  have hn : n = K * K := by have h1 := hP.2.2.2.2.1; rw [h.1, castM] at h1; exact_mod_cast h1
  have p1 := rc_le hK hK
  have HN := Lib.hid hn
  have H := Lib.hid h
  have HP := Lib.hid hP
  have K0 := Lib.hid (Box3.new w 27 (.int .i64 K) (.int .i64 K) (.slice A n c))
  have HB0 := Lib.hid (al1 w (Obj.cells #[.int .i64 K, .int .i64 K, .slice A n c] 27))
  clear h hP hn
  go_enter Try.func66, Try.ntmps66
  go_wp2
  obtain ⟨W0, hW0⟩ : ∃ W0, W0 = (w.alloc (Obj.cells #[.int .i64 K, .int .i64 K, .slice A n c] 27)) := ⟨_, rfl⟩
  have s0 : w.heap.size < W0.heap.size := by rw [hW0]; simp
  rw [← hW0] at K0 HB0
  rw [← hW0]
  clear hW0
  go_loopw [8, 3] (fun x s wr => ∃ t : Nat, t ≤ K ∧ x = .int .i64 t ∧ s = .int .i64 (vol K zs t) ∧ vol K zs t ≤ 1000000000 ∧ Below W0.heap.size W0 wr) (fun x _ _ => K - (intOf x).toNat)
  case atStart => exact ⟨0, Nat.zero_le _, rfl, rfl, by simp [vol], Below.refl _ _⟩
  case round =>
    obtain ⟨t, ht, rfl, rfl, hv, hbel⟩ := hrel
    have HW := Lib.hid hbel
    have HBw := Lib.hid (HB0.out.trans (hbel.mono (by omega)))
    have sz : W0.heap.size ≤ wr.heap.size := hbel.size
    clear hbel
    have hv1 := vol_ge K zs t
    by_cases hlt : t < K
    · have hlen : zs.length = K * K := by rw [H.out.1, HN.out]
      have m0 := rsum_nonneg K zs t K
      have m1 := rsum_le K zs t K HP.out.2.2.2.2.2 (fun j hj => by have := ij_lt hlt hj; omega)
      have q : vol K zs (t + 1) = vol K zs t * mx1 (rsum K zs t K) := rfl
      have qm := vol_mono K zs (t := t + 1) (u := K) (by omega)
      have QM := Lib.hid qm
      obtain ⟨v, hvv⟩ : ∃ v, vol K zs t = v := ⟨_, rfl⟩
      obtain ⟨s, hs⟩ : ∃ s, rsum K zs t K = s := ⟨_, rfl⟩
      have RS := Lib.hid (fun (W : World) (hW : Below w.heap.size w W) => rowSum_impl K K A n c t zs W (H.out.into hW) hK hK HP.out hlt)
      rw [hs] at RS m0 m1 q
      rw [hvv] at hv hv1 q
      rw [hvv]
      have Q := Lib.hid q
      have X1 := Lib.hid (K0.out.below HW.out (by omega))
      clear hs hvv q hlen qm
      obtain ⟨k0, k1, k2⟩ := X1.out
      go_wp2_with fail
      refine (RS.out _ HBw.out).mono ?_
      rintro e w6 ⟨rfl, hb6⟩
      have D6 := Lib.hid (HW.out.trans (hb6.mono (by omega)))
      have E6 := Lib.hid (HBw.out.trans (hb6.mono HBw.out.size))
      clear k0 k1 k2 hb6
      have hd0 : 0 ≤ 1000000000 / v := Int.ediv_nonneg (by omega) (by omega)
      by_cases h1 : ¬ 1 < s
      · have e1 := mx1_lo h1
        by_cases hg : 1000000000 / v < 1
        · have g1 := div_lt_mul hv1 hg
          omega
        · have E1 := Lib.hid e1
          clear e1
          go_wp2
          go_roundw
          case rel => exact ⟨t + 1, by omega, by go_num, by rw [Q.out, E1.out]; go_num, by rw [Q.out, E1.out]; omega, D6.out⟩
          case measure => simp [intOf]; omega
      · have h1 : 1 < s := by omega
        have e1 := mx1_hi h1
        have E1 := Lib.hid e1
        clear e1
        by_cases hg : 1000000000 / v < s
        · have g1 := Lib.hid (div_lt_mul hv1 hg)
          go_wp2
          go_ret
          exact ⟨_, rfl, ⟨fun _ => fun hh => (by
            have h2 : vol K zs K ≤ 1000000000 := hh
            have h3 := QM.out
            have h4 := g1.out
            rw [Q.out, E1.out] at h3
            omega), fun _ => rfl⟩, E6.out⟩
        · have g1 := le_div_mul hv1 hg
          have g2 : 0 ≤ v * s := Int.mul_nonneg (by omega) (by omega)
          go_wp2
          go_roundw
          case rel => exact ⟨t + 1, by omega, by go_num, by rw [Q.out, E1.out], by rw [Q.out, E1.out]; exact g1, D6.out⟩
          case measure => simp [intOf]; omega
    · obtain rfl : t = K := by omega
      have HV := Lib.hid hv
      clear hv
      go_wp2
      go_ret
      exact ⟨_, rfl, ⟨fun h => (by simp at h), fun h => absurd HV.out h⟩, HBw.out⟩

set_option maxHeartbeats 2000000 in
theorem volume_spec (K : Nat) (A : Option Addr) (n c : Nat) (zs : List Int) (w : World) (h : Ints w w.heap.size A n zs) (hK : K ≤ 48) (hP : MOk K K zs) :
    Calls Try.prog 64 #[.agg #[.int .i64 K, .int .i64 K, .slice A n c]] w (SaysB (VolOk K zs) w.heap.size w) := by
  have hn : n = K * K := by have h1 := hP.2.2.2.2.1; rw [h.1, castM] at h1; exact_mod_cast h1
  have p1 := rc_le hK hK
  have HN := Lib.hid hn
  have H := Lib.hid h
  have HP := Lib.hid hP
  have K0 := Lib.hid (Box3.new w 27 (.int .i64 K) (.int .i64 K) (.slice A n c))
  have HB0 := Lib.hid (al1 w (Obj.cells #[.int .i64 K, .int .i64 K, .slice A n c] 27))
  clear h hP hn
  go_enter Try.func64, Try.ntmps64
  go_wp2
  obtain ⟨W0, hW0⟩ : ∃ W0, W0 = (w.alloc (Obj.cells #[.int .i64 K, .int .i64 K, .slice A n c] 27)) := ⟨_, rfl⟩
  have s0 : w.heap.size < W0.heap.size := by rw [hW0]; simp
  rw [← hW0] at K0 HB0
  rw [← hW0]
  clear hW0
  go_loopw [4, 3] (fun x s wr => ∃ t : Nat, t ≤ K ∧ x = .int .i64 t ∧ s = .int .i64 (1000000000 / vol K zs t) ∧ Below W0.heap.size W0 wr) (fun x _ _ => K - (intOf x).toNat)
  case atStart => exact ⟨0, Nat.zero_le _, rfl, rfl, Below.refl _ _⟩
  case round =>
    obtain ⟨t, ht, rfl, rfl, hbel⟩ := hrel
    have HW := Lib.hid hbel
    have HBw := Lib.hid (HB0.out.trans (hbel.mono (by omega)))
    have sz : W0.heap.size ≤ wr.heap.size := hbel.size
    clear hbel
    obtain ⟨wo, rfl⟩ : ∃ wo : World, wo = wr := ⟨_, rfl⟩
    have hv1 := vol_ge K zs t
    have X1 := Lib.hid (K0.out.below HW.out (by omega))
    obtain ⟨k0, k1, k2⟩ := X1.out
    have hd0 : 0 ≤ 1000000000 / vol K zs t := Int.ediv_nonneg (by omega) (by omega)
    have hd1 : 1000000000 / vol K zs t ≤ 1000000000 := Int.ediv_le_self _ (by omega)
    have hdd : 1000000000 / vol K zs t / mx1 (rsum K zs t K) = 1000000000 / vol K zs (t + 1) := by
      rw [vol, Int.ediv_ediv_of_nonneg (by omega)]
    obtain ⟨d, hd⟩ : ∃ d, 1000000000 / vol K zs t = d := ⟨_, rfl⟩
    rw [hd] at hd0 hd1 hdd
    rw [hd]
    have DD := Lib.hid hdd
    have HDD := Lib.hid hd
    clear hd hv1 hdd
    by_cases hlt : t < K
    · go_wp2
      clear k0 k1 k2
      go_loopw [6, 5] (fun x s wr => ∃ k : Nat, k ≤ K ∧ x = .int .i64 k ∧ s = .int .i64 (rsum K zs t k) ∧ Below W0.heap.size W0 wr) (fun x _ _ => K - (intOf x).toNat)
      case atStart => exact ⟨0, Nat.zero_le _, rfl, rfl, HW.out⟩
      case round =>
        obtain ⟨k, hk, rfl, rfl, hbel⟩ := hrel
        have HV := Lib.hid hbel
        have HBv := Lib.hid (HB0.out.trans (hbel.mono (by omega)))
        have sv : W0.heap.size ≤ wr.heap.size := hbel.size
        clear hbel
        have Y1 := Lib.hid (K0.out.below HV.out (by omega))
        obtain ⟨k0, k1, k2⟩ := Y1.out
        have hlen : zs.length = K * K := by rw [H.out.1, HN.out]
        have m0 := rsum_nonneg K zs t k
        have m1 := rsum_le K zs t k HP.out.2.2.2.2.2 (fun j hj => by have := ij_lt hlt (show j < K by omega); omega)
        by_cases hkl : k < K
        · have hs1 := ij_lt hlt hkl
          have a0 : 0 ≤ (t : Int) * (K : Int) := by rw [castM]; omega
          have a1 : (t : Int) * (K : Int) ≤ 2304 := by rw [castM]; omega
          have hx := HP.out.2.2.2.2.2 (t * K + k) (by omega)
          have hg := mg_le hx
          have hg0 := mg_nonneg (zs.getD (t * K + k) 0)
          have q : rsum K zs t (k + 1) = rsum K zs t k + mg (zs.getD (t * K + k) 0) := rfl
          obtain ⟨x, hzx⟩ : ∃ x, zs.getD (t * K + k) 0 = x := ⟨_, rfl⟩
          obtain ⟨s, hs⟩ : ∃ s, rsum K zs t k = s := ⟨_, rfl⟩
          have AX := Lib.hid (fun (W : World) (hW : Below w.heap.size w W) => at_spec K K A n c zs W (H.out.into hW) (by have := HN.out; omega) t k _ a0 a1 (castI t K k) (by rw [HN.out]; exact hs1))
          rw [hzx] at AX hx hg hg0 q
          rw [hs] at m0 m1 q
          rw [hs]
          have Q := Lib.hid q
          clear hzx hs q a0 a1 hs1 hlen
          go_wp2_with fail
          refine (AX.out _ HBv.out).mono ?_
          rintro e w6 ⟨rfl, hb6⟩
          have D6 := Lib.hid (HV.out.trans (hb6.mono (by omega)))
          clear k0 k1 k2 hb6
          go_wp2_with fail
          refine (abs_spec x 1000000000000 _ hx.1 hx.2 (by omega)).mono ?_
          rintro e w8 ⟨rfl, rfl⟩
          go_wp2
          go_roundw
          case rel => exact ⟨k + 1, by omega, by go_num, by rw [Q.out], D6.out⟩
          case measure => simp [intOf]; omega
        · obtain rfl : k = K := by omega
          obtain ⟨s, hs⟩ : ∃ s, rsum k zs t k = s := ⟨_, rfl⟩
          rw [hs] at m0 m1
          rw [hs]
          have HS := Lib.hid hs
          clear hs hlen
          by_cases h1 : 1 < s
          · have E1 := Lib.hid (mx1_hi h1)
            go_wp2
            go_roundw
            case rel => exact ⟨t + 1, by omega, by go_num, by rw [← DD.out, HS.out, E1.out], HV.out⟩
            case measure => simp [intOf]; omega
          · have E1 := Lib.hid (mx1_lo h1)
            go_wp2
            go_roundw
            case rel => exact ⟨t + 1, by omega, by go_num, by rw [← DD.out, HS.out, E1.out]; simp, HV.out⟩
            case measure => simp [intOf]; omega
    · obtain rfl : t = K := by omega
      have hv2 := vol_ge t zs t
      have hdv : 0 < d ↔ VolOk t zs := by
        rw [← HDD.out]
        unfold VolOk
        constructor
        · intro h
          have := (Int.le_ediv_iff_mul_le (a := 1) (b := 1000000000) (c := vol t zs t) (by omega)).1 (by omega)
          omega
        · intro h
          have := (Int.le_ediv_iff_mul_le (a := 1) (b := 1000000000) (c := vol t zs t) (by omega)).2 (by omega)
          omega
      have HDV := Lib.hid hdv
      clear hdv
      by_cases hpos : 0 < d
      · go_wp2
        go_ret
        exact ⟨_, rfl, ⟨fun _ => HDV.out.1 hpos, fun _ => (by simp <;> omega)⟩, HBw.out⟩
      · go_wp2
        go_ret
        exact ⟨_, rfl, ⟨fun h => (by simp at h <;> omega), fun h => absurd (HDV.out.2 h) (by omega)⟩, HBw.out⟩

end Go.Proofs.Ytdbljeglnhefmaa
