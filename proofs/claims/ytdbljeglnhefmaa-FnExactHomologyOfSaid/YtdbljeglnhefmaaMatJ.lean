/- Contracts of the functions below the product of two matrices, the program's: absolute values, a row times a column. No condition but those that each theorem names. -/
import Derived.Test.YtdbljeglnhefmaaMatG
namespace Go.Proofs.Ytdbljeglnhefmaa
open Go.RowKit

/-- The absolute value. -/
def mg (x : Int) : Int := (x.natAbs : Int)
theorem mg_nonneg (x : Int) : 0 ≤ mg x := by unfold mg; omega
theorem mg_of_neg {x : Int} (h : x < 0) : -x = mg x := by unfold mg; omega
theorem mg_of_nonneg {x : Int} (h : ¬ x < 0) : x = mg x := by unfold mg; omega
theorem mg_pos {x : Int} (h : x ≠ 0) : 1 ≤ mg x := by unfold mg; omega
theorem mg_le {x b : Int} (h : -b ≤ x ∧ x ≤ b) : mg x ≤ b := by unfold mg; omega
theorem mg_ge {x b : Int} (h : mg x ≤ b) : -b ≤ x ∧ x ≤ b := by unfold mg at h; omega
theorem mg_mul (x y : Int) : mg (x * y) = mg x * mg y := by unfold mg; rw [Int.natAbs_mul]; simp
theorem mg_zero : mg 0 = 0 := rfl

/-- The sum of the first k products of row i and column j, and of their absolute values. -/
def dotS (K C : Nat) (zs ys : List Int) (i j : Nat) : Nat → Int
  | 0 => 0
  | k + 1 => dotS K C zs ys i j k + zs.getD (i * K + k) 0 * ys.getD (k * C + j) 0
def dotM (K C : Nat) (zs ys : List Int) (i j : Nat) : Nat → Int
  | 0 => 0
  | k + 1 => dotM K C zs ys i j k + mg (zs.getD (i * K + k) 0 * ys.getD (k * C + j) 0)
theorem dotM_nonneg (K C : Nat) (zs ys : List Int) (i j k : Nat) : 0 ≤ dotM K C zs ys i j k := by
  induction k with
  | zero => simp [dotM]
  | succ k ih => rw [dotM]; have := mg_nonneg (zs.getD (i * K + k) 0 * ys.getD (k * C + j) 0); omega
theorem dotM_mono (K C : Nat) (zs ys : List Int) (i j : Nat) {k l : Nat} (h : k ≤ l) : dotM K C zs ys i j k ≤ dotM K C zs ys i j l := by
  induction l with
  | zero => have : k = 0 := by omega
            subst this; omega
  | succ l ih =>
    by_cases e : k = l + 1
    · subst e; omega
    · have := ih (by omega)
      rw [dotM]
      have := mg_nonneg (zs.getD (i * K + l) 0 * ys.getD (l * C + j) 0)
      omega
theorem dotS_le (K C : Nat) (zs ys : List Int) (i j k : Nat) : mg (dotS K C zs ys i j k) ≤ dotM K C zs ys i j k := by
  induction k with
  | zero => simp [dotM, dotS, mg]
  | succ k ih =>
    rw [dotM, dotS]
    unfold mg at ih ⊢
    omega
theorem div_lt_mul {l m y : Int} (hm : 1 ≤ m) (h : l / m < y) : l < m * y := by
  have := (Int.le_ediv_iff_mul_le (a := y) (b := l) (c := m) (by omega))
  rw [Int.mul_comm]
  by_cases e : l < y * m
  · exact e
  · have := this.2 (by omega); omega
theorem le_div_mul {l m y : Int} (hm : 1 ≤ m) (h : ¬ l / m < y) : m * y ≤ l := by
  have := (Int.le_ediv_iff_mul_le (a := y) (b := l) (c := m) (by omega)).1 (by omega)
  rw [Int.mul_comm]; exact this

set_option maxHeartbeats 400000 in
theorem mag_impl (x b : Int) (w : World) (h0 : -b ≤ x) (_h1 : x ≤ b) (hb : b ≤ 4611686018427387904) : Calls Try.prog 83 #[.int .i64 x] w fun e w' => e = .returned (.int .i64 (mg x)) ∧ w = w' := by
  by_cases h : x < 0
  · rw [← mg_of_neg h]
    go_enter Try.func83, Try.ntmps83
    go_wp2
    go_ret
    exact ⟨rfl, rfl⟩
  · rw [← mg_of_nonneg h]
    go_enter Try.func83, Try.ntmps83
    go_wp2
    go_ret
    exact ⟨rfl, rfl⟩

def RtcSays (w : World) (s m : Int) (e : Ending) (w' : World) : Prop :=
  (m ≤ 1000000000000 → e = .returned (.tuple #[.int .i64 s, .bool true])) ∧ (¬ m ≤ 1000000000000 → e = .returned (.tuple #[.int .i64 0, .bool false])) ∧ Below w.heap.size w w'

set_option maxHeartbeats 2000000 in
theorem rtc_impl (R K C : Nat) (A1 A2 : Option Addr) (n1 c1 n2 c2 i j : Nat) (zs ys : List Int) (w : World) (h1 : Ints w w.heap.size A1 n1 zs) (h2 : Ints w w.heap.size A2 n2 ys)
    (hR : R ≤ 48) (hK : K ≤ 48) (hC : C ≤ 48) (P1 : MOk R K zs) (P2 : MOk K C ys) (hi : i < R) (hj : j < C) :
    Calls Try.prog 63 #[.agg #[.int .i64 R, .int .i64 K, .slice A1 n1 c1], .int .i64 i, .agg #[.int .i64 K, .int .i64 C, .slice A2 n2 c2], .int .i64 j] w (RtcSays w (dotS K C zs ys i j K) (dotM K C zs ys i j K)) := by
  have hn1 : n1 = R * K := by have h := P1.2.2.2.2.1; rw [h1.1, castM] at h; exact_mod_cast h
  have hn2 : n2 = K * C := by have h := P2.2.2.2.2.1; rw [h2.1, castM] at h; exact_mod_cast h
  have p1 := rc_le hR hK
  have p2 := rc_le hK hC
  have HN1 := Lib.hid hn1
  have HN2 := Lib.hid hn2
  have H1 := Lib.hid h1
  have H2 := Lib.hid h2
  have HP1 := Lib.hid P1
  have HP2 := Lib.hid P2
  have K1 := Lib.hid ((Box3.new w 27 (.int .i64 R) (.int .i64 K) (.slice A1 n1 c1)).below (al1 _ (Obj.cells #[.int .i64 K, .int .i64 C, .slice A2 n2 c2] 27)) (by simp))
  have K2 := Lib.hid (Box3.new (w.alloc (Obj.cells #[.int .i64 R, .int .i64 K, .slice A1 n1 c1] 27)) 27 (.int .i64 K) (.int .i64 C) (.slice A2 n2 c2))
  have HB0 := Lib.hid (al2 w (Obj.cells #[.int .i64 R, .int .i64 K, .slice A1 n1 c1] 27) (Obj.cells #[.int .i64 K, .int .i64 C, .slice A2 n2 c2] 27))
  simp only [World.size_alloc] at K2
  clear h1 h2 P1 P2 hn1 hn2
  go_enter Try.func63, Try.ntmps63
  go_wp2
  obtain ⟨W0, hW0⟩ : ∃ W0, W0 = ((w.alloc (Obj.cells #[.int .i64 R, .int .i64 K, .slice A1 n1 c1] 27)).alloc (Obj.cells #[.int .i64 K, .int .i64 C, .slice A2 n2 c2] 27)) := ⟨_, rfl⟩
  have s0 : w.heap.size + 1 < W0.heap.size := by rw [hW0]; simp
  rw [← hW0] at K1 K2 HB0
  rw [← hW0]
  clear hW0
  go_loopw [17, 10, 11] (fun x s l wr => ∃ k : Nat, k ≤ K ∧ x = .int .i64 k ∧ s = .int .i64 (dotS K C zs ys i j k) ∧ l = .int .i64 (1000000000000 - dotM K C zs ys i j k) ∧ dotM K C zs ys i j k ≤ 1000000000000 ∧ Below W0.heap.size W0 wr) (fun x _ _ _ => K - (intOf x).toNat)
  case atStart => exact ⟨0, Nat.zero_le _, rfl, rfl, by simp [dotM], by simp [dotM], Below.refl _ _⟩
  case round =>
    obtain ⟨k, hk, rfl, rfl, rfl, hm, hbel⟩ := hrel
    have HW := Lib.hid hbel
    have HBw := Lib.hid (HB0.out.trans (hbel.mono (by omega)))
    have sz : W0.heap.size ≤ wr.heap.size := hbel.size
    clear hbel
    have hd := mg_ge (Int.le_trans (dotS_le K C zs ys i j k) hm)
    have hm0 := dotM_nonneg K C zs ys i j k
    obtain ⟨s, hs⟩ : ∃ s, dotS K C zs ys i j k = s := ⟨_, rfl⟩
    obtain ⟨m, hmm⟩ : ∃ m, dotM K C zs ys i j k = m := ⟨_, rfl⟩
    rw [hs] at hd
    rw [hmm] at hm hm0
    rw [hs, hmm]
    have HS := Lib.hid hs
    have HM := Lib.hid hmm
    clear hs hmm
    by_cases hlt : k < K
    · have X1 := Lib.hid (K1.out.below HW.out (by omega))
      have X2 := Lib.hid (K2.out.below HW.out (by omega))
      obtain ⟨k0, k1, k2⟩ := X1.out
      obtain ⟨l0, l1, l2⟩ := X2.out
      have hs1 := ij_lt hi hlt
      have hs2 := ij_lt hlt hj
      have a0 : 0 ≤ (i : Int) * (K : Int) := by rw [castM]; omega
      have a1 : (i : Int) * (K : Int) ≤ 2304 := by rw [castM]; omega
      have b0 : 0 ≤ (k : Int) * (C : Int) := by rw [castM]; omega
      have b1 : (k : Int) * (C : Int) ≤ 2304 := by rw [castM]; omega
      have hx := HP1.out.2.2.2.2.2 (i * K + k) (by have := H1.out.1; have := HN1.out; omega)
      have hy := HP2.out.2.2.2.2.2 (k * C + j) (by have := H2.out.1; have := HN2.out; omega)
      obtain ⟨x, hzx⟩ : ∃ x, zs.getD (i * K + k) 0 = x := ⟨_, rfl⟩
      obtain ⟨y, hzy⟩ : ∃ y, ys.getD (k * C + j) 0 = y := ⟨_, rfl⟩
      have AX := Lib.hid (fun (W : World) (hW : Below w.heap.size w W) => at_impl R K A1 n1 c1 zs W (H1.out.into hW) (by have := HN1.out; omega) i k _ a0 a1 (castI i K k) (by rw [HN1.out]; exact hs1))
      have AY := Lib.hid (fun (W : World) (hW : Below w.heap.size w W) => at_impl K C A2 n2 c2 ys W (H2.out.into hW) (by have := HN2.out; omega) k j _ b0 b1 (castI k C j) (by rw [HN2.out]; exact hs2))
      rw [hzx] at AX hx
      rw [hzy] at AY hy
      have ZX := Lib.hid hzx
      have ZY := Lib.hid hzy
      clear hzx hzy a0 a1 b0 b1 hs1 hs2
      go_wp2_with fail
      go_region_held3 (fun W => (W.cell? ⟨w.heap.size, 0, none⟩ = some (.int .i64 R) ∧ W.cell? ⟨w.heap.size, 1, none⟩ = some (.int .i64 K) ∧ W.cell? ⟨w.heap.size, 2, none⟩ = some (.slice A1 n1 c1)) ∧
              (W.cell? ⟨w.heap.size + 1, 0, none⟩ = some (.int .i64 K) ∧ W.cell? ⟨w.heap.size + 1, 1, none⟩ = some (.int .i64 C) ∧ W.cell? ⟨w.heap.size + 1, 2, none⟩ = some (.slice A2 n2 c2))) (go_keep)
            (first
              | (go_at_call 57; first
                  | with_reducible refine (AX.out _ (by exact HBw.out.drew)).mono ?_
                  | with_reducible refine (AY.out _ (by exact HBw.out.drew)).mono ?_
                 rintro e w6 ⟨rfl, hb6'⟩; have hb6 := undrew hb6'; have B6 := Lib.hid hb6; have z6 := hb6.size; obtain ⟨e0, e1, e2⟩ := X1.out.below hb6 (by omega); obtain ⟨f0, f1, f2⟩ := X2.out.below hb6 (by omega); clear hb6 hb6')
              | (go_at_call 57; first
                  | with_reducible refine (AX.out _ (by exact HBw.out.trans (B6.out.mono HBw.out.size))).mono ?_
                  | with_reducible refine (AY.out _ (by exact HBw.out.trans (B6.out.mono HBw.out.size))).mono ?_
                 rintro e w7 ⟨rfl, hb7⟩; have B7 := Lib.hid hb7; obtain ⟨g0, g1, g2⟩ := (X1.out.below B6.out (by omega)).below hb7 (by omega); obtain ⟨m0, m1, m2⟩ := (X2.out.below B6.out (by omega)).below hb7 (by omega); clear hb7))
      have z6 := B6.out.size
      have D7 := Lib.hid ((HW.out.trans (B6.out.mono (by omega))).trans (B7.out.mono (by omega)))
      have HB7 := Lib.hid (HB0.out.trans (D7.out.mono (by omega)))
      clear k0 k1 k2 l0 l1 l2 e0 e1 e2 f0 f1 f2 g0 g1 g2 m0 m1 m2
      have q1 : dotS K C zs ys i j (k + 1) = s + x * y := by rw [dotS, HS.out, ZX.out, ZY.out]
      have q2 : dotM K C zs ys i j (k + 1) = m + mg (x * y) := by rw [dotM, HM.out, ZX.out, ZY.out]
      have Q1 := Lib.hid q1
      have Q2 := Lib.hid q2
      clear q1 q2
      by_cases hx0 : x = 0
      · have HX0 := Lib.hid hx0
        clear hx0
        have t : (x == 0) = true := by rw [HX0.out]; rfl
        go_wp2
        go_roundw
        case rel => exact ⟨k + 1, by omega, by go_num, by rw [Q1.out, HX0.out]; simp, by rw [Q2.out, HX0.out]; simp [mg], by rw [Q2.out, HX0.out]; simpa [mg] using hm, D7.out⟩
        case measure => simp [intOf]; omega
      have t : (x == 0) = false := by simpa using hx0
      have y1 := mg_pos hx0
      have y2 := mg_le hx
      have y3 := mg_nonneg y
      have y4 := mg_le hy
      clear hx0
      go_wp2_with fail
      refine (mag_impl y 1000000000000 _ hy.1 hy.2 (by omega)).mono ?_
      rintro e w8 ⟨rfl, rfl⟩
      go_wp2_with fail
      refine (mag_impl x 1000000000000 _ hx.1 hx.2 (by omega)).mono ?_
      rintro e w8 ⟨rfl, rfl⟩
      by_cases hg : (1000000000000 - m) / mg x < mg y
      · go_wp2
        go_ret2
        refine ⟨fun h => absurd h ?_, fun _ => rfl, HB7.out⟩
        have g1 := div_lt_mul y1 hg
        have g2 := dotM_mono K C zs ys i j (k := k + 1) (l := K) (by omega)
        rw [Q2.out, mg_mul] at g2
        omega
      · have g1 := le_div_mul y1 hg
        have g2 := mg_mul x y
        have g3 : -1000000000000 ≤ x * y ∧ x * y ≤ 1000000000000 := mg_ge (by omega)
        have g4 : mg (x * y) ≤ 1000000000000 - m := by omega
        have g5 := mg_nonneg (x * y)
        clear g1 g2
        go_wp2_with fail
        refine (mag_impl (x * y) 1000000000000 _ g3.1 g3.2 (by omega)).mono ?_
        rintro e w8 ⟨rfl, rfl⟩
        go_wp2
        go_roundw
        case rel => exact ⟨k + 1, by omega, by go_num, by rw [Q1.out], by rw [Q2.out]; go_num, by rw [Q2.out]; omega, D7.out⟩
        case measure => simp [intOf]; omega
    · obtain rfl : k = K := by omega
      go_wp2
      go_ret2
      exact ⟨fun _ => (by rw [HS.out]; rfl), fun h => absurd (by rw [HM.out]; exact hm) h, HBw.out⟩

end Go.Proofs.Ytdbljeglnhefmaa
