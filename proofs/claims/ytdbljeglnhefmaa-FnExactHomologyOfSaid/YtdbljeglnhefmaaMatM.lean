/- The product of two matrices: the specification's contract. No condition but those that each theorem names. -/
import Derived.Test.YtdbljeglnhefmaaMatL
namespace Go.Proofs.Ytdbljeglnhefmaa
open Go.RowKit

def LmSays (w : World) (R K C : Nat) (zs ys : List Int) (e : Ending) (w' : World) : Prop :=
  (Fits K C zs ys (R * C) → ResM w R C (pl K C zs ys (R * C) (R * C)) (.bool true) e w') ∧ (¬ Fits K C zs ys (R * C) → ResM w 0 0 [] (.bool false) e w')

set_option maxHeartbeats 6000000 in
theorem lmul_spec (R K C : Nat) (A1 A2 : Option Addr) (n1 c1 n2 c2 : Nat) (zs ys : List Int) (w : World) (h1 : Ints w w.heap.size A1 n1 zs) (h2 : Ints w w.heap.size A2 n2 ys)
    (hR : R ≤ 48) (hK : K ≤ 48) (hC : C ≤ 48) (P1 : MOk R K zs) (P2 : MOk K C ys) :
    Calls Try.prog 62 #[.agg #[.int .i64 R, .int .i64 K, .slice A1 n1 c1], .agg #[.int .i64 K, .int .i64 C, .slice A2 n2 c2]] w (LmSays w R K C zs ys) := by
  have p := rc_le hR hC
  have p1 := rc_le hR hK
  have p2 := rc_le hK hC
  have v0 : 0 ≤ (R : Int) * (C : Int) := by rw [castM]; omega
  have v1 : (R : Int) * (C : Int) ≤ 2304 := by rw [castM]; omega
  have hn1 : n1 = R * K := by have h := P1.2.2.2.2.1; rw [h1.1, castM] at h; exact_mod_cast h
  have hn2 : n2 = K * C := by have h := P2.2.2.2.2.1; rw [h2.1, castM] at h; exact_mod_cast h
  have HN1 := Lib.hid hn1
  have HN2 := Lib.hid hn2
  have HP1 := Lib.hid P1
  have HP2 := Lib.hid P2
  have H1 := Lib.hid h1
  have H2 := Lib.hid h2
  have K1 := Lib.hid (((Box3.new w 27 (.int .i64 R) (.int .i64 K) (.slice A1 n1 c1)).below (al1 _ (Obj.cells #[.int .i64 K, .int .i64 C, .slice A2 n2 c2] 27)) (by simp)).below (al1 ((w.alloc (Obj.cells #[.int .i64 R, .int .i64 K, .slice A1 n1 c1] 27)).alloc (Obj.cells #[.int .i64 K, .int .i64 C, .slice A2 n2 c2] 27)) (Obj.cells #[.int .i64 0, .int .i64 0, .slice none 0 0] 27)) (by simp <;> omega))
  have K2 := Lib.hid ((Box3.new (w.alloc (Obj.cells #[.int .i64 R, .int .i64 K, .slice A1 n1 c1] 27)) 27 (.int .i64 K) (.int .i64 C) (.slice A2 n2 c2)).below (al1 ((w.alloc (Obj.cells #[.int .i64 R, .int .i64 K, .slice A1 n1 c1] 27)).alloc (Obj.cells #[.int .i64 K, .int .i64 C, .slice A2 n2 c2] 27)) (Obj.cells #[.int .i64 0, .int .i64 0, .slice none 0 0] 27)) (by simp))
  have K3 := Lib.hid (Box3.new ((w.alloc (Obj.cells #[.int .i64 R, .int .i64 K, .slice A1 n1 c1] 27)).alloc (Obj.cells #[.int .i64 K, .int .i64 C, .slice A2 n2 c2] 27)) 27 (.int .i64 0) (.int .i64 0) (.slice none 0 0))
  have F3 := Lib.hid (Free.new ((w.alloc (Obj.cells #[.int .i64 R, .int .i64 K, .slice A1 n1 c1] 27)).alloc (Obj.cells #[.int .i64 K, .int .i64 C, .slice A2 n2 c2] 27)) 27 #[.int .i64 0, .int .i64 0, .slice none 0 0])
  simp only [World.size_alloc] at K2 K3 F3
  clear h1 h2 P1 P2 hn1 hn2
  go_enter Try.func62, Try.ntmps62
  go_wp2_with fail
  refine (zero_spec _ _ (R * C) _ v0 (by omega) (castM R C)).mono ?_
  rintro e w3 ⟨g, rfl, hblk, hg, hg2, hb⟩
  have s3 : w.heap.size + 1 + 1 < w3.heap.size := by have := hb.size; simp at this; omega
  have z3 : w.heap.size + 1 < w3.heap.size := by omega
  have z4 : w.heap.size < w3.heap.size := by omega
  have gg : w.heap.size + 1 + 1 < g := by simp at hg; omega
  have L1 := Lib.hid ((K1.out.below hb (by simp <;> omega)).below (al1 w3 (Obj.cells #[.int .i64 R, .int .i64 C, .slice (some ⟨g, 0, none⟩) (R * C) (R * C)] 27)) (by omega))
  have L2 := Lib.hid ((K2.out.below hb (by simp <;> omega)).below (al1 w3 (Obj.cells #[.int .i64 R, .int .i64 C, .slice (some ⟨g, 0, none⟩) (R * C) (R * C)] 27)) (by omega))
  have L3 := Lib.hid ((K3.out.below hb (by simp <;> omega)).below (al1 w3 (Obj.cells #[.int .i64 R, .int .i64 C, .slice (some ⟨g, 0, none⟩) (R * C) (R * C)] 27)) (by omega))
  have G3 := Lib.hid ((F3.out.below hb (by simp <;> omega)).below (al1 w3 (Obj.cells #[.int .i64 R, .int .i64 C, .slice (some ⟨g, 0, none⟩) (R * C) (R * C)] 27)) (by omega))
  have L4 := Lib.hid (Box3.new w3 27 (.int .i64 R) (.int .i64 C) (.slice (some ⟨g, 0, none⟩) (R * C) (R * C)))
  have HB3 := Lib.hid ((on3 _ _ _ hb).trans ((al1 w3 (Obj.cells #[.int .i64 R, .int .i64 C, .slice (some ⟨g, 0, none⟩) (R * C) (R * C)] 27)).mono (by omega)))
  have HO := Lib.hid ((Own.of_blk (lo := g) (hi := g + 1) (n := R * C) hblk (Nat.le_refl _) (by omega) (by simp) (by unfold maxLen; omega)).al (by omega) (al1 w3 (Obj.cells #[.int .i64 R, .int .i64 C, .slice (some ⟨g, 0, none⟩) (R * C) (R * C)] 27)))
  have s4 : w3.heap.size < (w3.alloc (Obj.cells #[.int .i64 R, .int .i64 C, .slice (some ⟨g, 0, none⟩) (R * C) (R * C)] 27)).heap.size := by simp
  clear hb hblk K1 K2 K3 F3 hg
  go_wp2
  obtain ⟨W0, hW0⟩ : ∃ W0, W0 = w3.alloc (Obj.cells #[.int .i64 R, .int .i64 C, .slice (some ⟨g, 0, none⟩) (R * C) (R * C)] 27) := ⟨_, rfl⟩
  rw [← hW0] at L1 L2 L3 G3 L4 HB3 HO s4
  rw [← hW0]
  clear hW0
  have HB := Lib.hid (fun (wr : World) (h : Kept g (g + 1) W0 wr) => HB3.out.trans (h.below (by omega) (by omega)))
  go_loopw [7] (fun x wr => ∃ i : Nat, i ≤ R ∧ x = .int .i64 i ∧ Own wr g (g + 1) (some ⟨g, 0, none⟩) (R * C) (R * C) (pl K C zs ys (R * C) (i * C)) ∧ Kept g (g + 1) W0 wr ∧ Fits K C zs ys (i * C)) (fun x _ => R - (intOf x).toNat)
  case atStart => exact ⟨0, Nat.zero_le _, rfl, by rw [Nat.zero_mul]; exact HO.out, Kept.refl _ _ _, fun u hu => by omega⟩
  case round =>
    obtain ⟨i, hi, rfl, hown, hkept, hfits⟩ := hrel
    have HW := Lib.hid hown
    have HK := Lib.hid hkept
    have HF := Lib.hid hfits
    clear hown hkept hfits
    obtain ⟨wo, rfl⟩ : ∃ wo : World, wo = wr := ⟨_, rfl⟩
    obtain ⟨k0, k1, k2⟩ := L1.out.kept HK.out (by omega) (by omega)
    by_cases hlt : i < R
    · go_wp2
      clear k0 k1 k2
      go_loopw [8] (fun y wr => ∃ j : Nat, j ≤ C ∧ y = .int .i64 j ∧ Own wr g (g + 1) (some ⟨g, 0, none⟩) (R * C) (R * C) (pl K C zs ys (R * C) (i * C + j)) ∧ Kept g (g + 1) W0 wr ∧ Fits K C zs ys (i * C + j)) (fun y _ => C - (intOf y).toNat)
      case atStart => exact ⟨0, Nat.zero_le _, rfl, HW.out, HK.out, HF.out⟩
      case round =>
        obtain ⟨j, hj, rfl, hown, hkept, hfits⟩ := hrel
        have HV := Lib.hid hown
        have HL := Lib.hid hkept
        have HG := Lib.hid hfits
        clear hown hkept hfits
        obtain ⟨wi, rfl⟩ : ∃ wi : World, wi = wr := ⟨_, rfl⟩
        have sz : W0.heap.size ≤ wi.heap.size := HL.out.size
        obtain ⟨l0, l1, l2⟩ := L2.out.kept HL.out (by omega) (by omega)
        by_cases hjl : j < C
        · have hs := ij_lt hlt hjl
          have X1 := Lib.hid (L1.out.kept HL.out (by omega) (by omega))
          have X2 := Lib.hid (L2.out.kept HL.out (by omega) (by omega))
          have X3 := Lib.hid (L3.out.kept HL.out (by omega) (by omega))
          have Y3 := Lib.hid (G3.out.kept HL.out (by omega) (by omega))
          have X4 := Lib.hid (L4.out.kept HL.out (by omega) (by omega))
          have HBi := Lib.hid (HB.out wi HL.out)
          go_wp2
          clear l0 l1 l2
          go_loopw [11, 9, 10] (fun x s l wr => ∃ k : Nat, k ≤ K ∧ x = .int .i64 k ∧ s = .int .i64 (dotS K C zs ys i j k) ∧ l = .int .i64 (dotM K C zs ys i j k) ∧ dotM K C zs ys i j k ≤ 1000000000000 ∧ Below wi.heap.size wi wr) (fun x _ _ _ => K - (intOf x).toNat)
          case atStart => exact ⟨0, Nat.zero_le _, rfl, rfl, rfl, by simp [dotM], Below.refl _ _⟩
          case round =>
            obtain ⟨k, hk, rfl, rfl, rfl, hm, hbel⟩ := hrel
            have HT := Lib.hid hbel
            have HBt := Lib.hid (HBi.out.trans (hbel.mono (by omega)))
            have sw : wi.heap.size ≤ wr.heap.size := hbel.size
            clear hbel
            have hd := mg_ge (Int.le_trans (dotS_le K C zs ys i j k) hm)
            have hm0 := dotM_nonneg K C zs ys i j k
            obtain ⟨s, hs'⟩ : ∃ s, dotS K C zs ys i j k = s := ⟨_, rfl⟩
            obtain ⟨m, hmm⟩ : ∃ m, dotM K C zs ys i j k = m := ⟨_, rfl⟩
            rw [hs'] at hd
            rw [hmm] at hm hm0
            rw [hs', hmm]
            have HS := Lib.hid hs'
            have HM := Lib.hid hmm
            clear hs' hmm
            have Z1 := Lib.hid (X1.out.below HT.out (by omega))
            have Z2 := Lib.hid (X2.out.below HT.out (by omega))
            have Z3 := Lib.hid (X3.out.below HT.out (by omega))
            have V3 := Lib.hid (Y3.out.below HT.out (by omega))
            have Z4 := Lib.hid (X4.out.below HT.out (by omega))
            obtain ⟨k0, k1, k2⟩ := Z1.out
            by_cases hkl : k < K
            · obtain ⟨l0, l1, l2⟩ := Z2.out
              have hs1 := ij_lt hlt hkl
              have hs2 := ij_lt hkl hjl
              have a0 : 0 ≤ (i : Int) * (K : Int) := by rw [castM]; omega
              have a1 : (i : Int) * (K : Int) ≤ 2304 := by rw [castM]; omega
              have b0 : 0 ≤ (k : Int) * (C : Int) := by rw [castM]; omega
              have b1 : (k : Int) * (C : Int) ≤ 2304 := by rw [castM]; omega
              have hx := HP1.out.2.2.2.2.2 (i * K + k) (by have := H1.out.1; have := HN1.out; omega)
              have hy := HP2.out.2.2.2.2.2 (k * C + j) (by have := H2.out.1; have := HN2.out; omega)
              obtain ⟨x, hzx⟩ : ∃ x, zs.getD (i * K + k) 0 = x := ⟨_, rfl⟩
              obtain ⟨y, hzy⟩ : ∃ y, ys.getD (k * C + j) 0 = y := ⟨_, rfl⟩
              have AX := Lib.hid (fun (W : World) (hW : Below w.heap.size w W) => at_spec R K A1 n1 c1 zs W (H1.out.into hW) (by have := HN1.out; omega) i k _ a0 a1 (castI i K k) (by rw [HN1.out]; exact hs1))
              have AY := Lib.hid (fun (W : World) (hW : Below w.heap.size w W) => at_spec K C A2 n2 c2 ys W (H2.out.into hW) (by have := HN2.out; omega) k j _ b0 b1 (castI k C j) (by rw [HN2.out]; exact hs2))
              rw [hzx] at AX hx
              rw [hzy] at AY hy
              have ZX := Lib.hid hzx
              have ZY := Lib.hid hzy
              clear hzx hzy a0 a1 b0 b1 hs1 hs2
              have q1 : dotS K C zs ys i j (k + 1) = s + x * y := by rw [dotS, HS.out, ZX.out, ZY.out]
              have q2 : dotM K C zs ys i j (k + 1) = m + mg (x * y) := by rw [dotM, HM.out, ZX.out, ZY.out]
              have Q1 := Lib.hid q1
              have Q2 := Lib.hid q2
              clear q1 q2
              have TS := Lib.hid (fun (W : World) => times_spec x y W hx hy)
              by_cases hg : mg (x * y) ≤ 1000000000000
              case' pos => have TM := Lib.hid (fun (W : World) => (TS.out W).mono (R' := fun e w' => e = .returned (.tuple #[.int .i64 (x * y), .bool true]) ∧ W = w') fun e w' h => ⟨h.1 hg, h.2.2⟩)
              case' neg => have TM := Lib.hid (fun (W : World) => (TS.out W).mono (R' := fun e w' => e = .returned (.tuple #[.int .i64 0, .bool false]) ∧ W = w') fun e w' h => ⟨h.2.1 hg, h.2.2⟩)
              all_goals
                have HGG := Lib.hid hg
                clear hg
                go_wp2_with fail
                go_region_held3 (fun W => ((W.cell? ⟨w.heap.size, 0, none⟩ = some (.int .i64 R) ∧ W.cell? ⟨w.heap.size, 1, none⟩ = some (.int .i64 K) ∧ W.cell? ⟨w.heap.size, 2, none⟩ = some (.slice A1 n1 c1)) ∧ (W.cell? ⟨w.heap.size + 1, 0, none⟩ = some (.int .i64 K) ∧ W.cell? ⟨w.heap.size + 1, 1, none⟩ = some (.int .i64 C) ∧ W.cell? ⟨w.heap.size + 1, 2, none⟩ = some (.slice A2 n2 c2)))) (go_keep)
                  (first
                    | (go_at_call 55; first
                        | with_reducible refine (AX.out _ (by exact HBt.out.drew)).mono ?_
                        | with_reducible refine (AY.out _ (by exact HBt.out.drew)).mono ?_
                       rintro e w6 ⟨rfl, hb6'⟩; have hb6 := undrew hb6'; have B6 := Lib.hid hb6; have z6 := hb6.size; obtain ⟨e0, e1, e2⟩ := Z1.out.below hb6 (by omega); obtain ⟨f0, f1, f2⟩ := Z2.out.below hb6 (by omega); clear hb6 hb6')
                    | (go_at_call 55; first
                        | with_reducible refine (AX.out _ (by exact HBt.out.trans (B6.out.mono HBt.out.size))).mono ?_
                        | with_reducible refine (AY.out _ (by exact HBt.out.trans (B6.out.mono HBt.out.size))).mono ?_
                       rintro e w7 ⟨rfl, hb7⟩; have B7 := Lib.hid hb7; obtain ⟨g0, g1, g2⟩ := (Z1.out.below B6.out (by omega)).below hb7 (by omega); obtain ⟨m0, m1, m2⟩ := (Z2.out.below B6.out (by omega)).below hb7 (by omega); clear hb7)
                    | (go_at_call 81; refine (TM.out _).mono ?_; rintro e w8 ⟨rfl, rfl⟩))
                have z6 := B6.out.size
                have z7 := B7.out.size
                have D7 := Lib.hid ((HT.out.trans (B6.out.mono (by omega))).trans (B7.out.mono (by omega)))
                have HB7 := Lib.hid (HBi.out.trans (D7.out.mono (by omega)))
                clear k0 k1 k2 l0 l1 l2 e0 e1 e2 f0 f1 f2 g0 g1 g2 m0 m1 m2
              · go_wp2_with fail
                refine (abs_spec 0 1000000000000 _ (by omega) (by omega) (by omega)).mono ?_
                rintro e w8 ⟨rfl, rfl⟩
                have g7 : mg 0 = 0 := rfl
                rw [g7]
                have hnf : ¬ dotM K C zs ys i j K ≤ 1000000000000 := fun h => (by
                    have hgo := HGG.out
                    have := dotM_mono K C zs ys i j (k := k + 1) (l := K) (by omega)
                    rw [Q2.out] at this
                    omega)
                have HNF := Lib.hid hnf
                clear hnf g7
                obtain ⟨n0, n1, n2⟩ := (Z3.out.below B6.out (by omega)).below B7.out (by omega)
                have f0 := (V3.out.below B6.out (by omega)).below B7.out (by omega)
                unfold Free at f0
                go_wp2
                refine bodyPost_ret (v := .tuple #[.agg #[.int .i64 0, .int .i64 0, .slice none 0 0], .bool false]) (by simp [results, Try.results62, n0, n1, n2, go_sem]) rfl ⟨fun h => absurd h (fits_not hlt hjl (by have := HNF.out; omega)), fun _ => ⟨none, 0, rfl, Own.none_ _ _ _, ?_⟩⟩
                exact ((HB7.out.setCell (by simp <;> omega) _).setCell (by simp <;> omega) _).setCell (by simp <;> omega) _
              · have g3 : -1000000000000 ≤ x * y ∧ x * y ≤ 1000000000000 := mg_ge HGG.out
                have g5 := mg_nonneg (x * y)
                have g6 : mg (x * y) ≤ 1000000000000 := HGG.out
                go_wp2_with fail
                refine (abs_spec (x * y) 1000000000000 _ g3.1 g3.2 (by omega)).mono ?_
                rintro e w8 ⟨rfl, rfl⟩
                by_cases hsz : m + mg (x * y) ≤ 1000000000000
                · have d : decide (1000000000000 < m + mg (x * y)) = false := by simp; omega
                  go_wp2
                  go_roundw
                  case rel => exact ⟨k + 1, by omega, by go_num, by rw [Q1.out], by rw [Q2.out], by rw [Q2.out]; omega, D7.out⟩
                  case measure => simp [intOf]; omega
                · have d : decide (1000000000000 < m + mg (x * y)) = true := by simp; omega
                  have hnf : ¬ dotM K C zs ys i j K ≤ 1000000000000 := fun h => hsz (by
                    have := dotM_mono K C zs ys i j (k := k + 1) (l := K) (by omega)
                    rw [Q2.out] at this
                    omega)
                  have HNF := Lib.hid hnf
                  clear hnf hsz
                  obtain ⟨n0, n1, n2⟩ := (Z3.out.below B6.out (by omega)).below B7.out (by omega)
                  have f0 := (V3.out.below B6.out (by omega)).below B7.out (by omega)
                  unfold Free at f0
                  go_wp2
                  refine bodyPost_ret (v := .tuple #[.agg #[.int .i64 0, .int .i64 0, .slice none 0 0], .bool false]) (by simp [results, Try.results62, n0, n1, n2, go_sem]) rfl ⟨fun h => absurd h (fits_not hlt hjl (by have := HNF.out; omega)), fun _ => ⟨none, 0, rfl, Own.none_ _ _ _, ?_⟩⟩
                  exact ((HB7.out.setCell (by simp <;> omega) _).setCell (by simp <;> omega) _).setCell (by simp <;> omega) _
            · obtain rfl : k = K := by omega
              obtain ⟨l0, l1, l2⟩ := Z2.out
              obtain ⟨p0, p1', p2'⟩ := Z4.out
              obtain ⟨g', zz, eg, _, _, hzz, hc, hf⟩ := (HV.out.below HT.out (by omega)).at_ hs
              cases eg
              have e0 : 0 ≤ (i : Int) * (C : Int) := by rw [castM]; omega
              have e1 : (i : Int) * (C : Int) ≤ 2304 := by rw [castM]; omega
              have e2 : 0 ≤ (i : Int) * (C : Int) + (j : Int) := by omega
              have e3 : (i : Int) * (C : Int) + (j : Int) < (R : Int) * (C : Int) := by rw [castI, castM]; omega
              have O7 := Lib.hid ((HV.out.below HT.out (by omega)).set_ (i * C + j) s)
              have K7 := Lib.hid ((HL.out.trans (Kept.of_below HT.out _ _)).set_ (p := ⟨g, i * C + j, none⟩) (Nat.le_refl _) (by dsimp only; omega) (.int .i64 s))
              have FT := Lib.hid (fits_step hjl HG.out (by rw [HM.out]; exact hm))
              have PS := Lib.hid (pl_step (K := k) zs ys (R * C) (i := i) hjl)
              clear hzz
              go_wp2
              go_roundw
              case rel => exact ⟨j + 1, by omega, by go_num, by rw [← Nat.add_assoc, PS.out, HS.out]; exact O7.out, K7.out, by rw [← Nat.add_assoc]; exact FT.out⟩
              case measure => simp [intOf]; omega
        · obtain rfl : j = C := by omega
          go_wp2
          go_roundw
          case rel => exact ⟨i + 1, by omega, by go_num, by rw [Nat.add_mul, Nat.one_mul]; exact HV.out, HL.out, by rw [Nat.add_mul, Nat.one_mul]; exact HG.out⟩
          case measure => simp [intOf]; omega
    · obtain rfl : i = R := by omega
      have sz : W0.heap.size ≤ wo.heap.size := HK.out.size
      obtain ⟨l0, l1, l2⟩ := L4.out.kept HK.out (by omega) (by omega)
      obtain ⟨n0, n1, n2⟩ := L3.out.kept HK.out (by omega) (by omega)
      have f0 := G3.out.kept HK.out (by omega) (by omega)
      unfold Free at f0
      go_wp2
      refine bodyPost_ret (v := .tuple #[.agg #[.int .i64 i, .int .i64 C, .slice (some ⟨g, 0, none⟩) (i * C) (i * C)], .bool true]) (by simp [results, Try.results62, n0, n1, n2, go_sem]) rfl ⟨fun _ => ⟨some ⟨g, 0, none⟩, i * C, by rw [pl_len], ?_, ?_⟩, fun h => absurd HF.out h⟩
      · rw [pl_len]
        refine ((((HW.out.far (p := ⟨w.heap.size + 1 + 1, 0, none⟩) (by dsimp only; omega) _).far (p := ⟨w.heap.size + 1 + 1, 1, none⟩) (by dsimp only; omega) _).far (p := ⟨w.heap.size + 1 + 1, 2, none⟩) (by dsimp only; omega) _)).wide (by omega) ?_
        simp [World.setCell]
        omega
      · exact (((HB.out wo HK.out).setCell (by simp <;> omega) _).setCell (by simp <;> omega) _).setCell (by simp <;> omega) _

end Go.Proofs.Ytdbljeglnhefmaa
