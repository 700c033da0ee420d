/- The specification's l05Orbits and OrbitsOf. No condition but those that each theorem names. -/
import Derived.Test.YtiibedpacnficaaOrE
import Derived.Test.YtiibedpacnficaaOrF
namespace Go.Proofs.Ytiibedpacnficaa
open Go.RowKit

set_option maxRecDepth 100000 in
set_option maxHeartbeats 8000000 in
theorem orb5_spec (N : Nat) (A : Option Addr) (c : Nat) (rs : List Rw) (w : World) (h : RdS w w.heap.size A rs) (hl : rs.length ≤ 1048576) (hp : ∀ z ∈ vals rs, Rp.Pm (N : Int) z) (n1 : 1 ≤ N) (n4 : N ≤ 4) :
    Calls Try.prog 61 #[.int .i64 N, .slice A rs.length c] w (ResRows w (Ob.outs (N : Int) (vals rs) N)) := by
  have H := Lib.hid h
  have HP := Lib.hid hp
  obtain ⟨M, hM⟩ : ∃ M, rs.length = M := ⟨_, rfl⟩
  have HM := Lib.hid hM
  rw [hM] at hl ⊢
  clear h hp hM
  go_enter Try.func61, Try.ntmps61
  go_wp2
  go_loopw [6, 5] (fun i v W => ∃ (x : Nat) (A2 : Option Addr) (c2 : Nat), i = .int .i64 x ∧ v = .slice A2 x c2 ∧ x ≤ N ∧ Own W w.heap.size W.heap.size A2 x c2 (Ob.ini x) ∧ Below w.heap.size w W) (fun i _ _ => N - (intOf i).toNat)
  case atStart => exact ⟨0, _, 0, rfl, rfl, Nat.zero_le _, (Wd.own_nil w).wide (Nat.le_refl _) (by simp), al1 w _⟩
  case round =>
    obtain ⟨x, A2, c2, rfl, rfl, hx, ho, hb⟩ := hrel
    have O := Lib.hid ho
    have D := Lib.hid hb
    have ds := hb.size
    clear ho hb
    by_cases hlt : x < N
    · have i1 : (x : Int) < (N : Int) := by omega
      go_wp2_with (at_builtin; refine Wd.push_int rfl _ _ rfl w.heap.size wr.heap.size c2 wr.heap.size x A2 _ x rfl (by exact O.out.below (al1 wr _) (Nat.le_refl _)) rfl (by exact Wd.alloc_first _ _ _ _ rfl) (by simp; omega) (by omega) ?_; intro A7 c7 w7 h5 h6; have O7 := Lib.hid h5; have D7 := Lib.hid ((D.out.trans ((al1 wr _).mono ds)).trans (h6.below (Nat.le_refl _) (by simp; omega))); clear h5 h6)
      go_roundw
      case rel => exact ⟨x + 1, A7, c7, by go_num, rfl, by omega, by rw [Ob.ini_succ]; exact O7.out, D7.out⟩
      case measure => simp [intOf]; omega
    obtain rfl : N = x := by omega
    have i1 : ¬ (N : Int) < (N : Int) := by omega
    obtain ⟨gr, _, rfl, hg1, hg2, _, _, _⟩ := O.out.at_ (k := 0) (by omega)
    have O1 := Lib.hid O.out.tightq
    clear O
    go_wp2
    obtain ⟨W1, hW1⟩ : ∃ W1, W1 = wr := ⟨_, rfl⟩
    rw [← hW1] at O1 D hg2 ds ⊢
    clear hW1
    go_loopw [7] (fun i W => ∃ (g : Nat) (l : List Int), i = .int .i64 g ∧ g ≤ M ∧ l = Ob.rtg N (vals rs) g ∧ Own W gr (gr + 1) (some ⟨gr, 0, none⟩) N c2 l ∧ Below w.heap.size w W ∧ gr < W.heap.size) (fun i _ => M - (intOf i).toNat)
    case atStart => exact ⟨0, _, rfl, Nat.zero_le _, rfl, O1.out, D.out, hg2⟩
    case round =>
      obtain ⟨g, l0, rfl, hg, hl0, ho, hb, hgr⟩ := hrel
      have L0 := Lib.hid hl0
      have O := Lib.hid ho
      have D := Lib.hid hb
      clear hl0 ho hb O1
      by_cases hlt2 : g < M
      · have i2 : (g : Int) < (M : Int) := by omega
        have g0 : (0 : Int) ≤ (g : Int) := by omega
        obtain ⟨b, off, Aj, cj, zj, rfl, hb, hr, hc, hjc, hjm, hj⟩ := (H.out.below D.out).at_ (j := g) (by rw [HM.out]; exact hlt2)
        have ZM := Lib.hid (show zj ∈ vals rs from by
          have h1 := List.mem_map_of_mem (f := Rw.zs) (getD_mem (rs := rs) (j := g) (by rw [HM.out]; exact hlt2))
          rw [hr] at h1
          exact h1)
        have ZG := Lib.hid (show (vals rs).getD g [] = zj from by rw [Ob.vals_getDq, hr])
        have zl : (zj.length : Int) = N := (HP.out _ ZM.out).1
        have HC := Lib.hid hc
        have HJ := Lib.hid hj
        clear hr hj hjc hjm hc
        go_wp2
        obtain ⟨W2, hW2⟩ : ∃ W2, W2 = wr := ⟨_, rfl⟩
        rw [← hW2] at O D HC HJ hgr ⊢
        clear hW2
        go_loopw [8] (fun i W => ∃ (x : Nat) (l : List Int), i = .int .i64 x ∧ x ≤ N ∧ l = Ob.rtx N zj l0 x ∧ Own W gr (gr + 1) (some ⟨gr, 0, none⟩) N c2 l ∧ Below w.heap.size w W ∧ Below w.heap.size W2 W ∧ gr < W.heap.size) (fun i _ => N - (intOf i).toNat)
        case atStart => exact ⟨0, _, rfl, Nat.zero_le _, rfl, O.out, D.out, Below.refl _ _, hgr⟩
        case round =>
          obtain ⟨x, l, rfl, hx, hlx, ho, hb1, hb2, hgr2⟩ := hrel
          have LX := Lib.hid hlx
          have O := Lib.hid ho
          have D := Lib.hid hb1
          have D2 := Lib.hid hb2
          clear hlx ho hb1 hb2
          by_cases hlt3 : x < N
          · have i3 : (x : Int) < (N : Int) := by omega
            have x0 : (0 : Int) ≤ (x : Int) := by omega
            obtain ⟨b2, off2, y, rfl, hb2, hy, hcy⟩ := (HJ.out.below D2.out).at_z (k := x) (by omega)
            have hpm := Ob.pm_in (HP.out _ ZM.out) x0 i3
            rw [Int.toNat_natCast, hy] at hpm
            obtain ⟨y, rfl⟩ : ∃ z : Nat, y = z := ⟨y.toNat, by omega⟩
            obtain ⟨g5, a, e5, _, _, ha, hca, _⟩ := O.out.at_ (k := x) hlt3
            cases e5
            obtain ⟨g6, e, e6, _, _, he, hce, _⟩ := O.out.at_ (k := y) (by omega)
            cases e6
            obtain ⟨p0, p1⟩ := hpm
            have x1 : (x : Int) < (zj.length : Int) := by omega
            have hcz := HC.out
            have hcz2 := (D2.out.cell (p := ⟨b, off + g, none⟩) hb).trans hcz
            clear hcz
            have HA := Lib.hid ha
            have HE := Lib.hid he
            have HY := Lib.hid hy
            clear ha he hy
            have HYy := Lib.hid hcy
            go_wp2
            go_region
            all_goals
              go_wp2
              have OO := Lib.hid (show Own wr.drew gr (gr + 1) (some ⟨gr, 0, none⟩) N c2 l from O.out)
              have DD := Lib.hid (show Below w.heap.size w wr.drew from D.out.drew)
              have DD2 := Lib.hid (show Below w.heap.size W2 wr.drew from D2.out.drew)
              have gr3 : gr < wr.drew.heap.size := hgr2
              obtain ⟨W3, hW3⟩ : ∃ W3, W3 = wr.drew := ⟨_, rfl⟩
              rw [← hW3] at OO DD DD2 gr3 ⊢
              clear hW3 hcz2 hcy hca hce
              have NXT := Lib.hid (show Ob.rtx N zj l0 (x + 1) = Ob.mrg l (max a e) (min a e) N from by
                rw [← HA.out, ← HE.out, LX.out]
                show Ob.mrg _ (max _ ((Ob.rtx N zj l0 x).getD (zj.getD x 0).toNat 0)) (min _ ((Ob.rtx N zj l0 x).getD (zj.getD x 0).toNat 0)) _ = _
                rw [HY.out, Int.toNat_natCast])
              go_loopw [11] (fun i W => ∃ (k : Nat) (l2 : List Int), i = .int .i64 k ∧ k ≤ N ∧ l2 = Ob.mrg l (max a e) (min a e) k ∧ Own W gr (gr + 1) (some ⟨gr, 0, none⟩) N c2 l2 ∧ Below w.heap.size w W ∧ Below w.heap.size W2 W ∧ gr < W.heap.size) (fun i _ => N - (intOf i).toNat)
              case atStart => exact ⟨0, _, rfl, Nat.zero_le _, rfl, OO.out, DD.out, DD2.out, gr3⟩
              case round =>
                obtain ⟨k, l2, rfl, hk, hl2, ho, hb5, hb6, hgr4⟩ := hrel
                have L2 := Lib.hid hl2
                have O := Lib.hid ho
                have D := Lib.hid hb5
                have D2 := Lib.hid hb6
                clear hl2 ho hb5 hb6
                by_cases hlt4 : k < N
                · have i4 : (k : Int) < (N : Int) := by omega
                  have k0 : (0 : Int) ≤ (k : Int) := by omega
                  obtain ⟨g7, v, e7, _, _, hv, hcv, hfv⟩ := O.out.at_ (k := k) hlt4
                  cases e7
                  have HV := Lib.hid hv
                  clear hv
                  by_cases hv : v = max a e
                  · have NX := Lib.hid (show Ob.mrg l (max a e) (min a e) (k + 1) = l2.set k (min a e) from by
                      show (if _ then _ else _) = _
                      rw [← L2.out, if_pos (by rw [HV.out]; exact hv)])
                    by_cases hae : a ≤ e
                    · have q1 : max a e = e := by omega
                      have q2 : min a e = a := by omega
                      have t1 : (v == e) = true := by rw [beq_iff_eq]; omega
                      have q3 : ¬ e < a := by omega
                      rw [q2] at NX
                      have Q2 := Lib.hid q2
                      clear hv q1 q2
                      go_wp2
                      go_roundw
                      case rel => exact ⟨k + 1, _, by go_num, by omega, by rw [Q2.out]; exact NX.out.symm, O.out.set_ k a, D.out.setCell hg1 _, D2.out.setCell hg1 _, by simp [World.setCell]; omega⟩
                      case measure => simp [intOf]; omega
                    · have q1 : max a e = a := by omega
                      have q2 : min a e = e := by omega
                      have t1 : (v == a) = true := by rw [beq_iff_eq]; omega
                      have q3 : e < a := by omega
                      have q4 : e ≤ a := by omega
                      have q5 : ¬ a < e := by omega
                      rw [q2] at NX
                      have Q2 := Lib.hid q2
                      clear hv q1 q2
                      go_wp2
                      go_roundw
                      case rel => exact ⟨k + 1, _, by go_num, by omega, by rw [Q2.out]; exact NX.out.symm, O.out.set_ k e, D.out.setCell hg1 _, D2.out.setCell hg1 _, by simp [World.setCell]; omega⟩
                      case measure => simp [intOf]; omega
                  · have NX := Lib.hid (show Ob.mrg l (max a e) (min a e) (k + 1) = l2 from by
                      show (if _ then _ else _) = _
                      rw [← L2.out, if_neg (by rw [HV.out]; exact hv)])
                    by_cases hae : a ≤ e
                    · have q1 : max a e = e := by omega
                      have t1 : (v == e) = false := by rw [beq_eq_false_iff_ne]; omega
                      have q3 : ¬ e < a := by omega
                      clear hv q1
                      go_wp2
                      go_roundw
                      case rel => exact ⟨k + 1, l2, by go_num, by omega, NX.out.symm, O.out, D.out, D2.out, hgr4⟩
                      case measure => simp [intOf]; omega
                    · have q1 : max a e = a := by omega
                      have t1 : (v == a) = false := by rw [beq_eq_false_iff_ne]; omega
                      have q3 : e < a := by omega
                      have q4 : e ≤ a := by omega
                      have q5 : ¬ a < e := by omega
                      clear hv q1
                      go_wp2
                      go_roundw
                      case rel => exact ⟨k + 1, l2, by go_num, by omega, NX.out.symm, O.out, D.out, D2.out, hgr4⟩
                      case measure => simp [intOf]; omega
                · obtain rfl : N = k := by omega
                  have i4 : ¬ (N : Int) < (N : Int) := by omega
                  go_wp2
                  go_roundw
                  case rel => exact ⟨x + 1, l2, by go_num, by omega, by rw [L2.out, NXT.out], O.out, D.out, D2.out, hgr4⟩
                  case measure => simp [intOf]; omega
          · obtain rfl : N = x := by omega
            have i3 : ¬ (N : Int) < (N : Int) := by omega
            go_wp2
            go_roundw
            case rel => exact ⟨g + 1, l, by go_num, by omega, by rw [LX.out, L0.out, ← ZG.out]; rfl, O.out, D.out, hgr2⟩
            case measure => simp [intOf]; omega
      · obtain rfl : M = g := by omega
        have i2 : ¬ (M : Int) < (M : Int) := by omega
        have ROW := Lib.hid (fun r (hr : r < N) => Ob.outs_row HP.out n4 r hr)
        have LR := Lib.hid (show l0 = Ob.rtg N (vals rs) (vals rs).length from by rw [L0.out, vals_len, HM.out])
        have gr2 : gr < wr.heap.size := hgr
        have ds2 := D.out.size
        go_wp2
        obtain ⟨Z, hZ⟩ : ∃ Z, Z = wr.heap.size := ⟨_, rfl⟩
        obtain ⟨W5, hW5⟩ : ∃ W5, W5 = wr.alloc (Obj.cells #[] 38) := ⟨_, rfl⟩
        have E5 := Lib.hid (show OwnS W5 Z W5.heap.size (some ⟨Z, 0, none⟩) 0 [] from by rw [hW5, hZ]; exact (OwnS.empty wr).wide (Nat.le_refl _) (by simp))
        have O5 := Lib.hid (show Own W5 gr (gr + 1) (some ⟨gr, 0, none⟩) N c2 l0 from by rw [hW5]; exact O.out.below (al1 wr _) (by omega))
        have D5 := Lib.hid (show Below w.heap.size w W5 from by rw [hW5]; exact D.out.trans ((al1 wr _).mono ds2))
        rw [← hW5, ← hZ]
        rw [← hZ] at gr2 ds2
        have z5 : Z ≤ W5.heap.size := by rw [hW5, hZ]; simp
        clear hW5 hZ O D
        go_loopw [13, 12] (fun i v W => ∃ (r : Nat) (A3 : Option Addr) (c3 m : Nat) (qs : List Rw), i = .int .i64 r ∧ v = .slice A3 m c3 ∧ qs.length = m ∧ r ≤ N ∧ vals qs = Ob.outs (N : Int) (vals rs) r ∧ OwnS W Z W.heap.size A3 c3 qs ∧ Own W gr (gr + 1) (some ⟨gr, 0, none⟩) N c2 l0 ∧ Below w.heap.size w W ∧ Z ≤ W.heap.size) (fun i _ _ => N - (intOf i).toNat)
        case atStart => exact ⟨0, _, 0, 0, [], rfl, rfl, rfl, Nat.zero_le _, rfl, E5.out, O5.out, D5.out, z5⟩
        case round =>
          obtain ⟨r, A3, c3, m, qs, rfl, rfl, hm, hr, hv, ho, hro, hb, hz⟩ := hrel
          have QM := Lib.hid hm
          have V := Lib.hid hv
          have S := Lib.hid ho
          have O := Lib.hid hro
          have D := Lib.hid hb
          have ML := Lib.hid (show m ≤ r from by rw [← hm, ← vals_len, hv]; exact Ob.outs_len _ _ _)
          clear hm hv ho hro hb E5 O5 D5
          by_cases hlt : r < N
          · have i1 : (r : Int) < (N : Int) := by omega
            go_wp2
            obtain ⟨Y, hY⟩ : ∃ Y, Y = wr.heap.size := ⟨_, rfl⟩
            obtain ⟨W6, hW6⟩ : ∃ W6, W6 = wr.alloc (Obj.cells #[] 2) := ⟨_, rfl⟩
            have E6 := Lib.hid (show Own W6 Y W6.heap.size (some ⟨Y, 0, none⟩) 0 0 [] from by rw [hW6, hY]; exact (Wd.own_nil wr).wide (Nat.le_refl _) (by simp))
            have O6 := Lib.hid (show Own W6 gr (gr + 1) (some ⟨gr, 0, none⟩) N c2 l0 from by rw [hW6]; exact O.out.below (al1 wr _) (by omega))
            have S6 := Lib.hid (show OwnS W6 Z Y A3 c3 qs from by rw [hW6, hY]; exact S.out.below (al1 wr _) (Nat.le_refl _))
            have D6 := Lib.hid (show Below w.heap.size w W6 from by rw [hW6]; exact D.out.trans ((al1 wr _).mono (by omega)))
            rw [← hW6, ← hY]
            rw [← hY] at hz
            have y6 : Y ≤ W6.heap.size := by rw [hW6, hY]; simp
            clear hW6 hY O S D
            go_loopw [15, 14] (fun i v W => ∃ (x : Nat) (A4 : Option Addr) (m4 c4 : Nat), i = .int .i64 x ∧ v = .slice A4 m4 c4 ∧ x ≤ N ∧ Own W Y W.heap.size A4 m4 c4 (Ob.rowP (fun x => l0.getD x 0 == (r : Int)) x) ∧ OwnS W Z Y A3 c3 qs ∧ Own W gr (gr + 1) (some ⟨gr, 0, none⟩) N c2 l0 ∧ Below w.heap.size w W ∧ Y ≤ W.heap.size) (fun i _ _ => N - (intOf i).toNat)
            case atStart => exact ⟨0, _, 0, 0, rfl, rfl, Nat.zero_le _, E6.out, S6.out, O6.out, D6.out, y6⟩
            case round =>
              obtain ⟨x, A4, m4, c4, rfl, rfl, hx, hl4, hs4, ho4, hb4, hy4⟩ := hrel
              have R4 := Lib.hid hl4
              have S := Lib.hid hs4
              have O := Lib.hid ho4
              have D := Lib.hid hb4
              have M4 := Lib.hid (show m4 ≤ x from by rw [← hl4.len]; exact Ob.rowP_len _ _)
              have LL := Lib.hid hl4.len
              clear hl4 hs4 ho4 hb4 E6 S6 O6 D6
              by_cases hlt2 : x < N
              · have i2 : (x : Int) < (N : Int) := by omega
                have x0 : (0 : Int) ≤ (x : Int) := by omega
                obtain ⟨g7, v, e7, _, _, hv7, hcv, _⟩ := O.out.at_ (k := x) hlt2
                cases e7
                have HV := Lib.hid hv7
                clear hv7
                by_cases hvr : v = (r : Int)
                · have t1 : (v == (r : Int)) = true := by rw [beq_iff_eq]; exact hvr
                  have NX := Lib.hid (show Ob.rowP (fun x => l0.getD x 0 == (r : Int)) (x + 1) = Ob.rowP (fun x => l0.getD x 0 == (r : Int)) x ++ [(x : Int)] from by
                    show (if _ then _ else _) = _
                    rw [if_pos (by show (l0.getD x 0 == (r : Int)) = true; rw [HV.out]; exact t1)])
                  clear hvr
                  go_upto_region 27 with fail
                  go_wp2_with (at_builtin; refine Wd.push_int rfl _ _ rfl Y wr.heap.size c4 wr.heap.size m4 A4 _ x rfl (by exact R4.out.below (al1 wr _) (Nat.le_refl _)) rfl (by exact Wd.alloc_first _ _ _ _ rfl) (by simp; omega) (by have := M4.out; omega) ?_; intro A7 c7 w7 h5 h6; have O7 := Lib.hid h5; have K7 := Lib.hid h6; have s7 := h6.size; simp only [World.size_alloc] at s7; clear h5 h6)
                  go_roundw
                  case rel => exact ⟨x + 1, A7, m4 + 1, c7, by go_num, rfl, by omega, by rw [NX.out]; exact O7.out, (S.out.below (al1 wr _) (by omega)).kept K7.out (by simp; omega) (.inl (Nat.le_refl _)), (O.out.below (al1 wr _) (by omega)).kept K7.out (by simp; omega) (.inl (by omega)), (D.out.trans ((al1 wr _).mono (by omega))).trans (K7.out.below (by omega) (by simp; omega)), by omega⟩
                  case measure => simp [intOf]; omega
                · have t1 : (v == (r : Int)) = false := by rw [beq_eq_false_iff_ne]; exact hvr
                  have NX := Lib.hid (show Ob.rowP (fun x => l0.getD x 0 == (r : Int)) (x + 1) = Ob.rowP (fun x => l0.getD x 0 == (r : Int)) x from by
                    show (if _ then _ else _) = _
                    rw [if_neg (by show ¬ (l0.getD x 0 == (r : Int)) = true; rw [HV.out, t1]; simp)])
                  clear hvr
                  go_wp2
                  go_roundw
                  case rel => exact ⟨x + 1, A4, m4, c4, by go_num, rfl, by omega, by rw [NX.out]; exact R4.out, S.out, O.out, D.out, hy4⟩
                  case measure => simp [intOf]; omega
              · obtain rfl : N = x := by omega
                have i2 : ¬ (N : Int) < (N : Int) := by omega
                have NX := Lib.hid (ROW.out r hlt)
                rw [← LR.out] at NX
                by_cases hm0 : 0 < m4
                · have t1 : (0 : Int) < (m4 : Int) := by omega
                  have NY := Lib.hid (show Ob.outs (N : Int) (vals rs) (r + 1) = Ob.outs (N : Int) (vals rs) r ++ [Ob.rowP (fun x => l0.getD x 0 == (r : Int)) N] from by rw [NX.out, if_pos (by rw [LL.out]; exact hm0)])
                  obtain ⟨q, hq⟩ : ∃ q, Ob.rowP (fun x => l0.getD x 0 == (r : Int)) N = q := ⟨_, rfl⟩
                  have R5 := Lib.hid (show Own wr Y wr.heap.size A4 m4 c4 q from by rw [← hq]; exact R4.out)
                  have LQ := Lib.hid (show q.length = m4 from by rw [← hq]; exact LL.out)
                  rw [hq] at NY
                  have RI := Lib.hid (show Rw.In ⟨A4, c4, q⟩ wr Y wr.heap.size from ⟨by dsimp only; rw [LQ.out]; exact (Wd.own_caps R5.out).1, (Wd.own_caps R5.out).2, by dsimp only; rw [LQ.out]; exact R5.out.mine⟩)
                  have SV := Lib.hid (show Rw.sv ⟨A4, c4, q⟩ = .slice A4 m4 c4 from by show Value.slice _ q.length _ = _; rw [LQ.out])
                  clear hq
                  go_upto_region 29 with fail
                  go_wp2_with (at_builtin; refine push_row rfl _ _ rfl Z Y Y c3 m wr.heap.size A3 qs ⟨A4, c4, q⟩ rfl QM.out (by exact S.out.below (al1 wr _) (by omega)) rfl (by rw [SV.out]; exact Wd.alloc_first _ _ _ _ rfl) (by exact (RI.out.below (al1 wr _) (Nat.le_refl _)).wide (Nat.le_refl _) (by simp)) (Nat.le_refl _) hz (by simp; omega) (by simp; omega) (by have := ML.out; omega) ?_; intro A7 c7 w7 h5 h6; have O7 := Lib.hid h5; have K7 := Lib.hid h6; have s7 := h6.size; simp only [World.size_alloc] at s7; clear h5 h6)
                  go_roundw
                  case rel => exact ⟨r + 1, A7, c7, m + 1, qs ++ [⟨A4, c4, q⟩], by go_num, rfl, by rw [List.length_append, QM.out]; rfl, by omega, by rw [NY.out, ← V.out]; simp [vals], O7.out, (O.out.below (al1 wr _) (by omega)).kept K7.out (by simp; omega) (.inl (by omega)), (D.out.trans ((al1 wr _).mono (by omega))).trans (K7.out.below (by omega) (by simp; omega)), by omega⟩
                  case measure => simp [intOf]; omega
                · have t1 : ¬ (0 : Int) < (m4 : Int) := by omega
                  have NY := Lib.hid (show Ob.outs (N : Int) (vals rs) (r + 1) = Ob.outs (N : Int) (vals rs) r from by rw [NX.out, if_neg (by rw [LL.out]; exact hm0)])
                  go_wp2
                  go_roundw
                  case rel => exact ⟨r + 1, A3, c3, m, qs, by go_num, rfl, QM.out, by omega, by rw [NY.out, V.out], S.out.wide (Nat.le_refl _) hy4, O.out, D.out, by omega⟩
                  case measure => simp [intOf]; omega
          · obtain rfl : N = r := by omega
            have i1 : ¬ (N : Int) < (N : Int) := by omega
            go_wp2
            go_ret
            exact ⟨A3, c3, qs, by rw [QM.out]; rfl, S.out.wide (by omega) (Nat.le_refl _), V.out, D.out⟩

set_option maxHeartbeats 4000000 in
theorem orbits_spec (n : Int) (A : Option Addr) (c : Nat) (rs : List Rw) (w : World) (h : RdS w w.heap.size A rs) (hl : rs.length ≤ 1048576) (hrow : ∀ q ∈ rs, q.zs.length ≤ 1048576) (hn : -9223372036854775808 ≤ n ∧ n ≤ 9223372036854775807) :
    Calls Try.prog 31 #[.int .i64 n, .slice A rs.length c] w (ResRows w (orbits n (vals rs))) := by
  have DG := Lib.hid (degree_spec n A c rs w.heap.size w h hl hrow hn)
  have H := Lib.hid h
  unfold orbits
  clear h
  rcases ha : Rp.arePm n (vals rs) with _ | _
  · rw [ha] at DG
    clear ha
    go_enter Try.func31, Try.ntmps31
    go_wp2_with fail
    refine DG.out.mono ?_
    rintro e w1 ⟨rfl, q1, rfl⟩
    go_wp2
    go_ret
    exact ⟨_, 0, [], rfl, (OwnS.empty (w.drewN q1)).wide (Nat.le_refl _) (by simp), rfl, (Go.Joins.below_draws _ _ _).alloc (Nat.le_refl _) _⟩
  · rw [ha] at DG
    obtain ⟨⟨n1, n4⟩, hp⟩ := Rp.arePm_iff.1 ha
    obtain ⟨N, rfl⟩ : ∃ N : Nat, n = N := ⟨n.toNat, by omega⟩
    have OB := Lib.hid (fun q => orb5_spec N A c rs (w.drewN q) (H.out.drewN q) hl hp (by omega) (by omega))
    clear ha hp hrow hn
    go_enter Try.func31, Try.ntmps31
    go_wp2_with fail
    refine DG.out.mono ?_
    rintro e w1 ⟨rfl, q1, rfl⟩
    go_wp2_with fail
    refine (OB.out q1).mono ?_
    rintro e w2 ⟨A2, c2, qs, rfl, h1, h2, h3⟩
    have O2 := Lib.hid h1
    have V2 := Lib.hid h2
    have D2 := Lib.hid h3
    clear h1 h2 h3
    go_wp2
    go_ret
    exact ⟨A2, c2, qs, rfl, O2.out, V2.out.trans (by simp), (Go.Joins.below_draws _ _ _).trans D2.out⟩

end Go.Proofs.Ytiibedpacnficaa
