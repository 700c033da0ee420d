/- WordAction, the program's. No condition but those that each theorem names. -/
import Derived.Test.YtakokhfnllpahaaRpG
namespace Go.Proofs.Ytakokhfnllpahaa
open Go.RowKit

theorem wordOk_q {n : Int} {zss : List (List Int)} {ws : List Int} {q : Int} (ha : Rp.arePm n zss = true) (hq : q = min (zss.length : Int) 24) : wordOk n zss ws = true ↔ Wd.isW q ws = true := by
  rw [wordOk_iff]
  simp only [Wd.isW, decide_eq_true_eq]
  constructor
  · rintro ⟨_, ⟨h1, h2⟩, h3⟩
    exact ⟨h1, fun x hx => by have := h2 x hx; have := h3 x hx; omega⟩
  · rintro ⟨h1, h2⟩
    exact ⟨ha, ⟨h1, fun x hx => by have := h2 x hx; omega⟩, fun x hx => by have := h2 x hx; omega⟩

set_option maxHeartbeats 8000000 in
theorem wordAct_impl (n : Int) (A Aw : Option Addr) (c nw cw : Nat) (rs : List Rw) (ws : List Int) (w : World) (hA : RdS w w.heap.size A rs) (hw : Ints w w.heap.size Aw nw ws) (hl : rs.length ≤ 1048576) (hrow : ∀ q ∈ rs, q.zs.length ≤ 1048576) (hwn : nw ≤ 1048576) (hc : rs.length ≤ c) (hcm : c ≤ maxLen) :
    Calls Try.prog 32 #[.int .i64 n, .slice A rs.length c, .slice Aw nw cw] w (ResLB w (wordAct n (vals rs) ws)) := by
  have DG := Lib.hid (perms_impl n A c rs w hA hl hrow)
  have HA := Lib.hid hA
  have HW := Lib.hid hw
  clear hrow hA hw
  rcases ha : Rp.arePm n (vals rs) with _ | _
  · have NO := Lib.hid (wordAct_no (show wordOk n (vals rs) ws = false from by unfold wordOk; rw [ha]; rfl))
    rw [ha] at DG
    rw [NO.out]
    clear ha
    go_enter Try.func32, Try.ntmps32
    go_wp2_with fail
    refine DG.out.mono ?_
    rintro e w1 ⟨rfl, hb1⟩
    have D1 := Lib.hid hb1
    clear hb1
    go_wp2
    refine bodyPost_ret (v := .tuple #[.slice none 0 0, .bool false]) (by simp [results, Try.results32, go_sem]) rfl ?_
    exact ⟨none, 0, rfl, ⟨Nat.le_refl _, Nat.zero_le _⟩, Mine.none_ _ _ _ _, D1.out⟩
  rw [ha] at DG
  obtain ⟨⟨n1, n4⟩, hpm⟩ := arePm_vals.1 ha
  have MP := Lib.hid (fun (W : World) (hb : Below w.heap.size w W) => maps_impl n A c rs W (HA.out.into hb) hpm n4 hc hcm hl)
  obtain ⟨N, hN⟩ : ∃ N : Nat, n = N := ⟨n.toNat, by omega⟩
  subst hN
  have PZ := Lib.hid (Rp.arePm_iff.1 ha).2
  have FT' := Lib.hid (fun (ho : wordOk (N : Int) (vals rs) ws = true) => (show Rp.Fits (min rs.length 24) ws from by have := (fits_word ho).1; rwa [vals_len] at this))
  have WQ := Lib.hid (fun (q : Int) (hq : q = min (rs.length : Int) 24) => (wordOk_q (n := (N : Int)) (zss := vals rs) (ws := ws) (q := q) ha (by rw [vals_len, hq])))
  clear ha hpm
  by_cases hq : 24 ≤ rs.length
  · have WOK := Lib.hid (WQ.out 24 (by omega))
    have i0 : (24 : Int) ≤ (rs.length : Int) := by omega
    have i0' : ¬ (rs.length : Int) < 24 := by omega
    rcases hiw : Wd.isW 24 ws with _ | _
    · have NO := Lib.hid (wordAct_no (show wordOk (N : Int) (vals rs) ws = false from by
        rw [Bool.eq_false_iff]
        intro h1
        have := (WOK.out.1 h1)
        rw [hiw] at this
        cases this))
      have IW2 := Lib.hid (fun (W : World) (hI : Ints W W.heap.size Aw nw ws) => wordUpTo_impl Aw nw cw ws 24 W.heap.size W hI hwn (by omega) (by omega))
      rw [hiw] at IW2
      rw [NO.out]
      clear hiw
      go_enter Try.func32, Try.ntmps32
      go_wp2_with fail
      refine (DG.out).mono ?_
      rintro e w1 ⟨rfl, hb1⟩
      have D1 := Lib.hid hb1
      have z1 : w.heap.size ≤ w1.heap.size := hb1.size
      clear hb1
      go_wp2_with fail
      refine (IW2.out _ ((HW.out.below D1.out).more z1)).mono ?_
      rintro e w2 ⟨rfl, hw2⟩
      have D2 := Lib.hid (show Below w.heap.size w w2 from by rw [← hw2]; exact D1.out)
      clear hw2
      go_wp2
      refine bodyPost_ret (v := .tuple #[.slice none 0 0, .bool false]) (by simp [results, Try.results32, go_sem]) rfl ?_
      exact ⟨none, 0, rfl, ⟨Nat.le_refl _, Nat.zero_le _⟩, Mine.none_ _ _ _ _, D2.out⟩
    · have HO := Lib.hid (WOK.out.2 hiw)
      have YES := Lib.hid (show wordAct (N : Int) (vals rs) ws = (imgs (vals rs) ws N, true) from by unfold wordAct; rw [if_pos HO.out, Int.toNat_natCast])
      have IW2 := Lib.hid (fun (W : World) (hI : Ints W W.heap.size Aw nw ws) => wordUpTo_impl Aw nw cw ws 24 W.heap.size W hI hwn (by omega) (by omega))
      rw [hiw] at IW2
      clear hiw
      go_enter Try.func32, Try.ntmps32
      go_wp2_with fail
      refine (DG.out).mono ?_
      rintro e w1 ⟨rfl, hb1⟩
      have D1 := Lib.hid hb1
      have z1 : w.heap.size ≤ w1.heap.size := hb1.size
      clear hb1
      go_wp2_with fail
      refine (IW2.out _ ((HW.out.below D1.out).more z1)).mono ?_
      rintro e w2 ⟨rfl, hw2⟩
      have D2 := Lib.hid (show Below w.heap.size w w2 from by rw [← hw2]; exact D1.out)
      have z2 : w.heap.size ≤ w2.heap.size := D2.out.size
      clear hw2
      go_wp2_with fail
      refine (MP.out _ D2.out).mono ?_
      rintro e w3 ⟨rfl, d, hb3, hm3, hbel3⟩
      have D3 := Lib.hid (D2.out.trans (hbel3.mono z2))
      have B3 := Lib.hid hb3
      have l3 := hb3.lt
      have WI := Lib.hid (fun (x : Int) (W : World) (hW : Below w.heap.size w W) (hbk : BlkM W w2.heap.size d) (a1 : 0 ≤ x) (a2 : x < (N : Int)) => word_impl w2.heap.size (min rs.length 24) N (vals rs) d Aw nw cw ws x w.heap.size W hbk hm3 (by rw [vals_len]; exact Nat.min_le_left _ _) PZ.out n4 (Nat.min_le_right _ _) (HW.out.below hW) hwn (FT'.out HO.out) a1 a2)
      have MK := run_make_ints N (by omega)
      clear hb3 hbel3 hm3
      go_upto_region 5 with fail
      obtain ⟨V, hV⟩ : ∃ V, V = w3.alloc (Obj.cells (Array.replicate N (Value.int .i64 0)) 2) := ⟨_, rfl⟩
      rw [← hV]
      have BV := Lib.hid (show Below w3.heap.size w3 V from by rw [hV]; exact al1 _ _)
      have GV := Lib.hid (show Blk V w3.heap.size (List.replicate N 0) from by rw [hV]; exact Blk.zeros w3 N)
      obtain ⟨sV1, sV2⟩ : V.heap.size ≤ w3.heap.size + 1 ∧ w3.heap.size + 1 ≤ V.heap.size := by rw [hV]; simp
      clear hV
      have DV := Lib.hid (D3.out.trans (BV.out.mono (by omega)))
      have MV := Lib.hid (B3.out.below BV.out l3)
      go_wp2
      go_loopw [28] (fun i W => ∃ (x : Nat) (d2 : List Int), x ≤ N ∧ i = .int .i64 x ∧ Blk W w3.heap.size d2 ∧ d2.length = N ∧ (∀ y, y < x → d2.getD y 0 = Rp.run (vals rs) ws (y : Int)) ∧ Kept w3.heap.size (w3.heap.size + 1) V W) (fun i _ => N - (intOf i).toNat)
      case atStart => exact ⟨0, _, Nat.zero_le _, rfl, GV.out, List.length_replicate .., fun y hy => by omega, Kept.refl _ _ _⟩
      case round =>
        obtain ⟨x, d2, hx, rfl, hbk, hdl, hval, hkp⟩ := hrel
        have GB := Lib.hid hbk
        have DL := Lib.hid hdl
        have VL := Lib.hid hval
        have KP := Lib.hid hkp
        have zk := hkp.size
        clear hbk hdl hval hkp
        have DW := Lib.hid (DV.out.trans (KP.out.below (B := w.heap.size) (by omega) (by omega)))
        by_cases hlx : x < N
        · have j1 : (x : Int) < (N : Int) := by omega
          have MW := Lib.hid (show BlkM wr w2.heap.size d from (KP.out.block w2.heap.size (by have := MV.out.lt; omega) (by omega)).trans MV.out)
          have WX := Lib.hid (WI.out (x : Int) wr DW.out MW.out (by omega) j1)
          obtain ⟨v, hv⟩ : ∃ v, Rp.run (vals rs) ws (x : Int) = v := ⟨_, rfl⟩
          have NV := Lib.hid (show ∀ y, y < x + 1 → (d2.set x v).getD y 0 = Rp.run (vals rs) ws (y : Int) from fun y hy => by
            rw [getD_set]
            by_cases e : x = y
            · subst e
              rw [if_pos ⟨rfl, by rw [DL.out]; exact hlx⟩]
              exact hv.symm
            · rw [if_neg (fun h => e h.1)]
              exact VL.out y (by omega))
          rw [hv] at WX
          clear hv
          have cx := GB.out.cell (i := x) (by rw [DL.out]; exact hlx)
          have fx := GB.out.frozen x
          go_wp2_with fail
          refine WX.out.mono ?_
          rintro e w4 ⟨rfl, rfl⟩
          go_wp2
          go_roundw
          case rel => exact ⟨x + 1, _, by omega, by go_num, GB.out.set_ _ _, by rw [List.length_set]; exact DL.out, NV.out, KP.out.set_ (p := ⟨w3.heap.size, x, none⟩) (Nat.le_refl _) (Nat.lt_succ_self _) _⟩
          case measure => simp [intOf]; omega
        · have hxn : x = N := by omega
          have j1 : ¬ (x : Int) < (N : Int) := by omega
          have FIN := Lib.hid (show d2 = imgs (vals rs) ws N from by
            apply List.ext_getElem
            · rw [DL.out, imgs_len]
            · intro k hk1 hk2
              have h1 := VL.out k (by rw [DL.out] at hk1; omega)
              rw [List.getD_eq_getElem?_getD, List.getElem?_eq_getElem hk1] at h1
              simpa [imgs] using h1)
          have GF := Lib.hid (show Blk wr w3.heap.size (imgs (vals rs) ws N) from by rw [← FIN.out]; exact GB.out)
          have lw := GF.out.lt
          subst hxn
          go_wp2
          refine bodyPost_ret (v := .tuple #[.slice (some ⟨w3.heap.size, 0, none⟩) x x, .bool true]) (by simp [results, Try.results32, go_sem]) rfl ?_
          rw [YES.out]
          refine ⟨some ⟨w3.heap.size, 0, none⟩, x, by rw [imgs_len], ?_, ?_, DW.out⟩
          · dsimp only; rw [imgs_len]; exact ⟨Nat.le_refl _, by unfold maxLen; omega⟩
          · dsimp only; rw [imgs_len]; exact Mine.of_blk GF.out (by have := D3.out.size; omega) lw (imgs_len _ _ _)
  · have WOK := Lib.hid (WQ.out (rs.length : Int) (by omega))
    have i0 : ¬ (24 : Int) ≤ (rs.length : Int) := by omega
    have i0' : (rs.length : Int) < 24 := by omega
    rcases hiw : Wd.isW (rs.length : Int) ws with _ | _
    · have NO := Lib.hid (wordAct_no (show wordOk (N : Int) (vals rs) ws = false from by
        rw [Bool.eq_false_iff]
        intro h1
        have := (WOK.out.1 h1)
        rw [hiw] at this
        cases this))
      have IW2 := Lib.hid (fun (W : World) (hI : Ints W W.heap.size Aw nw ws) => wordUpTo_impl Aw nw cw ws (rs.length : Int) W.heap.size W hI hwn (by omega) (by omega))
      rw [hiw] at IW2
      rw [NO.out]
      clear hiw
      go_enter Try.func32, Try.ntmps32
      go_wp2_with fail
      refine (DG.out).mono ?_
      rintro e w1 ⟨rfl, hb1⟩
      have D1 := Lib.hid hb1
      have z1 : w.heap.size ≤ w1.heap.size := hb1.size
      clear hb1
      go_wp2_with fail
      refine (IW2.out _ ((HW.out.below D1.out).more z1)).mono ?_
      rintro e w2 ⟨rfl, hw2⟩
      have D2 := Lib.hid (show Below w.heap.size w w2 from by rw [← hw2]; exact D1.out)
      clear hw2
      go_wp2
      refine bodyPost_ret (v := .tuple #[.slice none 0 0, .bool false]) (by simp [results, Try.results32, go_sem]) rfl ?_
      exact ⟨none, 0, rfl, ⟨Nat.le_refl _, Nat.zero_le _⟩, Mine.none_ _ _ _ _, D2.out⟩
    · have HO := Lib.hid (WOK.out.2 hiw)
      have YES := Lib.hid (show wordAct (N : Int) (vals rs) ws = (imgs (vals rs) ws N, true) from by unfold wordAct; rw [if_pos HO.out, Int.toNat_natCast])
      have IW2 := Lib.hid (fun (W : World) (hI : Ints W W.heap.size Aw nw ws) => wordUpTo_impl Aw nw cw ws (rs.length : Int) W.heap.size W hI hwn (by omega) (by omega))
      rw [hiw] at IW2
      clear hiw
      go_enter Try.func32, Try.ntmps32
      go_wp2_with fail
      refine (DG.out).mono ?_
      rintro e w1 ⟨rfl, hb1⟩
      have D1 := Lib.hid hb1
      have z1 : w.heap.size ≤ w1.heap.size := hb1.size
      clear hb1
      go_wp2_with fail
      refine (IW2.out _ ((HW.out.below D1.out).more z1)).mono ?_
      rintro e w2 ⟨rfl, hw2⟩
      have D2 := Lib.hid (show Below w.heap.size w w2 from by rw [← hw2]; exact D1.out)
      have z2 : w.heap.size ≤ w2.heap.size := D2.out.size
      clear hw2
      go_wp2_with fail
      refine (MP.out _ D2.out).mono ?_
      rintro e w3 ⟨rfl, d, hb3, hm3, hbel3⟩
      have D3 := Lib.hid (D2.out.trans (hbel3.mono z2))
      have B3 := Lib.hid hb3
      have l3 := hb3.lt
      have WI := Lib.hid (fun (x : Int) (W : World) (hW : Below w.heap.size w W) (hbk : BlkM W w2.heap.size d) (a1 : 0 ≤ x) (a2 : x < (N : Int)) => word_impl w2.heap.size (min rs.length 24) N (vals rs) d Aw nw cw ws x w.heap.size W hbk hm3 (by rw [vals_len]; exact Nat.min_le_left _ _) PZ.out n4 (Nat.min_le_right _ _) (HW.out.below hW) hwn (FT'.out HO.out) a1 a2)
      have MK := run_make_ints N (by omega)
      clear hb3 hbel3 hm3
      go_upto_region 5 with fail
      obtain ⟨V, hV⟩ : ∃ V, V = w3.alloc (Obj.cells (Array.replicate N (Value.int .i64 0)) 2) := ⟨_, rfl⟩
      rw [← hV]
      have BV := Lib.hid (show Below w3.heap.size w3 V from by rw [hV]; exact al1 _ _)
      have GV := Lib.hid (show Blk V w3.heap.size (List.replicate N 0) from by rw [hV]; exact Blk.zeros w3 N)
      obtain ⟨sV1, sV2⟩ : V.heap.size ≤ w3.heap.size + 1 ∧ w3.heap.size + 1 ≤ V.heap.size := by rw [hV]; simp
      clear hV
      have DV := Lib.hid (D3.out.trans (BV.out.mono (by omega)))
      have MV := Lib.hid (B3.out.below BV.out l3)
      go_wp2
      go_loopw [28] (fun i W => ∃ (x : Nat) (d2 : List Int), x ≤ N ∧ i = .int .i64 x ∧ Blk W w3.heap.size d2 ∧ d2.length = N ∧ (∀ y, y < x → d2.getD y 0 = Rp.run (vals rs) ws (y : Int)) ∧ Kept w3.heap.size (w3.heap.size + 1) V W) (fun i _ => N - (intOf i).toNat)
      case atStart => exact ⟨0, _, Nat.zero_le _, rfl, GV.out, List.length_replicate .., fun y hy => by omega, Kept.refl _ _ _⟩
      case round =>
        obtain ⟨x, d2, hx, rfl, hbk, hdl, hval, hkp⟩ := hrel
        have GB := Lib.hid hbk
        have DL := Lib.hid hdl
        have VL := Lib.hid hval
        have KP := Lib.hid hkp
        have zk := hkp.size
        clear hbk hdl hval hkp
        have DW := Lib.hid (DV.out.trans (KP.out.below (B := w.heap.size) (by omega) (by omega)))
        by_cases hlx : x < N
        · have j1 : (x : Int) < (N : Int) := by omega
          have MW := Lib.hid (show BlkM wr w2.heap.size d from (KP.out.block w2.heap.size (by have := MV.out.lt; omega) (by omega)).trans MV.out)
          have WX := Lib.hid (WI.out (x : Int) wr DW.out MW.out (by omega) j1)
          obtain ⟨v, hv⟩ : ∃ v, Rp.run (vals rs) ws (x : Int) = v := ⟨_, rfl⟩
          have NV := Lib.hid (show ∀ y, y < x + 1 → (d2.set x v).getD y 0 = Rp.run (vals rs) ws (y : Int) from fun y hy => by
            rw [getD_set]
            by_cases e : x = y
            · subst e
              rw [if_pos ⟨rfl, by rw [DL.out]; exact hlx⟩]
              exact hv.symm
            · rw [if_neg (fun h => e h.1)]
              exact VL.out y (by omega))
          rw [hv] at WX
          clear hv
          have cx := GB.out.cell (i := x) (by rw [DL.out]; exact hlx)
          have fx := GB.out.frozen x
          go_wp2_with fail
          refine WX.out.mono ?_
          rintro e w4 ⟨rfl, rfl⟩
          go_wp2
          go_roundw
          case rel => exact ⟨x + 1, _, by omega, by go_num, GB.out.set_ _ _, by rw [List.length_set]; exact DL.out, NV.out, KP.out.set_ (p := ⟨w3.heap.size, x, none⟩) (Nat.le_refl _) (Nat.lt_succ_self _) _⟩
          case measure => simp [intOf]; omega
        · have hxn : x = N := by omega
          have j1 : ¬ (x : Int) < (N : Int) := by omega
          have FIN := Lib.hid (show d2 = imgs (vals rs) ws N from by
            apply List.ext_getElem
            · rw [DL.out, imgs_len]
            · intro k hk1 hk2
              have h1 := VL.out k (by rw [DL.out] at hk1; omega)
              rw [List.getD_eq_getElem?_getD, List.getElem?_eq_getElem hk1] at h1
              simpa [imgs] using h1)
          have GF := Lib.hid (show Blk wr w3.heap.size (imgs (vals rs) ws N) from by rw [← FIN.out]; exact GB.out)
          have lw := GF.out.lt
          subst hxn
          go_wp2
          refine bodyPost_ret (v := .tuple #[.slice (some ⟨w3.heap.size, 0, none⟩) x x, .bool true]) (by simp [results, Try.results32, go_sem]) rfl ?_
          rw [YES.out]
          refine ⟨some ⟨w3.heap.size, 0, none⟩, x, by rw [imgs_len], ?_, ?_, DW.out⟩
          · dsimp only; rw [imgs_len]; exact ⟨Nat.le_refl _, by unfold maxLen; omega⟩
          · dsimp only; rw [imgs_len]; exact Mine.of_blk GF.out (by have := D3.out.size; omega) lw (imgs_len _ _ _)

end Go.Proofs.Ytakokhfnllpahaa
