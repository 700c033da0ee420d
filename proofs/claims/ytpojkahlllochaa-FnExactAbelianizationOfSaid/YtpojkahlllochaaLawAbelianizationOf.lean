/- The law FnExactAbelianizationOf returns true for every presentation that is passed in and changes no memory that was there. No condition. -/
import Derived.Test.YtpojkahlllochaaLiftP
import Derived.Test.YtpojkahlllochaaWdI
import Derived.Deep.RegionHeld3
namespace Go.Proofs.Ytpojkahlllochaa
open Go.ChangeShapes Go.WideShapes Go.ChangeAt Go.RowKit

theorem rows_of {rs qs : List Rw} (h : vals rs = vals qs) (hq : ∀ r ∈ qs, r.zs.length ≤ 1048576) : ∀ r ∈ rs, r.zs.length ≤ 1048576 := fun r hr => by
  have h1 : r.zs ∈ vals qs := by rw [← h]; exact List.mem_map_of_mem hr
  obtain ⟨q, hq1, hq2⟩ := List.mem_map.1 h1
  rw [← hq2]
  exact hq q hq1

theorem Wd.IsM.exists_ (R C : Nat) (F : Nat → Nat → Int) : ∃ d, IsM R C d F := ⟨(List.range (R * C)).map fun k => F (k / C) (k % C), by simp, fun a b ha hb => by
  have hlt := spot_lt ha hb
  have h1 : (a * C + b) / C = a := by rw [Nat.mul_comm, Nat.mul_add_div (by omega), Nat.div_eq_of_lt hb]; rfl
  have h2 : (a * C + b) % C = b := by rw [Nat.mul_comm, Nat.mul_add_mod, Nat.mod_eq_of_lt hb]
  rw [List.getD_eq_getElem?_getD, List.getElem?_map, List.getElem?_range hlt]
  simp [h1, h2]⟩
theorem len_of {rs qs : List Rw} (h : vals rs = vals qs) : rs.length = qs.length := by rw [← vals_len, ← vals_len, h]

set_option maxRecDepth 100000 in
set_option maxHeartbeats 16000000 in
theorem exactAbelianizationOf (ra : Int) (Aa : Option Addr) (ca : Nat) (rsa : List Rw) (gr : Int) (gz : List Int) (code : Int) (w : World) (ha : RdS w w.heap.size Aa rsa) (hna : rsa.length + tot rsa ≤ 1048576) (hz : gz.length ≤ 1048576)
    (hs : ∀ (W : World) (A : Option Addr) (c : Nat) (rs : List Rw), RdS W W.heap.size A rs → vals rs = vals rsa → Calls Try.prog 36 #[.agg #[.int .i64 ra, .slice A rs.length c]] W (ResLC W gr gz code))
    (hi : ∀ (W : World) (A : Option Addr) (c : Nat) (rs : List Rw), RdS W W.heap.size A rs → vals rs = vals rsa → Calls Try.prog 37 #[.agg #[.int .i64 ra, .slice A rs.length c]] W (ResLC W gr gz code)) :
    Calls Try.prog 10 #[.agg #[.int .i64 ra, .slice Aa rsa.length ca]] w fun e w' => e = .returned (.bool true) ∧ Below w.heap.size w w' := by
  have HS := Lib.hid hs
  have HI := Lib.hid hi
  clear hs hi
  have HB := Lib.hid (Below.refl w.heap.size w)
  have Ha := Lib.hid ha
  clear ha
  have hnl : rsa.length ≤ 1048576 := by omega
  have hml : rsa.length ≤ maxLen := Nat.le_trans hnl (by unfold maxLen; omega)
  have ROW := Lib.hid (show ∀ r ∈ rsa, r.zs.length ≤ 1048576 from fun r hr => by have := row_le_tot hr; omega)
  go_enter Try.func10, Try.ntmps10
  go_wp2_with fail
  refine (szP_any ra Aa ca rsa _ _ (Ha.out.into (al1 _ _)) hml (by omega) (by omega)).mono ?_
  rintro e w1 ⟨rfl, hb⟩
  rw [if_neg (by omega)]
  have D1 := Lib.hid (on1 _ hb)
  have s1 : w.heap.size + 1 ≤ w1.heap.size := by have := hb.size; (try simp at this); omega
  have aa_1 := Lib.hid ((BoxG.new w 42 (.int .i64 ra) (.slice Aa rsa.length ca)).below hb (by simp))
  have HB1 := Lib.hid (HB.out.trans (D1.out.mono (by omega)))
  clear HB
  have HB := HB1
  clear HB1 hb
  have z_aa : w.heap.size < w1.heap.size := by omega
  have tl : decide ((1048576 : Int) - (rsa.length : Int) - (tot rsa : Int) < 0) = false := by simp; omega
  obtain ⟨qaa0, qaa1⟩ := aa_1.out
  go_wp2_with fail
  refine (toP_any ra Aa ca rsa _ (Ha.out.into HB.out) hnl ROW.out).mono ?_
  rintro e w2 ⟨g2, c2, rs2, rfl, hk, hv, hb⟩
  clear qaa0 qaa1
  have X2_2 := Lib.hid (hk.wide (lo' := w1.heap.size) (hi' := w2.heap.size) (by simp) (Nat.le_refl _))
  have V2 := Lib.hid hv
  clear hk hv
  have D2 := Lib.hid (hb)
  have s2 : w1.heap.size + 0 ≤ w2.heap.size := by have := hb.size; (try simp at this); omega
  have aa_2 := Lib.hid (aa_1.out.below D2.out (by omega))
  clear aa_1
  have HB2 := Lib.hid (HB.out.trans (D2.out.mono (by omega)))
  clear HB
  have HB := HB2
  clear HB2 hb
  clear z_aa
  have z_aa : w.heap.size < w2.heap.size := by omega
  obtain ⟨qaa0, qaa1⟩ := aa_2.out
  go_wp2_with fail
  refine (HS.out _ _ _ _ (X2_2.out.rd.more (by (try simp) <;> omega)) V2.out).mono ?_
  rintro e w3 ⟨R3, t3, rfl, hown, hb⟩
  clear qaa0 qaa1
  have Y3_3 := Lib.hid (hown.wide (lo' := w2.heap.size) (hi' := w3.heap.size) (by simp) (Nat.le_refl _))
  clear hown
  have D3 := Lib.hid (hb)
  have s3 : w2.heap.size + 0 ≤ w3.heap.size := by have := hb.size; (try simp at this); omega
  have aa_3 := Lib.hid (aa_2.out.below D3.out (by omega))
  clear aa_2
  have X2_3 := Lib.hid (X2_2.out.below D3.out (by omega))
  clear X2_2
  have HB3 := Lib.hid (HB.out.trans (D3.out.mono (by omega)))
  clear HB
  have HB := HB3
  clear HB3 hb
  clear z_aa
  have z_aa : w.heap.size < w3.heap.size := by omega
  obtain ⟨qaa0, qaa1⟩ := aa_3.out
  go_wp2_with fail
  refine (toP_any ra Aa ca rsa _ (Ha.out.into (HB.out.trans ((al1 _ _).mono (by omega)))) hnl ROW.out).mono ?_
  rintro e w4 ⟨g4, c4, rs4, rfl, hk, hv, hb⟩
  clear qaa0 qaa1
  have X4_4 := Lib.hid (hk.wide (lo' := w3.heap.size + 1) (hi' := w4.heap.size) (by simp) (Nat.le_refl _))
  have V4 := Lib.hid hv
  clear hk hv
  have D4 := Lib.hid (on1 _ hb)
  have s4 : w3.heap.size + 1 ≤ w4.heap.size := by have := hb.size; (try simp at this); omega
  have aa_4 := Lib.hid (aa_3.out.below D4.out (by omega))
  clear aa_3
  have bw_4 := Lib.hid ((BoxG.new w3 48 (.int .i64 gr) (.slice R3 gz.length t3)).below hb (by simp))
  have Y3_4 := Lib.hid (Y3_3.out.below D4.out (by omega))
  clear Y3_3
  have HB4 := Lib.hid (HB.out.trans (D4.out.mono (by omega)))
  clear HB
  have HB := HB4
  clear HB4 hb
  clear z_aa
  have z_aa : w.heap.size < w4.heap.size := by omega
  have z_bw : w3.heap.size < w4.heap.size := by omega
  as_aux_lemma =>
    obtain ⟨qaa0, qaa1⟩ := aa_4.out
    obtain ⟨qbw0, qbw1⟩ := bw_4.out
    go_wp2_with fail
    refine (HI.out _ _ _ _ ((X4_4.out.al (by omega) (al1 _ _)).rd.more (by (try simp) <;> omega)) V4.out).mono ?_
    rintro e w5 ⟨R5, t5, rfl, hown, hb⟩
    clear qaa0 qaa1 qbw0 qbw1
    have Y5_5 := Lib.hid (hown.wide (lo' := w4.heap.size + 1) (hi' := w5.heap.size) (by simp) (Nat.le_refl _))
    clear hown
    have D5 := Lib.hid (on1 _ hb)
    have s5 : w4.heap.size + 1 ≤ w5.heap.size := by have := hb.size; (try simp at this); omega
    have aa_5 := Lib.hid (aa_4.out.below D5.out (by omega))
    clear aa_4
    have bw_5 := Lib.hid (bw_4.out.below D5.out (by omega))
    clear bw_4
    have bx_5 := Lib.hid ((BoxG.new w4 31 (.int .i64 ra) (.slice (some ⟨g4, 0, none⟩) rs4.length c4)).below hb (by simp))
    have Y3_5 := Lib.hid (Y3_4.out.below D5.out (by omega))
    clear Y3_4
    have X4_5 := Lib.hid (X4_4.out.below D5.out (by omega))
    clear X4_4
    have HB5 := Lib.hid (HB.out.trans (D5.out.mono (by omega)))
    clear HB
    have HB := HB5
    clear HB5 hb
    clear z_aa
    have z_aa : w.heap.size < w5.heap.size := by omega
    clear z_bw
    have z_bw : w3.heap.size < w5.heap.size := by omega
    have z_bx : w4.heap.size < w5.heap.size := by omega
    obtain ⟨qaa0, qaa1⟩ := aa_5.out
    obtain ⟨qbw0, qbw1⟩ := bw_5.out
    obtain ⟨qbx0, qbx1⟩ := bx_5.out
    go_wp2_with fail
    refine (eqAbelianGroup_my gr _ _ _ _ _ gz (w5.heap.size) (w3.heap.size) _ (by (try simp) <;> omega) (by (try simp) <;> omega) (Y5_5.out.al (by omega) (al1 _ _)).ints (Y3_5.out.al (by omega) (al1 _ _)).ints hz).mono ?_
    rintro e w6 ⟨rfl, hb⟩
    clear qaa0 qaa1 qbw0 qbw1 qbx0 qbx1
    have D6 := Lib.hid (on1 _ hb)
    have s6 : w5.heap.size + 1 ≤ w6.heap.size := by have := hb.size; (try simp at this); omega
    have aa_6 := Lib.hid (aa_5.out.below D6.out (by omega))
    clear aa_5
    have bw_6 := Lib.hid (bw_5.out.below D6.out (by omega))
    clear bw_5
    have bx_6 := Lib.hid (bx_5.out.below D6.out (by omega))
    clear bx_5
    have bg_6 := Lib.hid ((BoxG.new w5 48 (.int .i64 gr) (.slice R5 gz.length t5)).below hb (by simp))
    have Y3_6 := Lib.hid (Y3_5.out.below D6.out (by omega))
    clear Y3_5
    have X4_6 := Lib.hid (X4_5.out.below D6.out (by omega))
    clear X4_5
    have Y5_6 := Lib.hid (Y5_5.out.below D6.out (by omega))
    clear Y5_5
    have HB6 := Lib.hid (HB.out.trans (D6.out.mono (by omega)))
    clear HB
    have HB := HB6
    clear HB6 hb
    clear z_aa
    have z_aa : w.heap.size < w6.heap.size := by omega
    clear z_bw
    have z_bw : w3.heap.size < w6.heap.size := by omega
    clear z_bx
    have z_bx : w4.heap.size < w6.heap.size := by omega
    have z_bg : w5.heap.size < w6.heap.size := by omega
    as_aux_lemma =>
      obtain ⟨qaa0, qaa1⟩ := aa_6.out
      obtain ⟨qbw0, qbw1⟩ := bw_6.out
      obtain ⟨qbx0, qbx1⟩ := bx_6.out
      obtain ⟨qbg0, qbg1⟩ := bg_6.out
      go_wp2_with fail
      go_region_held3 (fun W => (W.cell? ⟨w4.heap.size, 0, none⟩ = some (.int .i64 ra) ∧ W.cell? ⟨w4.heap.size, 1, none⟩ = some (.slice (some ⟨g4, 0, none⟩) rs4.length c4)) ∧ (W.cell? ⟨w.heap.size, 0, none⟩ = some (.int .i64 ra) ∧ W.cell? ⟨w.heap.size, 1, none⟩ = some (.slice Aa rsa.length ca))) (go_keep)
        (first
          | (go_at_call 33; (with_reducible refine (toP_any ra Aa ca rsa _ (by exact Ha.out.into HB.out.drew) hnl ROW.out).mono ?_); rintro e w7 ⟨g7, c7, rs7, rfl, hk6, hv6, hb6'⟩; have hb6 := undrew hb6'; have K6 := Lib.hid hk6; have B6 := Lib.hid hb6; have V6 := Lib.hid hv6; have z6 := hb6.size; obtain ⟨e0, e1⟩ := bx_6.out.below hb6 (by omega); obtain ⟨f0, f1⟩ := aa_6.out.below hb6 (by omega); clear hk6 hv6 hb6 hb6')
          | (go_at_call 35; (with_reducible refine (eqP_any ra _ _ _ _ rs4 _ w4.heap.size _ _ (by exact X4_6.out.rd.below (B6.out.mono (by omega))) (by exact K6.out.rd) (V4.out.trans V6.out.symm) (by have := B6.out.size; omega) (Nat.le_refl _) (by have h1 := congrArg List.length V4.out; rw [vals_len, vals_len] at h1; omega) (rows_of V4.out ROW.out)).mono ?_); rintro e w8 ⟨rfl, hb7⟩; obtain ⟨m0, m1⟩ := (bx_6.out.below B6.out (by omega)).below hb7 (by omega); obtain ⟨y0, y1⟩ := (aa_6.out.below B6.out (by omega)).below hb7 (by omega)))
      clear e0 e1 f0 f1 m0 m1 y0 y1 K6 V6
      clear qaa0 qaa1 qbw0 qbw1 qbx0 qbx1 qbg0 qbg1
      have hb6 := B6.out
      clear B6
      have D7 := Lib.hid (hb6)
      have s7 : w6.heap.size + 0 ≤ w7.heap.size := by have := hb6.size; (try simp at this); omega
      have aa_7 := Lib.hid (aa_6.out.below D7.out (by omega))
      clear aa_6
      have bw_7 := Lib.hid (bw_6.out.below D7.out (by omega))
      clear bw_6
      have bx_7 := Lib.hid (bx_6.out.below D7.out (by omega))
      clear bx_6
      have bg_7 := Lib.hid (bg_6.out.below D7.out (by omega))
      clear bg_6
      have Y3_7 := Lib.hid (Y3_6.out.below D7.out (by omega))
      clear Y3_6
      have X4_7 := Lib.hid (X4_6.out.below D7.out (by omega))
      clear X4_6
      have Y5_7 := Lib.hid (Y5_6.out.below D7.out (by omega))
      clear Y5_6
      have HB7 := Lib.hid (HB.out.trans (D7.out.mono (by omega)))
      clear HB
      have HB := HB7
      clear HB7 hb6
      clear z_aa
      have z_aa : w.heap.size < w7.heap.size := by omega
      clear z_bw
      have z_bw : w3.heap.size < w7.heap.size := by omega
      clear z_bx
      have z_bx : w4.heap.size < w7.heap.size := by omega
      clear z_bg
      have z_bg : w5.heap.size < w7.heap.size := by omega
      have D8 := Lib.hid (hb7)
      have s8 : w7.heap.size + 0 ≤ w8.heap.size := by have := hb7.size; (try simp at this); omega
      have aa_8 := Lib.hid (aa_7.out.below D8.out (by omega))
      clear aa_7
      have bw_8 := Lib.hid (bw_7.out.below D8.out (by omega))
      clear bw_7
      have bx_8 := Lib.hid (bx_7.out.below D8.out (by omega))
      clear bx_7
      have bg_8 := Lib.hid (bg_7.out.below D8.out (by omega))
      clear bg_7
      have Y3_8 := Lib.hid (Y3_7.out.below D8.out (by omega))
      clear Y3_7
      have X4_8 := Lib.hid (X4_7.out.below D8.out (by omega))
      clear X4_7
      have Y5_8 := Lib.hid (Y5_7.out.below D8.out (by omega))
      clear Y5_7
      have HB8 := Lib.hid (HB.out.trans (D8.out.mono (by omega)))
      clear HB
      have HB := HB8
      clear HB8 hb7
      clear z_aa
      have z_aa : w.heap.size < w8.heap.size := by omega
      clear z_bw
      have z_bw : w3.heap.size < w8.heap.size := by omega
      clear z_bx
      have z_bx : w4.heap.size < w8.heap.size := by omega
      clear z_bg
      have z_bg : w5.heap.size < w8.heap.size := by omega
      as_aux_lemma =>
        obtain ⟨qaa0, qaa1⟩ := aa_8.out
        obtain ⟨qbw0, qbw1⟩ := bw_8.out
        obtain ⟨qbx0, qbx1⟩ := bx_8.out
        obtain ⟨qbg0, qbg1⟩ := bg_8.out
        go_wp2_with fail
        have tx := tot_vals V4.out
        have lx : rs4.length = rsa.length := by have h1 := congrArg List.length V4.out; rw [vals_len, vals_len] at h1; exact h1
        refine (markP_any _ (some ⟨g4, 0, none⟩) c4 1 rs4 (w3.heap.size + 1) (w4.heap.size) _ X4_8.out (by omega) (by omega) (by omega) (by omega)).mono ?_
        rintro e w9 ⟨rfl, hown, hk⟩
        clear qaa0 qaa1 qbw0 qbw1 qbx0 qbx1 qbg0 qbg1
        clear X4_8 hown lx
        have TX := Lib.hid tx
        clear tx
        have D9 := Lib.hid (hk)
        have s9 : w8.heap.size ≤ w9.heap.size := hk.size
        have aa_9 := Lib.hid (aa_8.out.kept D9.out (by omega) (by omega))
        clear aa_8
        have bw_9 := Lib.hid (bw_8.out.kept D9.out (by omega) (by omega))
        clear bw_8
        have bx_9 := Lib.hid (bx_8.out.kept D9.out (by omega) (by omega))
        clear bx_8
        have bg_9 := Lib.hid (bg_8.out.kept D9.out (by omega) (by omega))
        clear bg_8
        have Y3_9 := Lib.hid (Y3_8.out.kept D9.out (by omega) (by omega))
        clear Y3_8
        have Y5_9 := Lib.hid (Y5_8.out.kept D9.out (by omega) (by omega))
        clear Y5_8
        have HB9 := Lib.hid (HB.out.trans (D9.out.below (by omega) (by omega)))
        clear HB
        have HB := HB9
        clear HB9 hk
        clear z_aa
        have z_aa : w.heap.size < w9.heap.size := by omega
        clear z_bw
        have z_bw : w3.heap.size < w9.heap.size := by omega
        clear z_bx
        have z_bx : w4.heap.size < w9.heap.size := by omega
        clear z_bg
        have z_bg : w5.heap.size < w9.heap.size := by omega
        have tx0 : (0 : Int) ≤ 1 + (tot rs4 : Int) := by omega
        have tx1 : decide ((1 : Int) + (tot rs4 : Int) < 0) = false := by simp; omega
        obtain ⟨qaa0, qaa1⟩ := aa_9.out
        obtain ⟨qbw0, qbw1⟩ := bw_9.out
        obtain ⟨qbx0, qbx1⟩ := bx_9.out
        obtain ⟨qbg0, qbg1⟩ := bg_9.out
        go_wp2_with fail
        refine (eqAbelianGroup_my gr _ _ _ _ _ gz (w5.heap.size) (w3.heap.size) _ (by (try simp) <;> omega) (by (try simp) <;> omega) Y5_9.out.ints Y3_9.out.ints hz).mono ?_
        rintro e w10 ⟨rfl, hb⟩
        clear qaa0 qaa1 qbw0 qbw1 qbx0 qbx1 qbg0 qbg1
        have D10 := Lib.hid (hb)
        have s10 : w9.heap.size + 0 ≤ w10.heap.size := by have := hb.size; (try simp at this); omega
        have aa_10 := Lib.hid (aa_9.out.below D10.out (by omega))
        clear aa_9
        have bw_10 := Lib.hid (bw_9.out.below D10.out (by omega))
        clear bw_9
        have bx_10 := Lib.hid (bx_9.out.below D10.out (by omega))
        clear bx_9
        have bg_10 := Lib.hid (bg_9.out.below D10.out (by omega))
        clear bg_9
        have Y3_10 := Lib.hid (Y3_9.out.below D10.out (by omega))
        clear Y3_9
        have Y5_10 := Lib.hid (Y5_9.out.below D10.out (by omega))
        clear Y5_9
        have HB10 := Lib.hid (HB.out.trans (D10.out.mono (by omega)))
        clear HB
        have HB := HB10
        clear HB10 hb
        clear z_aa
        have z_aa : w.heap.size < w10.heap.size := by omega
        clear z_bw
        have z_bw : w3.heap.size < w10.heap.size := by omega
        clear z_bx
        have z_bx : w4.heap.size < w10.heap.size := by omega
        clear z_bg
        have z_bg : w5.heap.size < w10.heap.size := by omega
        as_aux_lemma =>
          obtain ⟨qaa0, qaa1⟩ := aa_10.out
          obtain ⟨qbw0, qbw1⟩ := bw_10.out
          obtain ⟨qbx0, qbx1⟩ := bx_10.out
          obtain ⟨qbg0, qbg1⟩ := bg_10.out
          go_wp2_with fail
          refine (markAbelianGroup_my gr R5 gz.length t5 1 gz (w4.heap.size + 1) (w5.heap.size) _ Y5_10.out (by omega) hz (by omega) (by omega)).mono ?_
          rintro e w11 ⟨rfl, hown, hk⟩
          clear qaa0 qaa1 qbw0 qbw1 qbx0 qbx1 qbg0 qbg1
          have Y5_11 := Lib.hid hown
          clear Y5_10 hown
          have D11 := Lib.hid (hk)
          have s11 : w10.heap.size ≤ w11.heap.size := hk.size
          have aa_11 := Lib.hid (aa_10.out.kept D11.out (by omega) (by omega))
          clear aa_10
          have bw_11 := Lib.hid (bw_10.out.kept D11.out (by omega) (by omega))
          clear bw_10
          have bx_11 := Lib.hid (bx_10.out.kept D11.out (by omega) (by omega))
          clear bx_10
          have bg_11 := Lib.hid (bg_10.out.kept D11.out (by omega) (by omega))
          clear bg_10
          have Y3_11 := Lib.hid (Y3_10.out.kept D11.out (by omega) (by omega))
          clear Y3_10
          have HB11 := Lib.hid (HB.out.trans (D11.out.below (by omega) (by omega)))
          clear HB
          have HB := HB11
          clear HB11 hk
          clear z_aa
          have z_aa : w.heap.size < w11.heap.size := by omega
          clear z_bw
          have z_bw : w3.heap.size < w11.heap.size := by omega
          clear z_bx
          have z_bx : w4.heap.size < w11.heap.size := by omega
          clear z_bg
          have z_bg : w5.heap.size < w11.heap.size := by omega
          have tq : decide ((1 : Int) + (gz.length : Int) < 0) = false := by simp; omega
          obtain ⟨qaa0, qaa1⟩ := aa_11.out
          obtain ⟨qbw0, qbw1⟩ := bw_11.out
          obtain ⟨qbx0, qbx1⟩ := bx_11.out
          obtain ⟨qbg0, qbg1⟩ := bg_11.out
          go_wp2_with fail
          refine (heldAbelianGroup_my gr R5 gz.length t5 1 (w5.heap.size) _ Y5_11.out.ints (by omega) hz (by omega) (by omega)).mono ?_
          rintro e w12 ⟨rfl, hb⟩
          clear qaa0 qaa1 qbw0 qbw1 qbx0 qbx1 qbg0 qbg1
          have D12 := Lib.hid (hb)
          have s12 : w11.heap.size + 0 ≤ w12.heap.size := by have := hb.size; (try simp at this); omega
          have aa_12 := Lib.hid (aa_11.out.below D12.out (by omega))
          clear aa_11
          have bw_12 := Lib.hid (bw_11.out.below D12.out (by omega))
          clear bw_11
          have bx_12 := Lib.hid (bx_11.out.below D12.out (by omega))
          clear bx_11
          have bg_12 := Lib.hid (bg_11.out.below D12.out (by omega))
          clear bg_11
          have Y3_12 := Lib.hid (Y3_11.out.below D12.out (by omega))
          clear Y3_11
          have Y5_12 := Lib.hid (Y5_11.out.below D12.out (by omega))
          clear Y5_11
          have HB12 := Lib.hid (HB.out.trans (D12.out.mono (by omega)))
          clear HB
          have HB := HB12
          clear HB12 hb
          clear z_aa
          have z_aa : w.heap.size < w12.heap.size := by omega
          clear z_bw
          have z_bw : w3.heap.size < w12.heap.size := by omega
          clear z_bx
          have z_bx : w4.heap.size < w12.heap.size := by omega
          clear z_bg
          have z_bg : w5.heap.size < w12.heap.size := by omega
          as_aux_lemma =>
            obtain ⟨qaa0, qaa1⟩ := aa_12.out
            obtain ⟨qbw0, qbw1⟩ := bw_12.out
            obtain ⟨qbx0, qbx1⟩ := bx_12.out
            obtain ⟨qbg0, qbg1⟩ := bg_12.out
            go_wp2_with fail
            refine (toP_any ra Aa ca rsa _ (Ha.out.into HB.out) hnl ROW.out).mono ?_
            rintro e w13 ⟨g13, c13, rs13, rfl, hk, hv, hb⟩
            clear qaa0 qaa1 qbw0 qbw1 qbx0 qbx1 qbg0 qbg1
            have X13_13 := Lib.hid (hk.wide (lo' := w12.heap.size) (hi' := w13.heap.size) (by simp) (Nat.le_refl _))
            have V13 := Lib.hid hv
            clear hk hv
            have D13 := Lib.hid (hb)
            have s13 : w12.heap.size + 0 ≤ w13.heap.size := by have := hb.size; (try simp at this); omega
            have aa_13 := Lib.hid (aa_12.out.below D13.out (by omega))
            clear aa_12
            have bw_13 := Lib.hid (bw_12.out.below D13.out (by omega))
            clear bw_12
            have bx_13 := Lib.hid (bx_12.out.below D13.out (by omega))
            clear bx_12
            have bg_13 := Lib.hid (bg_12.out.below D13.out (by omega))
            clear bg_12
            have Y3_13 := Lib.hid (Y3_12.out.below D13.out (by omega))
            clear Y3_12
            have Y5_13 := Lib.hid (Y5_12.out.below D13.out (by omega))
            clear Y5_12
            have HB13 := Lib.hid (HB.out.trans (D13.out.mono (by omega)))
            clear HB
            have HB := HB13
            clear HB13 hb
            clear z_aa
            have z_aa : w.heap.size < w13.heap.size := by omega
            clear z_bw
            have z_bw : w3.heap.size < w13.heap.size := by omega
            clear z_bx
            have z_bx : w4.heap.size < w13.heap.size := by omega
            clear z_bg
            have z_bg : w5.heap.size < w13.heap.size := by omega
            obtain ⟨qaa0, qaa1⟩ := aa_13.out
            obtain ⟨qbw0, qbw1⟩ := bw_13.out
            obtain ⟨qbx0, qbx1⟩ := bx_13.out
            obtain ⟨qbg0, qbg1⟩ := bg_13.out
            go_wp2_with fail
            refine (HI.out _ _ _ _ (X13_13.out.rd.more (by (try simp) <;> omega)) V13.out).mono ?_
            rintro e w14 ⟨R14, t14, rfl, hown, hb⟩
            clear qaa0 qaa1 qbw0 qbw1 qbx0 qbx1 qbg0 qbg1
            have Y14_14 := Lib.hid (hown.wide (lo' := w13.heap.size) (hi' := w14.heap.size) (by simp) (Nat.le_refl _))
            clear hown
            have D14 := Lib.hid (hb)
            have s14 : w13.heap.size + 0 ≤ w14.heap.size := by have := hb.size; (try simp at this); omega
            have aa_14 := Lib.hid (aa_13.out.below D14.out (by omega))
            clear aa_13
            have bw_14 := Lib.hid (bw_13.out.below D14.out (by omega))
            clear bw_13
            have bx_14 := Lib.hid (bx_13.out.below D14.out (by omega))
            clear bx_13
            have bg_14 := Lib.hid (bg_13.out.below D14.out (by omega))
            clear bg_13
            have Y3_14 := Lib.hid (Y3_13.out.below D14.out (by omega))
            clear Y3_13
            have Y5_14 := Lib.hid (Y5_13.out.below D14.out (by omega))
            clear Y5_13
            have X13_14 := Lib.hid (X13_13.out.below D14.out (by omega))
            clear X13_13
            have HB14 := Lib.hid (HB.out.trans (D14.out.mono (by omega)))
            clear HB
            have HB := HB14
            clear HB14 hb
            clear z_aa
            have z_aa : w.heap.size < w14.heap.size := by omega
            clear z_bw
            have z_bw : w3.heap.size < w14.heap.size := by omega
            clear z_bx
            have z_bx : w4.heap.size < w14.heap.size := by omega
            clear z_bg
            have z_bg : w5.heap.size < w14.heap.size := by omega
            obtain ⟨qaa0, qaa1⟩ := aa_14.out
            obtain ⟨qbw0, qbw1⟩ := bw_14.out
            obtain ⟨qbx0, qbx1⟩ := bx_14.out
            obtain ⟨qbg0, qbg1⟩ := bg_14.out
            go_wp2_with fail
            refine (eqAbelianGroup_my gr _ _ _ _ _ gz (w14.heap.size) (w3.heap.size) _ (by (try simp) <;> omega) (by (try simp) <;> omega) (Y14_14.out.al (by omega) (al1 _ _)).ints (Y3_14.out.al (by omega) (al1 _ _)).ints hz).mono ?_
            rintro e w15 ⟨rfl, hb⟩
            clear qaa0 qaa1 qbw0 qbw1 qbx0 qbx1 qbg0 qbg1
            have D15 := Lib.hid (on1 _ hb)
            have s15 : w14.heap.size + 1 ≤ w15.heap.size := by have := hb.size; (try simp at this); omega
            have aa_15 := Lib.hid (aa_14.out.below D15.out (by omega))
            clear aa_14
            have bw_15 := Lib.hid (bw_14.out.below D15.out (by omega))
            clear bw_14
            have bx_15 := Lib.hid (bx_14.out.below D15.out (by omega))
            clear bx_14
            have bg_15 := Lib.hid (bg_14.out.below D15.out (by omega))
            clear bg_14
            have bh_15 := Lib.hid ((BoxG.new w14 48 (.int .i64 gr) (.slice R14 gz.length t14)).below hb (by simp))
            have Y3_15 := Lib.hid (Y3_14.out.below D15.out (by omega))
            clear Y3_14
            have Y5_15 := Lib.hid (Y5_14.out.below D15.out (by omega))
            clear Y5_14
            have Y14_15 := Lib.hid (Y14_14.out.below D15.out (by omega))
            clear Y14_14
            have HB15 := Lib.hid (HB.out.trans (D15.out.mono (by omega)))
            clear HB
            have HB := HB15
            clear HB15 hb
            clear z_aa
            have z_aa : w.heap.size < w15.heap.size := by omega
            clear z_bw
            have z_bw : w3.heap.size < w15.heap.size := by omega
            clear z_bx
            have z_bx : w4.heap.size < w15.heap.size := by omega
            clear z_bg
            have z_bg : w5.heap.size < w15.heap.size := by omega
            have z_bh : w14.heap.size < w15.heap.size := by omega
            as_aux_lemma =>
              obtain ⟨qaa0, qaa1⟩ := aa_15.out
              obtain ⟨qbw0, qbw1⟩ := bw_15.out
              obtain ⟨qbx0, qbx1⟩ := bx_15.out
              obtain ⟨qbg0, qbg1⟩ := bg_15.out
              obtain ⟨qbh0, qbh1⟩ := bh_15.out
              go_wp2_with fail
              refine (heldAbelianGroup_my gr R5 gz.length t5 1 (w5.heap.size) _ Y5_15.out.ints (by omega) hz (by omega) (by omega)).mono ?_
              rintro e w16 ⟨rfl, hb⟩
              clear qaa0 qaa1 qbw0 qbw1 qbx0 qbx1 qbg0 qbg1 qbh0 qbh1
              have D16 := Lib.hid (hb)
              have s16 : w15.heap.size + 0 ≤ w16.heap.size := by have := hb.size; (try simp at this); omega
              have aa_16 := Lib.hid (aa_15.out.below D16.out (by omega))
              clear aa_15
              have bw_16 := Lib.hid (bw_15.out.below D16.out (by omega))
              clear bw_15
              have bx_16 := Lib.hid (bx_15.out.below D16.out (by omega))
              clear bx_15
              have bg_16 := Lib.hid (bg_15.out.below D16.out (by omega))
              clear bg_15
              have bh_16 := Lib.hid (bh_15.out.below D16.out (by omega))
              clear bh_15
              have Y3_16 := Lib.hid (Y3_15.out.below D16.out (by omega))
              clear Y3_15
              have Y5_16 := Lib.hid (Y5_15.out.below D16.out (by omega))
              clear Y5_15
              have Y14_16 := Lib.hid (Y14_15.out.below D16.out (by omega))
              clear Y14_15
              have HB16 := Lib.hid (HB.out.trans (D16.out.mono (by omega)))
              clear HB
              have HB := HB16
              clear HB16 hb
              clear z_aa
              have z_aa : w.heap.size < w16.heap.size := by omega
              clear z_bw
              have z_bw : w3.heap.size < w16.heap.size := by omega
              clear z_bx
              have z_bx : w4.heap.size < w16.heap.size := by omega
              clear z_bg
              have z_bg : w5.heap.size < w16.heap.size := by omega
              clear z_bh
              have z_bh : w14.heap.size < w16.heap.size := by omega
              go_wp2
              go_ret
              exact ⟨rfl, HB.out⟩

set_option maxHeartbeats 1000000 in
theorem bigAbelianizationOf (r : Int) (A : Option Addr) (c : Nat) (rs : List Rw) (w : World) (h : RdS w w.heap.size A rs) (hm : rs.length ≤ maxLen) (hn : ¬ rs.length + tot rs ≤ 1048576) :
    Calls Try.prog 10 #[.agg #[.int .i64 r, .slice A rs.length c]] w fun e w' => e = .returned (.bool true) ∧ Below w.heap.size w w' := by
  have H := Lib.hid (h.into (al1 w (Obj.cells #[.int .i64 r, .slice A rs.length c] 42)))
  clear h
  go_enter Try.func10, Try.ntmps10
  go_wp2_with fail
  refine (szP_any r A c rs _ _ H.out hm (by omega) (by omega)).mono ?_
  rintro e w1 ⟨rfl, hb⟩
  rw [if_pos (by omega)]
  go_wp2
  go_ret
  exact ⟨rfl, on1 _ hb⟩
theorem allAbelianizationOf (r : Int) (A : Option Addr) (c : Nat) (rs : List Rw) (w : World) (h : RdS w w.heap.size A rs) (hm : rs.length ≤ maxLen) :
    Calls Try.prog 10 #[.agg #[.int .i64 r, .slice A rs.length c]] w fun e w' => e = .returned (.bool true) ∧ Below w.heap.size w w' := by
  by_cases hn : rs.length + tot rs ≤ 1048576
  case neg => exact bigAbelianizationOf r A c rs w h hm hn
  · have hrow : ∀ r ∈ rs, r.zs.length ≤ 1048576 := fun q hq => by have := row_le_tot hq; omega
    rcases hp : Wd.isP r (vals rs) with _ | _
    · exact exactAbelianizationOf r A c rs 0 [] 1 w h hn (by simp)
        (fun W A' c' qs h' hv => abel_no_spec r A' c' qs W h' (by rw [len_of hv]; omega) (rows_of hv hrow) (by rw [hv]; exact hp))
        (fun W A' c' qs h' hv => abel_no_impl r A' c' qs W h' (by rw [len_of hv]; omega) (rows_of hv hrow) (by rw [hv]; exact hp))
    · obtain ⟨r0, r24, r48, hz⟩ := Wd.isP_iff.1 hp
      obtain ⟨R, rfl⟩ := Int.eq_ofNat_of_zero_le r0
      rw [vals_len] at r48
      obtain ⟨d0, hd⟩ := Wd.IsM.exists_ R rs.length (Wd.expo rs)
      have mok := Wd.expo_ok hd (by omega) r48 (fun j => by
        rcases Nat.lt_or_ge j rs.length with hj | hj
        · exact (Wd.isW_fit (Wd.isR_iff.1 (hz _ (vals_mem hj))).1).1
        · rw [List.getD_eq_getElem?_getD, List.getElem?_eq_none hj]; exact Nat.zero_le _)
      obtain ⟨gr, l, code, hk⟩ := cok_both R rs.length d0 (by omega) r48 mok
      have conv : ∀ qs, vals qs = vals rs → Wd.IsM R qs.length d0 (Wd.expo qs) := fun qs hv => by
        rw [len_of hv]
        exact hd.congr fun a b _ _ => by unfold Wd.expo; rw [vals_at hv b]
      have hkq : ∀ qs, vals qs = vals rs → CokBoth R qs.length d0 gr l code := fun qs hv => by rw [len_of hv]; exact hk
      exact exactAbelianizationOf R A c rs gr l code w h hn (by have := hk.1; omega)
        (fun W A' c' qs h' hv => abel_spec R A' c' qs d0 gr l code W h' (by rw [hv]; exact hp) (conv qs hv) (hkq qs hv))
        (fun W A' c' qs h' hv => abel_impl R A' c' qs d0 gr l code W h' (by rw [hv]; exact hp) (conv qs hv) (hkq qs hv))

set_option maxRecDepth 100000 in
theorem exactAbelianizationOf_lifted (os : Os) (started : os.Started) (H : Type) (enc : TypeId × Value → H) :
    ReturnsInHanded {} Try.checked os 10 .any (Rows.fnExactAbelianizationOfSpec.pre6 enc Try.prog Try.f10 Rows.fnExactAbelianizationOfRow.domain false) (Rows.fnExactAbelianizationOfSpec.post enc Try.prog Try.f10 false true false false) := by
  refine returnsInHanded_of_change (C := Try.checked) own started (by kernel_rfl) Try.func10
    (ChangeSpec.witness6 (enc := enc) (C := Try.checked) false ⟨#[], #[.agg #[.int .i64 0, .slice none 0 0]], []⟩ 8 (by kernel_rfl) (by kernel_rfl) (by kernel_rfl) (by kernel_rfl)) ?_
  intro W base args ds gs before hval0 hW _ _
  have hval : ∀ (j : Nat) t v, Try.f10.params[j]? = some t → args[j]? = some v → Value.okWide Try.prog W .any base t v := hval0
  have hW' := hW
  obtain ⟨p, q, hA0, hV, rfl, hfz, hnd⟩ := hW
  have hA : DataW.TrodAll enc Try.prog W 0 (fun _ => true) true Try.f10.params.toList args.toList ds p := hA0
  rw [Try.params10] at hA hval
  obtain ⟨v0, vs0, d0, ds0, p0, q0, hargs, rfl, rfl, h0, r0⟩ := trodAll_cons hA
  obtain ⟨rfl, rfl, rfl⟩ := trodAll_nil r0
  obtain rfl : args = #[v0] := by cases args; simp_all
  obtain ⟨rfl, rfl⟩ := trodVars_none hV
  have k0_ := h0
  have lt0 : ∀ x ∈ p0, x.block < W.heap.size := by obtain ⟨m, hm⟩ := k0_; exact DataW.trod_lt m _ _ _ hm
  obtain ⟨r0, A0, c0, rs0, rfl, hi0, hm0, _⟩ := openP (hval 0 42 v0 rfl rfl) h0
  clear hA0 hval0
  refine (allAbelianizationOf r0 A0 c0 rs0 W hi0 hm0).mono fun e W' ⟨he, bel⟩ => ?_
  subst he
  exact ⟨_, rfl, _, _, _, [], _, [], hW', trodAll_mk1 (shut_bool Try.underlying4 _), (trodAll_cons_mk (Below.trod laidOut (by kernel_rfl) (of_decide_eq_true (by kernel_rfl)) k0_ bel lt0) trodAll_mk0), rfl, bel.frame _, fun h => by cases h⟩

theorem exactAbelianizationOf_holds : Rows.FnExactAbelianizationOfSaid :=
  OpenClaim.holds_of_wide 10 Try.f10 rfl rfl rfl rfl rfl rfl rfl ⟨rfl, rfl, rfl, rfl, rfl⟩ rfl rfl rfl rfl rfl (by kernel_rfl) Try.func10 (by kernel_rfl)
    (of_decide_eq_true (by kernel_rfl)) (by unfold Func.isWrapper; first | (rw [if_pos (by decide +kernel)]; kernel_rfl) | (rw [if_neg (by decide +kernel)]; exact ⟨rfl, rfl⟩))
    (fun os started H enc _ => exactAbelianizationOf_lifted os started H enc)

#print axioms exactAbelianizationOf_holds

end Go.Proofs.Ytpojkahlllochaa
