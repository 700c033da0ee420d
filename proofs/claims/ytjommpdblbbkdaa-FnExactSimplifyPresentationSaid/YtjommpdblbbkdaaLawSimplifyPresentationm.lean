/- The law FnExactSimplifyPresentation returns true for every presentation that is passed in and changes no memory that was there. No condition. -/
import Derived.Test.YtjommpdblbbkdaaLiftP
import Derived.Test.YtjommpdblbbkdaaSpX
import Derived.Deep.RegionHeld3
namespace Go.Proofs.Ytjommpdblbbkdaa
open Go.ChangeShapes Go.WideShapes Go.ChangeAt Go.RowKit

theorem rows_of {rs qs : List Rw} (h : vals rs = vals qs) (hq : ∀ r ∈ qs, r.zs.length ≤ 1048576) : ∀ r ∈ rs, r.zs.length ≤ 1048576 := fun r hr => by
  have h1 : r.zs ∈ vals qs := by rw [← h]; exact List.mem_map_of_mem hr
  obtain ⟨q, hq1, hq2⟩ := List.mem_map.1 h1
  rw [← hq2]
  exact hq q hq1

theorem len_of_ {rs qs : List Rw} (h : vals rs = vals qs) : rs.length = qs.length := by rw [← vals_len, ← vals_len, h]
theorem sized_nil : Sized ([] : List (List Int)) := by unfold Sized; simp
theorem sized_isP {r : Int} {zss : List (List Int)} (h : Wd.isP r zss = true) : Sized zss := by
  obtain ⟨_, _, h48, hz⟩ := Wd.isP_iff.1 h
  have key : ∀ l : List (List Int), (∀ z ∈ l, z.length ≤ 120) → (l.map List.length).sum ≤ 120 * l.length := fun l => by
    induction l with
    | nil => intro _; simp
    | cons x l ih => intro hh; have h1 := hh x (List.mem_cons_self ..); have h2 := ih (fun z hz => hh z (List.mem_cons_of_mem _ hz)); simp; omega
  have := key zss (fun z hz' => (Wd.isW_fit (Wd.isR_iff.1 (hz z hz')).1).1)
  unfold Sized
  omega

set_option maxRecDepth 100000 in
set_option maxHeartbeats 16000000 in
theorem exactSimplifyPresentation (ra : Int) (Aa : Option Addr) (ca : Nat) (rsa : List Rw) (pr : Int) (pz : List (List Int)) (tz : List (Int × Int × Int)) (code : Int) (w : World) (ha : RdS w w.heap.size Aa rsa) (hna : rsa.length + tot rsa ≤ 1048576) (hz : Sized pz) (ht : tz.length ≤ 1048576)
    (hs : ∀ (W : World) (A : Option Addr) (c : Nat) (rs : List Rw), RdS W W.heap.size A rs → vals rs = vals rsa → Calls Try.prog 22 #[.agg #[.int .i64 ra, .slice A rs.length c]] W (ResPT W (pr, pz, tz, code)))
    (hi : ∀ (W : World) (A : Option Addr) (c : Nat) (rs : List Rw), RdS W W.heap.size A rs → vals rs = vals rsa → Calls Try.prog 8 #[.agg #[.int .i64 ra, .slice A rs.length c]] W (ResPT W (pr, pz, tz, code))) :
    Calls Try.prog 5 #[.agg #[.int .i64 ra, .slice Aa rsa.length ca]] w fun e w' => e = .returned (.bool true) ∧ Below w.heap.size w w' := by
  have HS := Lib.hid hs
  have HI := Lib.hid hi
  clear hs hi
  have HB := Lib.hid (Below.refl w.heap.size w)
  have Ha := Lib.hid ha
  clear ha
  have hnl : rsa.length ≤ 1048576 := by omega
  have hml : rsa.length ≤ maxLen := Nat.le_trans hnl (by unfold maxLen; omega)
  have ROW := Lib.hid (show ∀ r ∈ rsa, r.zs.length ≤ 1048576 from fun r hr => by have := row_le_tot hr; omega)
  have HZ := Lib.hid hz
  clear hz
  have tl : decide ((1048576 : Int) - (rsa.length : Int) - (tot rsa : Int) < 0) = false := by simp; omega
  go_enter Try.func5, Try.ntmps5
  go_wp2_with fail
  refine (szP_any ra Aa ca rsa _ _ (Ha.out.into (al1 _ _)) hml (by omega) (by omega)).mono ?_
  rintro e w1 ⟨rfl, hb⟩
  rw [if_neg (by omega)]
  have D1 := Lib.hid (on1 _ hb)
  have s1 : w.heap.size + 1 ≤ w1.heap.size := by have := hb.size; (try simp at this); omega
  have aa_1 := Lib.hid ((BoxG.new w 38 (.int .i64 ra) (.slice Aa rsa.length ca)).below hb (by simp))
  have HB1 := Lib.hid (HB.out.trans (D1.out.mono (by omega)))
  clear HB
  have HB := HB1
  clear HB1 hb
  have z_aa : w.heap.size < w1.heap.size := by omega
  obtain ⟨qaa0, qaa1⟩ := aa_1.out
  go_wp2_with fail
  refine (toP_any ra Aa ca rsa _ (Ha.out.into HB.out) hnl ROW.out).mono ?_
  rintro e w2 ⟨g2, c2, rs2, rfl, hk, hv, hb⟩
  clear qaa0 qaa1
  have X2_2 := Lib.hid (hk.wide (lo' := w1.heap.size) (hi' := w2.heap.size) (by simp) (Nat.le_refl _))
  have V2 := Lib.hid hv
  clear hk hv
  have D2 := Lib.hid (hb)
  have s2 : w1.heap.size + 0 ≤ w2.heap.size := by have := hb.size; (try simp at this); omega
  have aa_2 := Lib.hid (aa_1.out.below D2.out (by omega))
  clear aa_1
  have HB2 := Lib.hid (HB.out.trans (D2.out.mono (by omega)))
  clear HB
  have HB := HB2
  clear HB2 hb
  clear z_aa
  have z_aa : w.heap.size < w2.heap.size := by omega
  obtain ⟨qaa0, qaa1⟩ := aa_2.out
  go_wp2_with fail
  refine (HS.out _ _ _ _ (X2_2.out.rd.more (by (try simp) <;> omega)) V2.out).mono ?_
  rintro e w3 ⟨R3, t3, rs3, At3, ct3, lo3, hi3, lm3, hm3, rfl, hown, hv, hot, hd3, ha3, hb3, hc3, he3, hb⟩
  clear qaa0 qaa1
  dsimp only at hot hv ⊢
  have Y3_3 := Lib.hid hown
  have V3 := Lib.hid hv
  have T3_3 := Lib.hid hot
  clear hown hv hot
  have ht3 := HZ.out.tot V3.out
  have D3 := Lib.hid (hb)
  have s3 : w2.heap.size + 0 ≤ w3.heap.size := by have := hb.size; (try simp at this); omega
  have aa_3 := Lib.hid (aa_2.out.below D3.out (by omega))
  clear aa_2
  have X2_3 := Lib.hid (X2_2.out.below D3.out (by omega))
  clear X2_2
  have HB3 := Lib.hid (HB.out.trans (D3.out.mono (by omega)))
  clear HB
  have HB := HB3
  clear HB3 hb
  clear z_aa
  have z_aa : w.heap.size < w3.heap.size := by omega
  obtain ⟨qaa0, qaa1⟩ := aa_3.out
  go_wp2_with fail
  refine (toP_any ra Aa ca rsa _ (Ha.out.into (HB.out.trans ((al1 _ _).mono (by omega)))) hnl ROW.out).mono ?_
  rintro e w4 ⟨g4, c4, rs4, rfl, hk, hv, hb⟩
  clear qaa0 qaa1
  have X4_4 := Lib.hid (hk.wide (lo' := w3.heap.size + 1) (hi' := w4.heap.size) (by simp) (Nat.le_refl _))
  have V4 := Lib.hid hv
  clear hk hv
  have D4 := Lib.hid (on1 _ hb)
  have s4 : w3.heap.size + 1 ≤ w4.heap.size := by have := hb.size; (try simp at this); omega
  have aa_4 := Lib.hid (aa_3.out.below D4.out (by omega))
  clear aa_3
  have bw_4 := Lib.hid ((BoxG.new w3 26 (.int .i64 pr) (.slice R3 rs3.length t3)).below hb (by simp))
  have Y3_4 := Lib.hid (Y3_3.out.below D4.out (by omega))
  clear Y3_3
  have T3_4 := Lib.hid (T3_3.out.below D4.out (by omega))
  clear T3_3
  have HB4 := Lib.hid (HB.out.trans (D4.out.mono (by omega)))
  clear HB
  have HB := HB4
  clear HB4 hb
  clear z_aa
  have z_aa : w.heap.size < w4.heap.size := by omega
  have z_bw : w3.heap.size < w4.heap.size := by omega
  as_aux_lemma =>
    obtain ⟨qaa0, qaa1⟩ := aa_4.out
    obtain ⟨qbw0, qbw1⟩ := bw_4.out
    go_wp2_with fail
    refine (HI.out _ _ _ _ ((X4_4.out.al (by omega) (al1 _ _)).rd.more (by (try simp) <;> omega)) V4.out).mono ?_
    rintro e w5 ⟨R5, t5, rs5, At5, ct5, lo5, hi5, lm5, hm5, rfl, hown, hv, hot, hd5, ha5, hb5, hc5, he5, hb⟩
    clear qaa0 qaa1 qbw0 qbw1
    dsimp only at hot hv ⊢
    simp only [World.size_alloc] at ha5 hb5
    have Y5_5 := Lib.hid hown
    have V5 := Lib.hid hv
    have T5_5 := Lib.hid hot
    clear hown hv hot
    have ht5 := HZ.out.tot V5.out
    have D5 := Lib.hid (on1 _ hb)
    have s5 : w4.heap.size + 1 ≤ w5.heap.size := by have := hb.size; (try simp at this); omega
    have aa_5 := Lib.hid (aa_4.out.below D5.out (by omega))
    clear aa_4
    have bw_5 := Lib.hid (bw_4.out.below D5.out (by omega))
    clear bw_4
    have bx_5 := Lib.hid ((BoxG.new w4 26 (.int .i64 ra) (.slice (some ⟨g4, 0, none⟩) rs4.length c4)).below hb (by simp))
    have Y3_5 := Lib.hid (Y3_4.out.below D5.out (by omega))
    clear Y3_4
    have T3_5 := Lib.hid (T3_4.out.below D5.out (by omega))
    clear T3_4
    have X4_5 := Lib.hid (X4_4.out.below D5.out (by omega))
    clear X4_4
    have HB5 := Lib.hid (HB.out.trans (D5.out.mono (by omega)))
    clear HB
    have HB := HB5
    clear HB5 hb
    clear z_aa
    have z_aa : w.heap.size < w5.heap.size := by omega
    clear z_bw
    have z_bw : w3.heap.size < w5.heap.size := by omega
    have z_bx : w4.heap.size < w5.heap.size := by omega
    obtain ⟨qaa0, qaa1⟩ := aa_5.out
    obtain ⟨qbw0, qbw1⟩ := bw_5.out
    obtain ⟨qbx0, qbx1⟩ := bx_5.out
    go_wp2_with fail
    refine (eqP_any pr _ _ _ _ rs5 rs3 (hi5) (hi3) _ (Y5_5.out.al (by omega) (al1 _ _)).rd (Y3_5.out.al (by omega) (al1 _ _)).rd (V5.out.trans V3.out.symm) (by (try simp) <;> omega) (by (try simp) <;> omega) (by omega) (HZ.out.row V5.out)).mono ?_
    rintro e w6 ⟨rfl, hb⟩
    clear qaa0 qaa1 qbw0 qbw1 qbx0 qbx1
    have D6 := Lib.hid (on1 _ hb)
    have s6 : w5.heap.size + 1 ≤ w6.heap.size := by have := hb.size; (try simp at this); omega
    have aa_6 := Lib.hid (aa_5.out.below D6.out (by omega))
    clear aa_5
    have bw_6 := Lib.hid (bw_5.out.below D6.out (by omega))
    clear bw_5
    have bx_6 := Lib.hid (bx_5.out.below D6.out (by omega))
    clear bx_5
    have bg_6 := Lib.hid ((BoxG.new w5 26 (.int .i64 pr) (.slice R5 rs5.length t5)).below hb (by simp))
    have Y3_6 := Lib.hid (Y3_5.out.below D6.out (by omega))
    clear Y3_5
    have T3_6 := Lib.hid (T3_5.out.below D6.out (by omega))
    clear T3_5
    have X4_6 := Lib.hid (X4_5.out.below D6.out (by omega))
    clear X4_5
    have Y5_6 := Lib.hid (Y5_5.out.below D6.out (by omega))
    clear Y5_5
    have T5_6 := Lib.hid (T5_5.out.below D6.out (by omega))
    clear T5_5
    have HB6 := Lib.hid (HB.out.trans (D6.out.mono (by omega)))
    clear HB
    have HB := HB6
    clear HB6 hb
    clear z_aa
    have z_aa : w.heap.size < w6.heap.size := by omega
    clear z_bw
    have z_bw : w3.heap.size < w6.heap.size := by omega
    clear z_bx
    have z_bx : w4.heap.size < w6.heap.size := by omega
    have z_bg : w5.heap.size < w6.heap.size := by omega
    obtain ⟨qaa0, qaa1⟩ := aa_6.out
    obtain ⟨qbw0, qbw1⟩ := bw_6.out
    obtain ⟨qbx0, qbx1⟩ := bx_6.out
    obtain ⟨qbg0, qbg1⟩ := bg_6.out
    go_wp2_with fail
    refine (eqMS_any _ _ _ _ tz.length tz (hm5) (hm3) _ rfl T5_6.out.rd T3_6.out.rd (by (try simp) <;> omega) (by (try simp) <;> omega) ht).mono ?_
    rintro e w7 ⟨rfl, hb⟩
    clear qaa0 qaa1 qbw0 qbw1 qbx0 qbx1 qbg0 qbg1
    have D7 := Lib.hid (hb)
    have s7 : w6.heap.size + 0 ≤ w7.heap.size := by have := hb.size; (try simp at this); omega
    have aa_7 := Lib.hid (aa_6.out.below D7.out (by omega))
    clear aa_6
    have bw_7 := Lib.hid (bw_6.out.below D7.out (by omega))
    clear bw_6
    have bx_7 := Lib.hid (bx_6.out.below D7.out (by omega))
    clear bx_6
    have bg_7 := Lib.hid (bg_6.out.below D7.out (by omega))
    clear bg_6
    have Y3_7 := Lib.hid (Y3_6.out.below D7.out (by omega))
    clear Y3_6
    have T3_7 := Lib.hid (T3_6.out.below D7.out (by omega))
    clear T3_6
    have X4_7 := Lib.hid (X4_6.out.below D7.out (by omega))
    clear X4_6
    have Y5_7 := Lib.hid (Y5_6.out.below D7.out (by omega))
    clear Y5_6
    have T5_7 := Lib.hid (T5_6.out.below D7.out (by omega))
    clear T5_6
    have HB7 := Lib.hid (HB.out.trans (D7.out.mono (by omega)))
    clear HB
    have HB := HB7
    clear HB7 hb
    clear z_aa
    have z_aa : w.heap.size < w7.heap.size := by omega
    clear z_bw
    have z_bw : w3.heap.size < w7.heap.size := by omega
    clear z_bx
    have z_bx : w4.heap.size < w7.heap.size := by omega
    clear z_bg
    have z_bg : w5.heap.size < w7.heap.size := by omega
    as_aux_lemma =>
      obtain ⟨qaa0, qaa1⟩ := aa_7.out
      obtain ⟨qbw0, qbw1⟩ := bw_7.out
      obtain ⟨qbx0, qbx1⟩ := bx_7.out
      obtain ⟨qbg0, qbg1⟩ := bg_7.out
      go_wp2_with fail
      go_region_held3 (fun W => (W.cell? ⟨w4.heap.size, 0, none⟩ = some (.int .i64 ra) ∧ W.cell? ⟨w4.heap.size, 1, none⟩ = some (.slice (some ⟨g4, 0, none⟩) rs4.length c4)) ∧ (W.cell? ⟨w.heap.size, 0, none⟩ = some (.int .i64 ra) ∧ W.cell? ⟨w.heap.size, 1, none⟩ = some (.slice Aa rsa.length ca))) (go_keep)
        (first
          | (go_at_call 14; (with_reducible refine (toP_any ra Aa ca rsa _ (by exact Ha.out.into HB.out.drew) hnl ROW.out).mono ?_); rintro e w8 ⟨g8, c8, rs8, rfl, hk6, hv6, hb6'⟩; have hb6 := undrew hb6'; have K6 := Lib.hid hk6; have B6 := Lib.hid hb6; have V6 := Lib.hid hv6; have z6 := hb6.size; obtain ⟨e0, e1⟩ := bx_7.out.below hb6 (by omega); obtain ⟨f0, f1⟩ := aa_7.out.below hb6 (by omega); clear hk6 hv6 hb6 hb6')
          | (go_at_call 17; (with_reducible refine (eqP_any ra _ _ _ _ rs4 _ w4.heap.size _ _ (by exact X4_7.out.rd.below (B6.out.mono (by omega))) (by exact K6.out.rd) (V4.out.trans V6.out.symm) (by have := B6.out.size; omega) (Nat.le_refl _) (by have h1 := congrArg List.length V4.out; rw [vals_len, vals_len] at h1; omega) (rows_of V4.out ROW.out)).mono ?_); rintro e w9 ⟨rfl, hb7⟩; obtain ⟨m0, m1⟩ := (bx_7.out.below B6.out (by omega)).below hb7 (by omega); obtain ⟨y0, y1⟩ := (aa_7.out.below B6.out (by omega)).below hb7 (by omega)))
      clear e0 e1 f0 f1 m0 m1 y0 y1 K6 V6
      clear qaa0 qaa1 qbw0 qbw1 qbx0 qbx1 qbg0 qbg1
      have hb6 := B6.out
      clear B6
      have D8 := Lib.hid (hb6)
      have s8 : w7.heap.size + 0 ≤ w8.heap.size := by have := hb6.size; (try simp at this); omega
      have aa_8 := Lib.hid (aa_7.out.below D8.out (by omega))
      clear aa_7
      have bw_8 := Lib.hid (bw_7.out.below D8.out (by omega))
      clear bw_7
      have bx_8 := Lib.hid (bx_7.out.below D8.out (by omega))
      clear bx_7
      have bg_8 := Lib.hid (bg_7.out.below D8.out (by omega))
      clear bg_7
      have Y3_8 := Lib.hid (Y3_7.out.below D8.out (by omega))
      clear Y3_7
      have T3_8 := Lib.hid (T3_7.out.below D8.out (by omega))
      clear T3_7
      have X4_8 := Lib.hid (X4_7.out.below D8.out (by omega))
      clear X4_7
      have Y5_8 := Lib.hid (Y5_7.out.below D8.out (by omega))
      clear Y5_7
      have T5_8 := Lib.hid (T5_7.out.below D8.out (by omega))
      clear T5_7
      have HB8 := Lib.hid (HB.out.trans (D8.out.mono (by omega)))
      clear HB
      have HB := HB8
      clear HB8 hb6
      clear z_aa
      have z_aa : w.heap.size < w8.heap.size := by omega
      clear z_bw
      have z_bw : w3.heap.size < w8.heap.size := by omega
      clear z_bx
      have z_bx : w4.heap.size < w8.heap.size := by omega
      clear z_bg
      have z_bg : w5.heap.size < w8.heap.size := by omega
      have D9 := Lib.hid (hb7)
      have s9 : w8.heap.size + 0 ≤ w9.heap.size := by have := hb7.size; (try simp at this); omega
      have aa_9 := Lib.hid (aa_8.out.below D9.out (by omega))
      clear aa_8
      have bw_9 := Lib.hid (bw_8.out.below D9.out (by omega))
      clear bw_8
      have bx_9 := Lib.hid (bx_8.out.below D9.out (by omega))
      clear bx_8
      have bg_9 := Lib.hid (bg_8.out.below D9.out (by omega))
      clear bg_8
      have Y3_9 := Lib.hid (Y3_8.out.below D9.out (by omega))
      clear Y3_8
      have T3_9 := Lib.hid (T3_8.out.below D9.out (by omega))
      clear T3_8
      have X4_9 := Lib.hid (X4_8.out.below D9.out (by omega))
      clear X4_8
      have Y5_9 := Lib.hid (Y5_8.out.below D9.out (by omega))
      clear Y5_8
      have T5_9 := Lib.hid (T5_8.out.below D9.out (by omega))
      clear T5_8
      have HB9 := Lib.hid (HB.out.trans (D9.out.mono (by omega)))
      clear HB
      have HB := HB9
      clear HB9 hb7
      clear z_aa
      have z_aa : w.heap.size < w9.heap.size := by omega
      clear z_bw
      have z_bw : w3.heap.size < w9.heap.size := by omega
      clear z_bx
      have z_bx : w4.heap.size < w9.heap.size := by omega
      clear z_bg
      have z_bg : w5.heap.size < w9.heap.size := by omega
      as_aux_lemma =>
        obtain ⟨qaa0, qaa1⟩ := aa_9.out
        obtain ⟨qbw0, qbw1⟩ := bw_9.out
        obtain ⟨qbx0, qbx1⟩ := bx_9.out
        obtain ⟨qbg0, qbg1⟩ := bg_9.out
        go_wp2_with fail
        have tx := tot_vals V4.out
        have lx : rs4.length = rsa.length := by have h1 := congrArg List.length V4.out; rw [vals_len, vals_len] at h1; exact h1
        refine (markP_any _ (some ⟨g4, 0, none⟩) c4 1 rs4 (w3.heap.size + 1) (w4.heap.size) _ X4_9.out (by omega) (by omega) (by omega) (by omega)).mono ?_
        rintro e w10 ⟨rfl, hown, hk⟩
        clear qaa0 qaa1 qbw0 qbw1 qbx0 qbx1 qbg0 qbg1
        clear X4_9 hown lx
        have TX := Lib.hid tx
        clear tx
        have D10 := Lib.hid (hk)
        have s10 : w9.heap.size ≤ w10.heap.size := hk.size
        have aa_10 := Lib.hid (aa_9.out.kept D10.out (by omega) (by omega))
        clear aa_9
        have bw_10 := Lib.hid (bw_9.out.kept D10.out (by omega) (by omega))
        clear bw_9
        have bx_10 := Lib.hid (bx_9.out.kept D10.out (by omega) (by omega))
        clear bx_9
        have bg_10 := Lib.hid (bg_9.out.kept D10.out (by omega) (by omega))
        clear bg_9
        have Y3_10 := Lib.hid (Y3_9.out.kept D10.out (by omega) (by omega))
        clear Y3_9
        have T3_10 := Lib.hid (T3_9.out.kept D10.out (by omega) (by omega))
        clear T3_9
        have Y5_10 := Lib.hid (Y5_9.out.kept D10.out (by omega) (by omega))
        clear Y5_9
        have T5_10 := Lib.hid (T5_9.out.kept D10.out (by omega) (by omega))
        clear T5_9
        have HB10 := Lib.hid (HB.out.trans (D10.out.below (by omega) (by omega)))
        clear HB
        have HB := HB10
        clear HB10 hk
        clear z_aa
        have z_aa : w.heap.size < w10.heap.size := by omega
        clear z_bw
        have z_bw : w3.heap.size < w10.heap.size := by omega
        clear z_bx
        have z_bx : w4.heap.size < w10.heap.size := by omega
        clear z_bg
        have z_bg : w5.heap.size < w10.heap.size := by omega
        have tx0 : (0 : Int) ≤ 1 + (tot rs4 : Int) := by omega
        have tx1 : decide ((1 : Int) + (tot rs4 : Int) < 0) = false := by simp; omega
        obtain ⟨qaa0, qaa1⟩ := aa_10.out
        obtain ⟨qbw0, qbw1⟩ := bw_10.out
        obtain ⟨qbx0, qbx1⟩ := bx_10.out
        obtain ⟨qbg0, qbg1⟩ := bg_10.out
        go_wp2_with fail
        refine (eqP_any pr _ _ _ _ rs5 rs3 (hi5) (hi3) _ Y5_10.out.rd Y3_10.out.rd (V5.out.trans V3.out.symm) (by (try simp) <;> omega) (by (try simp) <;> omega) (by omega) (HZ.out.row V5.out)).mono ?_
        rintro e w11 ⟨rfl, hb⟩
        clear qaa0 qaa1 qbw0 qbw1 qbx0 qbx1 qbg0 qbg1
        have D11 := Lib.hid (hb)
        have s11 : w10.heap.size + 0 ≤ w11.heap.size := by have := hb.size; (try simp at this); omega
        have aa_11 := Lib.hid (aa_10.out.below D11.out (by omega))
        clear aa_10
        have bw_11 := Lib.hid (bw_10.out.below D11.out (by omega))
        clear bw_10
        have bx_11 := Lib.hid (bx_10.out.below D11.out (by omega))
        clear bx_10
        have bg_11 := Lib.hid (bg_10.out.below D11.out (by omega))
        clear bg_10
        have Y3_11 := Lib.hid (Y3_10.out.below D11.out (by omega))
        clear Y3_10
        have T3_11 := Lib.hid (T3_10.out.below D11.out (by omega))
        clear T3_10
        have Y5_11 := Lib.hid (Y5_10.out.below D11.out (by omega))
        clear Y5_10
        have T5_11 := Lib.hid (T5_10.out.below D11.out (by omega))
        clear T5_10
        have HB11 := Lib.hid (HB.out.trans (D11.out.mono (by omega)))
        clear HB
        have HB := HB11
        clear HB11 hb
        clear z_aa
        have z_aa : w.heap.size < w11.heap.size := by omega
        clear z_bw
        have z_bw : w3.heap.size < w11.heap.size := by omega
        clear z_bx
        have z_bx : w4.heap.size < w11.heap.size := by omega
        clear z_bg
        have z_bg : w5.heap.size < w11.heap.size := by omega
        obtain ⟨qaa0, qaa1⟩ := aa_11.out
        obtain ⟨qbw0, qbw1⟩ := bw_11.out
        obtain ⟨qbx0, qbx1⟩ := bx_11.out
        obtain ⟨qbg0, qbg1⟩ := bg_11.out
        go_wp2_with fail
        refine (eqMS_any _ _ _ _ tz.length tz (hm5) (hm3) _ rfl T5_11.out.rd T3_11.out.rd (by (try simp) <;> omega) (by (try simp) <;> omega) ht).mono ?_
        rintro e w12 ⟨rfl, hb⟩
        clear qaa0 qaa1 qbw0 qbw1 qbx0 qbx1 qbg0 qbg1
        have D12 := Lib.hid (hb)
        have s12 : w11.heap.size + 0 ≤ w12.heap.size := by have := hb.size; (try simp at this); omega
        have aa_12 := Lib.hid (aa_11.out.below D12.out (by omega))
        clear aa_11
        have bw_12 := Lib.hid (bw_11.out.below D12.out (by omega))
        clear bw_11
        have bx_12 := Lib.hid (bx_11.out.below D12.out (by omega))
        clear bx_11
        have bg_12 := Lib.hid (bg_11.out.below D12.out (by omega))
        clear bg_11
        have Y3_12 := Lib.hid (Y3_11.out.below D12.out (by omega))
        clear Y3_11
        have T3_12 := Lib.hid (T3_11.out.below D12.out (by omega))
        clear T3_11
        have Y5_12 := Lib.hid (Y5_11.out.below D12.out (by omega))
        clear Y5_11
        have T5_12 := Lib.hid (T5_11.out.below D12.out (by omega))
        clear T5_11
        have HB12 := Lib.hid (HB.out.trans (D12.out.mono (by omega)))
        clear HB
        have HB := HB12
        clear HB12 hb
        clear z_aa
        have z_aa : w.heap.size < w12.heap.size := by omega
        clear z_bw
        have z_bw : w3.heap.size < w12.heap.size := by omega
        clear z_bx
        have z_bx : w4.heap.size < w12.heap.size := by omega
        clear z_bg
        have z_bg : w5.heap.size < w12.heap.size := by omega
        as_aux_lemma =>
          obtain ⟨qaa0, qaa1⟩ := aa_12.out
          obtain ⟨qbw0, qbw1⟩ := bw_12.out
          obtain ⟨qbx0, qbx1⟩ := bx_12.out
          obtain ⟨qbg0, qbg1⟩ := bg_12.out
          go_wp2_with fail
          refine (markP_any _ R5 t5 1 rs5 (lo5) (hi5) _ Y5_12.out (by omega) ht5 (by omega) (by omega)).mono ?_
          rintro e w13 ⟨rfl, hown, hk⟩
          clear qaa0 qaa1 qbw0 qbw1 qbx0 qbx1 qbg0 qbg1
          have Y5_13 := Lib.hid hown
          clear Y5_12 hown
          have D13 := Lib.hid (hk)
          have s13 : w12.heap.size ≤ w13.heap.size := hk.size
          have aa_13 := Lib.hid (aa_12.out.kept D13.out (by omega) (by omega))
          clear aa_12
          have bw_13 := Lib.hid (bw_12.out.kept D13.out (by omega) (by omega))
          clear bw_12
          have bx_13 := Lib.hid (bx_12.out.kept D13.out (by omega) (by omega))
          clear bx_12
          have bg_13 := Lib.hid (bg_12.out.kept D13.out (by omega) (by omega))
          clear bg_12
          have Y3_13 := Lib.hid (Y3_12.out.kept D13.out (by omega) (by omega))
          clear Y3_12
          have T3_13 := Lib.hid (T3_12.out.kept D13.out (by omega) (by omega))
          clear T3_12
          have T5_13 := Lib.hid (T5_12.out.kept D13.out (by omega) (by omega))
          clear T5_12
          have HB13 := Lib.hid (HB.out.trans (D13.out.below (by omega) (by omega)))
          clear HB
          have HB := HB13
          clear HB13 hk
          clear z_aa
          have z_aa : w.heap.size < w13.heap.size := by omega
          clear z_bw
          have z_bw : w3.heap.size < w13.heap.size := by omega
          clear z_bx
          have z_bx : w4.heap.size < w13.heap.size := by omega
          clear z_bg
          have z_bg : w5.heap.size < w13.heap.size := by omega
          obtain ⟨qaa0, qaa1⟩ := aa_13.out
          obtain ⟨qbw0, qbw1⟩ := bw_13.out
          obtain ⟨qbx0, qbx1⟩ := bx_13.out
          obtain ⟨qbg0, qbg1⟩ := bg_13.out
          go_wp2_with fail
          refine (markMS_any At5 ct5 tz.length (1 + (tot rs5 : Int)) tz (lm5) (hm5) _ rfl T5_13.out (by omega) ht (by omega) (by omega)).mono ?_
          rintro e w14 ⟨rfl, hown, hk⟩
          clear qaa0 qaa1 qbw0 qbw1 qbx0 qbx1 qbg0 qbg1
          have T5_14 := Lib.hid hown
          clear T5_13 hown
          have D14 := Lib.hid (hk)
          have s14 : w13.heap.size ≤ w14.heap.size := hk.size
          have aa_14 := Lib.hid (aa_13.out.kept D14.out (by omega) (by omega))
          clear aa_13
          have bw_14 := Lib.hid (bw_13.out.kept D14.out (by omega) (by omega))
          clear bw_13
          have bx_14 := Lib.hid (bx_13.out.kept D14.out (by omega) (by omega))
          clear bx_13
          have bg_14 := Lib.hid (bg_13.out.kept D14.out (by omega) (by omega))
          clear bg_13
          have Y3_14 := Lib.hid (Y3_13.out.kept D14.out (by omega) (by omega))
          clear Y3_13
          have T3_14 := Lib.hid (T3_13.out.kept D14.out (by omega) (by omega))
          clear T3_13
          have Y5_14 := Lib.hid (Y5_13.out.kept D14.out (by omega) (by omega))
          clear Y5_13
          have HB14 := Lib.hid (HB.out.trans (D14.out.below (by omega) (by omega)))
          clear HB
          have HB := HB14
          clear HB14 hk
          clear z_aa
          have z_aa : w.heap.size < w14.heap.size := by omega
          clear z_bw
          have z_bw : w3.heap.size < w14.heap.size := by omega
          clear z_bx
          have z_bx : w4.heap.size < w14.heap.size := by omega
          clear z_bg
          have z_bg : w5.heap.size < w14.heap.size := by omega
          as_aux_lemma =>
            have tq : decide ((1 : Int) + (tot rs5 : Int) < 0) = false := by simp; omega
            have tq2 : decide ((1 : Int) + (tot rs5 : Int) + 3 * (tz.length : Int) < 0) = false := by simp; omega
            obtain ⟨qaa0, qaa1⟩ := aa_14.out
            obtain ⟨qbw0, qbw1⟩ := bw_14.out
            obtain ⟨qbx0, qbx1⟩ := bx_14.out
            obtain ⟨qbg0, qbg1⟩ := bg_14.out
            go_wp2_with fail
            refine (heldP_any _ R5 t5 1 rs5 (hi5) _ Y5_14.out.rd (by omega) ht5 (by omega) (by omega)).mono ?_
            rintro e w15 ⟨rfl, hb⟩
            clear qaa0 qaa1 qbw0 qbw1 qbx0 qbx1 qbg0 qbg1
            have D15 := Lib.hid (hb)
            have s15 : w14.heap.size + 0 ≤ w15.heap.size := by have := hb.size; (try simp at this); omega
            have aa_15 := Lib.hid (aa_14.out.below D15.out (by omega))
            clear aa_14
            have bw_15 := Lib.hid (bw_14.out.below D15.out (by omega))
            clear bw_14
            have bx_15 := Lib.hid (bx_14.out.below D15.out (by omega))
            clear bx_14
            have bg_15 := Lib.hid (bg_14.out.below D15.out (by omega))
            clear bg_14
            have Y3_15 := Lib.hid (Y3_14.out.below D15.out (by omega))
            clear Y3_14
            have T3_15 := Lib.hid (T3_14.out.below D15.out (by omega))
            clear T3_14
            have Y5_15 := Lib.hid (Y5_14.out.below D15.out (by omega))
            clear Y5_14
            have T5_15 := Lib.hid (T5_14.out.below D15.out (by omega))
            clear T5_14
            have HB15 := Lib.hid (HB.out.trans (D15.out.mono (by omega)))
            clear HB
            have HB := HB15
            clear HB15 hb
            clear z_aa
            have z_aa : w.heap.size < w15.heap.size := by omega
            clear z_bw
            have z_bw : w3.heap.size < w15.heap.size := by omega
            clear z_bx
            have z_bx : w4.heap.size < w15.heap.size := by omega
            clear z_bg
            have z_bg : w5.heap.size < w15.heap.size := by omega
            obtain ⟨qaa0, qaa1⟩ := aa_15.out
            obtain ⟨qbw0, qbw1⟩ := bw_15.out
            obtain ⟨qbx0, qbx1⟩ := bx_15.out
            obtain ⟨qbg0, qbg1⟩ := bg_15.out
            go_wp2_with fail
            refine (heldMS_any At5 ct5 tz.length (1 + (tot rs5 : Int)) (hm5) _ T5_15.out.rd ht (by omega) (by omega)).mono ?_
            rintro e w' ⟨rfl, rfl⟩
            clear qaa0 qaa1 qbw0 qbw1 qbx0 qbx1 qbg0 qbg1
            as_aux_lemma =>
              obtain ⟨qaa0, qaa1⟩ := aa_15.out
              obtain ⟨qbw0, qbw1⟩ := bw_15.out
              obtain ⟨qbx0, qbx1⟩ := bx_15.out
              obtain ⟨qbg0, qbg1⟩ := bg_15.out
              go_wp2_with fail
              refine (toP_any ra Aa ca rsa _ (Ha.out.into HB.out) hnl ROW.out).mono ?_
              rintro e w16 ⟨g16, c16, rs16, rfl, hk, hv, hb⟩
              clear qaa0 qaa1 qbw0 qbw1 qbx0 qbx1 qbg0 qbg1
              have X16_16 := Lib.hid (hk.wide (lo' := w15.heap.size) (hi' := w16.heap.size) (by simp) (Nat.le_refl _))
              have V16 := Lib.hid hv
              clear hk hv
              have D16 := Lib.hid (hb)
              have s16 : w15.heap.size + 0 ≤ w16.heap.size := by have := hb.size; (try simp at this); omega
              have aa_16 := Lib.hid (aa_15.out.below D16.out (by omega))
              clear aa_15
              have bw_16 := Lib.hid (bw_15.out.below D16.out (by omega))
              clear bw_15
              have bx_16 := Lib.hid (bx_15.out.below D16.out (by omega))
              clear bx_15
              have bg_16 := Lib.hid (bg_15.out.below D16.out (by omega))
              clear bg_15
              have Y3_16 := Lib.hid (Y3_15.out.below D16.out (by omega))
              clear Y3_15
              have T3_16 := Lib.hid (T3_15.out.below D16.out (by omega))
              clear T3_15
              have Y5_16 := Lib.hid (Y5_15.out.below D16.out (by omega))
              clear Y5_15
              have T5_16 := Lib.hid (T5_15.out.below D16.out (by omega))
              clear T5_15
              have HB16 := Lib.hid (HB.out.trans (D16.out.mono (by omega)))
              clear HB
              have HB := HB16
              clear HB16 hb
              clear z_aa
              have z_aa : w.heap.size < w16.heap.size := by omega
              clear z_bw
              have z_bw : w3.heap.size < w16.heap.size := by omega
              clear z_bx
              have z_bx : w4.heap.size < w16.heap.size := by omega
              clear z_bg
              have z_bg : w5.heap.size < w16.heap.size := by omega
              obtain ⟨qaa0, qaa1⟩ := aa_16.out
              obtain ⟨qbw0, qbw1⟩ := bw_16.out
              obtain ⟨qbx0, qbx1⟩ := bx_16.out
              obtain ⟨qbg0, qbg1⟩ := bg_16.out
              go_wp2_with fail
              refine (HI.out _ _ _ _ (X16_16.out.rd.more (by (try simp) <;> omega)) V16.out).mono ?_
              rintro e w17 ⟨R17, t17, rs17, At17, ct17, lo17, hi17, lm17, hm17, rfl, hown, hv, hot, hd17, ha17, hb17, hc17, he17, hb⟩
              clear qaa0 qaa1 qbw0 qbw1 qbx0 qbx1 qbg0 qbg1
              dsimp only at hot hv ⊢
              have Y17_17 := Lib.hid hown
              have V17 := Lib.hid hv
              have T17_17 := Lib.hid hot
              clear hown hv hot
              have ht17 := HZ.out.tot V17.out
              have D17 := Lib.hid (hb)
              have s17 : w16.heap.size + 0 ≤ w17.heap.size := by have := hb.size; (try simp at this); omega
              have aa_17 := Lib.hid (aa_16.out.below D17.out (by omega))
              clear aa_16
              have bw_17 := Lib.hid (bw_16.out.below D17.out (by omega))
              clear bw_16
              have bx_17 := Lib.hid (bx_16.out.below D17.out (by omega))
              clear bx_16
              have bg_17 := Lib.hid (bg_16.out.below D17.out (by omega))
              clear bg_16
              have Y3_17 := Lib.hid (Y3_16.out.below D17.out (by omega))
              clear Y3_16
              have T3_17 := Lib.hid (T3_16.out.below D17.out (by omega))
              clear T3_16
              have Y5_17 := Lib.hid (Y5_16.out.below D17.out (by omega))
              clear Y5_16
              have T5_17 := Lib.hid (T5_16.out.below D17.out (by omega))
              clear T5_16
              have X16_17 := Lib.hid (X16_16.out.below D17.out (by omega))
              clear X16_16
              have HB17 := Lib.hid (HB.out.trans (D17.out.mono (by omega)))
              clear HB
              have HB := HB17
              clear HB17 hb
              clear z_aa
              have z_aa : w.heap.size < w17.heap.size := by omega
              clear z_bw
              have z_bw : w3.heap.size < w17.heap.size := by omega
              clear z_bx
              have z_bx : w4.heap.size < w17.heap.size := by omega
              clear z_bg
              have z_bg : w5.heap.size < w17.heap.size := by omega
              obtain ⟨qaa0, qaa1⟩ := aa_17.out
              obtain ⟨qbw0, qbw1⟩ := bw_17.out
              obtain ⟨qbx0, qbx1⟩ := bx_17.out
              obtain ⟨qbg0, qbg1⟩ := bg_17.out
              go_wp2_with fail
              refine (eqP_any pr _ _ _ _ rs17 rs3 (hi17) (hi3) _ (Y17_17.out.al (by omega) (al1 _ _)).rd (Y3_17.out.al (by omega) (al1 _ _)).rd (V17.out.trans V3.out.symm) (by (try simp) <;> omega) (by (try simp) <;> omega) (by omega) (HZ.out.row V17.out)).mono ?_
              rintro e w18 ⟨rfl, hb⟩
              clear qaa0 qaa1 qbw0 qbw1 qbx0 qbx1 qbg0 qbg1
              have D18 := Lib.hid (on1 _ hb)
              have s18 : w17.heap.size + 1 ≤ w18.heap.size := by have := hb.size; (try simp at this); omega
              have aa_18 := Lib.hid (aa_17.out.below D18.out (by omega))
              clear aa_17
              have bw_18 := Lib.hid (bw_17.out.below D18.out (by omega))
              clear bw_17
              have bx_18 := Lib.hid (bx_17.out.below D18.out (by omega))
              clear bx_17
              have bg_18 := Lib.hid (bg_17.out.below D18.out (by omega))
              clear bg_17
              have bh_18 := Lib.hid ((BoxG.new w17 26 (.int .i64 pr) (.slice R17 rs17.length t17)).below hb (by simp))
              have Y3_18 := Lib.hid (Y3_17.out.below D18.out (by omega))
              clear Y3_17
              have T3_18 := Lib.hid (T3_17.out.below D18.out (by omega))
              clear T3_17
              have Y5_18 := Lib.hid (Y5_17.out.below D18.out (by omega))
              clear Y5_17
              have T5_18 := Lib.hid (T5_17.out.below D18.out (by omega))
              clear T5_17
              have Y17_18 := Lib.hid (Y17_17.out.below D18.out (by omega))
              clear Y17_17
              have T17_18 := Lib.hid (T17_17.out.below D18.out (by omega))
              clear T17_17
              have HB18 := Lib.hid (HB.out.trans (D18.out.mono (by omega)))
              clear HB
              have HB := HB18
              clear HB18 hb
              clear z_aa
              have z_aa : w.heap.size < w18.heap.size := by omega
              clear z_bw
              have z_bw : w3.heap.size < w18.heap.size := by omega
              clear z_bx
              have z_bx : w4.heap.size < w18.heap.size := by omega
              clear z_bg
              have z_bg : w5.heap.size < w18.heap.size := by omega
              have z_bh : w17.heap.size < w18.heap.size := by omega
              obtain ⟨qaa0, qaa1⟩ := aa_18.out
              obtain ⟨qbw0, qbw1⟩ := bw_18.out
              obtain ⟨qbx0, qbx1⟩ := bx_18.out
              obtain ⟨qbg0, qbg1⟩ := bg_18.out
              obtain ⟨qbh0, qbh1⟩ := bh_18.out
              go_wp2_with fail
              refine (eqMS_any _ _ _ _ tz.length tz (hm17) (hm3) _ rfl T17_18.out.rd T3_18.out.rd (by (try simp) <;> omega) (by (try simp) <;> omega) ht).mono ?_
              rintro e w19 ⟨rfl, hb⟩
              clear qaa0 qaa1 qbw0 qbw1 qbx0 qbx1 qbg0 qbg1 qbh0 qbh1
              have D19 := Lib.hid (hb)
              have s19 : w18.heap.size + 0 ≤ w19.heap.size := by have := hb.size; (try simp at this); omega
              have aa_19 := Lib.hid (aa_18.out.below D19.out (by omega))
              clear aa_18
              have bw_19 := Lib.hid (bw_18.out.below D19.out (by omega))
              clear bw_18
              have bx_19 := Lib.hid (bx_18.out.below D19.out (by omega))
              clear bx_18
              have bg_19 := Lib.hid (bg_18.out.below D19.out (by omega))
              clear bg_18
              have bh_19 := Lib.hid (bh_18.out.below D19.out (by omega))
              clear bh_18
              have Y3_19 := Lib.hid (Y3_18.out.below D19.out (by omega))
              clear Y3_18
              have T3_19 := Lib.hid (T3_18.out.below D19.out (by omega))
              clear T3_18
              have Y5_19 := Lib.hid (Y5_18.out.below D19.out (by omega))
              clear Y5_18
              have T5_19 := Lib.hid (T5_18.out.below D19.out (by omega))
              clear T5_18
              have Y17_19 := Lib.hid (Y17_18.out.below D19.out (by omega))
              clear Y17_18
              have T17_19 := Lib.hid (T17_18.out.below D19.out (by omega))
              clear T17_18
              have HB19 := Lib.hid (HB.out.trans (D19.out.mono (by omega)))
              clear HB
              have HB := HB19
              clear HB19 hb
              clear z_aa
              have z_aa : w.heap.size < w19.heap.size := by omega
              clear z_bw
              have z_bw : w3.heap.size < w19.heap.size := by omega
              clear z_bx
              have z_bx : w4.heap.size < w19.heap.size := by omega
              clear z_bg
              have z_bg : w5.heap.size < w19.heap.size := by omega
              clear z_bh
              have z_bh : w17.heap.size < w19.heap.size := by omega
              as_aux_lemma =>
                obtain ⟨qaa0, qaa1⟩ := aa_19.out
                obtain ⟨qbw0, qbw1⟩ := bw_19.out
                obtain ⟨qbx0, qbx1⟩ := bx_19.out
                obtain ⟨qbg0, qbg1⟩ := bg_19.out
                obtain ⟨qbh0, qbh1⟩ := bh_19.out
                go_wp2_with fail
                refine (heldP_any _ R5 t5 1 rs5 (hi5) _ Y5_19.out.rd (by omega) ht5 (by omega) (by omega)).mono ?_
                rintro e w20 ⟨rfl, hb⟩
                clear qaa0 qaa1 qbw0 qbw1 qbx0 qbx1 qbg0 qbg1 qbh0 qbh1
                have D20 := Lib.hid (hb)
                have s20 : w19.heap.size + 0 ≤ w20.heap.size := by have := hb.size; (try simp at this); omega
                have aa_20 := Lib.hid (aa_19.out.below D20.out (by omega))
                clear aa_19
                have bw_20 := Lib.hid (bw_19.out.below D20.out (by omega))
                clear bw_19
                have bx_20 := Lib.hid (bx_19.out.below D20.out (by omega))
                clear bx_19
                have bg_20 := Lib.hid (bg_19.out.below D20.out (by omega))
                clear bg_19
                have bh_20 := Lib.hid (bh_19.out.below D20.out (by omega))
                clear bh_19
                have Y3_20 := Lib.hid (Y3_19.out.below D20.out (by omega))
                clear Y3_19
                have T3_20 := Lib.hid (T3_19.out.below D20.out (by omega))
                clear T3_19
                have Y5_20 := Lib.hid (Y5_19.out.below D20.out (by omega))
                clear Y5_19
                have T5_20 := Lib.hid (T5_19.out.below D20.out (by omega))
                clear T5_19
                have Y17_20 := Lib.hid (Y17_19.out.below D20.out (by omega))
                clear Y17_19
                have T17_20 := Lib.hid (T17_19.out.below D20.out (by omega))
                clear T17_19
                have HB20 := Lib.hid (HB.out.trans (D20.out.mono (by omega)))
                clear HB
                have HB := HB20
                clear HB20 hb
                clear z_aa
                have z_aa : w.heap.size < w20.heap.size := by omega
                clear z_bw
                have z_bw : w3.heap.size < w20.heap.size := by omega
                clear z_bx
                have z_bx : w4.heap.size < w20.heap.size := by omega
                clear z_bg
                have z_bg : w5.heap.size < w20.heap.size := by omega
                clear z_bh
                have z_bh : w17.heap.size < w20.heap.size := by omega
                obtain ⟨qaa0, qaa1⟩ := aa_20.out
                obtain ⟨qbw0, qbw1⟩ := bw_20.out
                obtain ⟨qbx0, qbx1⟩ := bx_20.out
                obtain ⟨qbg0, qbg1⟩ := bg_20.out
                obtain ⟨qbh0, qbh1⟩ := bh_20.out
                go_wp2_with fail
                refine (heldMS_any At5 ct5 tz.length (1 + (tot rs5 : Int)) (hm5) _ T5_20.out.rd ht (by omega) (by omega)).mono ?_
                rintro e w' ⟨rfl, rfl⟩
                clear qaa0 qaa1 qbw0 qbw1 qbx0 qbx1 qbg0 qbg1 qbh0 qbh1
                go_wp2
                go_ret
                exact ⟨rfl, HB.out⟩

set_option maxHeartbeats 1000000 in
theorem bigSimplifyPresentation (r : Int) (A : Option Addr) (c : Nat) (rs : List Rw) (w : World) (h : RdS w w.heap.size A rs) (hm : rs.length ≤ maxLen) (hn : ¬ rs.length + tot rs ≤ 1048576) :
    Calls Try.prog 5 #[.agg #[.int .i64 r, .slice A rs.length c]] w fun e w' => e = .returned (.bool true) ∧ Below w.heap.size w w' := by
  have H := Lib.hid (h.into (al1 w (Obj.cells #[.int .i64 r, .slice A rs.length c] 38)))
  clear h
  go_enter Try.func5, Try.ntmps5
  go_wp2_with fail
  refine (szP_any r A c rs _ _ H.out hm (by omega) (by omega)).mono ?_
  rintro e w1 ⟨rfl, hb⟩
  rw [if_pos (by omega)]
  go_wp2
  go_ret
  exact ⟨rfl, on1 _ hb⟩
theorem allSimplifyPresentation (r : Int) (A : Option Addr) (c : Nat) (rs : List Rw) (w : World) (h : RdS w w.heap.size A rs) (hm : rs.length ≤ maxLen) :
    Calls Try.prog 5 #[.agg #[.int .i64 r, .slice A rs.length c]] w fun e w' => e = .returned (.bool true) ∧ Below w.heap.size w w' := by
  by_cases hn : rs.length + tot rs ≤ 1048576
  case neg => exact bigSimplifyPresentation r A c rs w h hm hn
  · have hrow : ∀ r ∈ rs, r.zs.length ≤ 1048576 := fun q hq => by have := row_le_tot hq; omega
    obtain ⟨q, hq⟩ : ∃ q, simpAll r (vals rs) = q := ⟨_, rfl⟩
    have hf : Sized q.2.1 ∧ q.2.2.1.length ≤ 1048576 := by
      rw [← hq]
      unfold simpAll
      split
      · rename_i hp
        have hf := simpRun_facts 200 r (vals rs) hp
        exact ⟨sized_isP hf.2.1, by have := hf.1; dsimp only; omega⟩
      · exact ⟨sized_nil, by simp⟩
    obtain ⟨pr, pz, tz, code⟩ := q
    exact exactSimplifyPresentation r A c rs pr pz tz code w h hn hf.1 hf.2
      (fun W A' c' qs h' hv => by have := simplify_spec r A' c' qs W h' (by rw [len_of_ hv]; omega) (rows_of hv hrow); rw [hv, hq] at this; exact this)
      (fun W A' c' qs h' hv => by have := simplify_impl r A' c' qs W h' (by rw [len_of_ hv]; omega) (rows_of hv hrow); rw [hv, hq] at this; exact this)

set_option maxRecDepth 100000 in
theorem exactSimplifyPresentation_lifted (os : Os) (started : os.Started) (H : Type) (enc : TypeId × Value → H) :
    ReturnsInHanded {} Try.checked os 5 .any (Rows.fnExactSimplifyPresentationSpec.pre6 enc Try.prog Try.f5 Rows.fnExactSimplifyPresentationRow.domain false) (Rows.fnExactSimplifyPresentationSpec.post enc Try.prog Try.f5 false true false false) := by
  refine returnsInHanded_of_change (C := Try.checked) own started (by kernel_rfl) Try.func5
    (ChangeSpec.witness6 (enc := enc) (C := Try.checked) false ⟨#[], #[.agg #[.int .i64 0, .slice none 0 0]], []⟩ 8 (by kernel_rfl) (by kernel_rfl) (by kernel_rfl) (by kernel_rfl)) ?_
  intro W base args ds gs before hval0 hW _ _
  have hval : ∀ (j : Nat) t v, Try.f5.params[j]? = some t → args[j]? = some v → Value.okWide Try.prog W .any base t v := hval0
  have hW' := hW
  obtain ⟨p, q, hA0, hV, rfl, hfz, hnd⟩ := hW
  have hA : DataW.TrodAll enc Try.prog W 0 (fun _ => true) true Try.f5.params.toList args.toList ds p := hA0
  rw [Try.params5] at hA hval
  obtain ⟨v0, vs0, d0, ds0, p0, q0, hargs, rfl, rfl, h0, r0⟩ := trodAll_cons hA
  obtain ⟨rfl, rfl, rfl⟩ := trodAll_nil r0
  obtain rfl : args = #[v0] := by cases args; simp_all
  obtain ⟨rfl, rfl⟩ := trodVars_none hV
  have k0_ := h0
  have lt0 : ∀ x ∈ p0, x.block < W.heap.size := by obtain ⟨m, hm⟩ := k0_; exact DataW.trod_lt m _ _ _ hm
  obtain ⟨pr0, A0, c0, rs0, rfl, hi0, hm0, _⟩ := openP (hval 0 38 v0 rfl rfl) h0
  clear hA0 hval0
  refine (allSimplifyPresentation pr0 A0 c0 rs0 W hi0 hm0).mono fun e W' ⟨he, bel⟩ => ?_
  subst he
  exact ⟨_, rfl, _, _, _, [], _, [], hW', trodAll_mk1 (shut_bool Try.underlying4 _), (trodAll_cons_mk (Below.trod laidOut (by kernel_rfl) (of_decide_eq_true (by kernel_rfl)) k0_ bel lt0) trodAll_mk0), rfl, bel.frame _, fun h => by cases h⟩

theorem exactSimplifyPresentation_holds : Rows.FnExactSimplifyPresentationSaid :=
  OpenClaim.holds_of_wide 5 Try.f5 rfl rfl rfl rfl rfl rfl rfl ⟨rfl, rfl, rfl, rfl, rfl⟩ rfl rfl rfl rfl rfl (by kernel_rfl) Try.func5 (by kernel_rfl)
    (of_decide_eq_true (by kernel_rfl)) (by unfold Func.isWrapper; first | (rw [if_pos (by decide +kernel)]; kernel_rfl) | (rw [if_neg (by decide +kernel)]; exact ⟨rfl, rfl⟩))
    (fun os started H enc _ => exactSimplifyPresentation_lifted os started H enc)

#print axioms exactSimplifyPresentation_holds

end Go.Proofs.Ytjommpdblbbkdaa
