/- The law FnExactIsRepresentation returns true for every presentation, number and list of lists that are passed in and changes no memory that was there. No condition. -/
import Derived.Test.YtakokhfnllpahaaLiftS
import Derived.Test.YtakokhfnllpahaaRpF
import Derived.Deep.RegionHeld3
namespace Go.Proofs.Ytakokhfnllpahaa
open Go.ChangeShapes Go.WideShapes Go.ChangeAt Go.RowKit

theorem rows_of {rs qs : List Rw} (h : vals rs = vals qs) (hq : ∀ r ∈ qs, r.zs.length ≤ 1048576) : ∀ r ∈ rs, r.zs.length ≤ 1048576 := fun r hr => by
  have h1 : r.zs ∈ vals qs := by rw [← h]; exact List.mem_map_of_mem hr
  obtain ⟨q, hq1, hq2⟩ := List.mem_map.1 h1
  rw [← hq2]
  exact hq q hq1

set_option maxRecDepth 100000 in
set_option maxHeartbeats 16000000 in
theorem exactIsRepresentation (ra : Int) (Aa : Option Addr) (ca : Nat) (rsa : List Rw) (n : Int) (Ai : Option Addr) (ci : Nat) (rsi : List Rw) (bb : Bool) (w : World) (ha : RdS w w.heap.size Aa rsa) (hi0 : RdS w w.heap.size Ai rsi) (hna : rsa.length + tot rsa + (rsi.length + tot rsi) ≤ 1048576)
    (hs : ∀ (W : World) (A A2 : Option Addr) (c c2 : Nat) (rs qs : List Rw), RdS W W.heap.size A rs → vals rs = vals rsa → RdS W W.heap.size A2 qs → vals qs = vals rsi → qs.length ≤ c2 → c2 ≤ maxLen → Calls Try.prog 25 #[.agg #[.int .i64 ra, .slice A rs.length c], .int .i64 n, .slice A2 qs.length c2] W (ResB W bb))
    (hi : ∀ (W : World) (A A2 : Option Addr) (c c2 : Nat) (rs qs : List Rw), RdS W W.heap.size A rs → vals rs = vals rsa → RdS W W.heap.size A2 qs → vals qs = vals rsi → qs.length ≤ c2 → c2 ≤ maxLen → Calls Try.prog 19 #[.agg #[.int .i64 ra, .slice A rs.length c], .int .i64 n, .slice A2 qs.length c2] W (ResB W bb)) :
    Calls Try.prog 5 #[.agg #[.int .i64 ra, .slice Aa rsa.length ca], .int .i64 n, .slice Ai rsi.length ci] w fun e w' => e = .returned (.bool true) ∧ Below w.heap.size w w' := by
  have HS := Lib.hid hs
  have HI := Lib.hid hi
  clear hs hi
  have HB := Lib.hid (Below.refl w.heap.size w)
  have Ha := Lib.hid ha
  have Hi := Lib.hid hi0
  clear ha hi0
  have hnl : rsa.length ≤ 1048576 := by omega
  have hml : rsa.length ≤ maxLen := Nat.le_trans hnl (by unfold maxLen; omega)
  have hnl2 : rsi.length ≤ 1048576 := by omega
  have hml2 : rsi.length ≤ maxLen := Nat.le_trans hnl2 (by unfold maxLen; omega)
  have ROW := Lib.hid (show ∀ r ∈ rsa, r.zs.length ≤ 1048576 from fun r hr => by have := row_le_tot hr; omega)
  have ROWI := Lib.hid (show ∀ r ∈ rsi, r.zs.length ≤ 1048576 from fun r hr => by have := row_le_tot hr; omega)
  have tl0 : decide ((1048576 : Int) - (rsa.length : Int) - (tot rsa : Int) < 0) = false := by simp; omega
  have tl1 : decide ((1048576 : Int) - (rsa.length : Int) - (tot rsa : Int) - (rsi.length : Int) - (tot rsi : Int) < 0) = false := by simp; omega
  cases bb
  all_goals
    go_enter Try.func5, Try.ntmps5
    go_wp2_with fail
    refine (szP_any ra Aa ca rsa _ _ (Ha.out.into (al1 _ _)) hml (by omega) (by omega)).mono ?_
    rintro e w1 ⟨rfl, hb⟩
    rw [if_neg (by omega)]
    have D1 := Lib.hid (on1 _ hb)
    have s1 : w.heap.size + 1 ≤ w1.heap.size := by have := hb.size; (try simp at this); omega
    have aa_1 := Lib.hid ((BoxG.new w 40 (.int .i64 ra) (.slice Aa rsa.length ca)).below hb (by simp))
    have HB1 := Lib.hid (HB.out.trans (D1.out.mono (by omega)))
    clear HB
    have HB := HB1
    clear HB1 hb
    have z_aa : w.heap.size < w1.heap.size := by omega
    obtain ⟨qaa0, qaa1⟩ := aa_1.out
    go_wp2_with fail
    refine (szSS_any Ai ci rsi _ w.heap.size _ (Hi.out.below HB.out) hml2 (by omega) (by omega)).mono ?_
    rintro e w' ⟨rfl, rfl⟩
    rw [if_neg (by omega)]
    clear qaa0 qaa1
    obtain ⟨qaa0, qaa1⟩ := aa_1.out
    go_wp2_with fail
    refine (toP_any ra Aa ca rsa _ (Ha.out.into HB.out) hnl ROW.out).mono ?_
    rintro e w2 ⟨g2, c2, rs2, rfl, hk, hv, hb⟩
    clear qaa0 qaa1
    have X2_2 := Lib.hid (hk.wide (lo' := w1.heap.size) (hi' := w2.heap.size) (by simp) (Nat.le_refl _))
    have V2 := Lib.hid hv
    clear hk hv
    have D2 := Lib.hid (hb)
    have s2 : w1.heap.size + 0 ≤ w2.heap.size := by have := hb.size; (try simp at this); omega
    have aa_2 := Lib.hid (aa_1.out.below D2.out (by omega))
    clear aa_1
    have HB2 := Lib.hid (HB.out.trans (D2.out.mono (by omega)))
    clear HB
    have HB := HB2
    clear HB2 hb
    clear z_aa
    have z_aa : w.heap.size < w2.heap.size := by omega
    obtain ⟨qaa0, qaa1⟩ := aa_2.out
    go_wp2_with fail
    refine (toSS_any Ai ci rsi _ (Hi.out.into HB.out) hnl2 ROWI.out).mono ?_
    rintro e w3 ⟨g3, c3, rs3, rfl, hk, hv, hb⟩
    clear qaa0 qaa1
    have X3_3 := Lib.hid (hk.wide (lo' := w2.heap.size) (hi' := w3.heap.size) (by simp) (Nat.le_refl _))
    have V3 := Lib.hid hv
    clear hk hv
    have D3 := Lib.hid (hb)
    have s3 : w2.heap.size + 0 ≤ w3.heap.size := by have := hb.size; (try simp at this); omega
    have aa_3 := Lib.hid (aa_2.out.below D3.out (by omega))
    clear aa_2
    have X2_3 := Lib.hid (X2_2.out.below D3.out (by omega))
    clear X2_2
    have HB3 := Lib.hid (HB.out.trans (D3.out.mono (by omega)))
    clear HB
    have HB := HB3
    clear HB3 hb
    clear z_aa
    have z_aa : w.heap.size < w3.heap.size := by omega
    obtain ⟨qaa0, qaa1⟩ := aa_3.out
    go_wp2_with fail
    refine (HS.out _ _ _ _ _ _ _ (X2_3.out.rd.more (by (try simp) <;> omega)) V2.out (X3_3.out.rd.more (by (try simp) <;> omega)) V3.out X3_3.out.cap.1 X3_3.out.cap.2).mono ?_
    rintro e w4 ⟨rfl, hb⟩
    clear qaa0 qaa1
    have D4 := Lib.hid (hb)
    have s4 : w3.heap.size + 0 ≤ w4.heap.size := by have := hb.size; (try simp at this); omega
    have aa_4 := Lib.hid (aa_3.out.below D4.out (by omega))
    clear aa_3
    have X2_4 := Lib.hid (X2_3.out.below D4.out (by omega))
    clear X2_3
    have X3_4 := Lib.hid (X3_3.out.below D4.out (by omega))
    clear X3_3
    have HB4 := Lib.hid (HB.out.trans (D4.out.mono (by omega)))
    clear HB
    have HB := HB4
    clear HB4 hb
    clear z_aa
    have z_aa : w.heap.size < w4.heap.size := by omega
    as_aux_lemma =>
      obtain ⟨qaa0, qaa1⟩ := aa_4.out
      go_wp2_with fail
      refine (toP_any ra Aa ca rsa _ (Ha.out.into HB.out) hnl ROW.out).mono ?_
      rintro e w5 ⟨g5, c5, rs5, rfl, hk, hv, hb⟩
      clear qaa0 qaa1
      have X5_5 := Lib.hid (hk.wide (lo' := w4.heap.size) (hi' := w5.heap.size) (by simp) (Nat.le_refl _))
      have V5 := Lib.hid hv
      clear hk hv
      have D5 := Lib.hid (hb)
      have s5 : w4.heap.size + 0 ≤ w5.heap.size := by have := hb.size; (try simp at this); omega
      have aa_5 := Lib.hid (aa_4.out.below D5.out (by omega))
      clear aa_4
      have HB5 := Lib.hid (HB.out.trans (D5.out.mono (by omega)))
      clear HB
      have HB := HB5
      clear HB5 hb
      clear z_aa
      have z_aa : w.heap.size < w5.heap.size := by omega
      obtain ⟨qaa0, qaa1⟩ := aa_5.out
      go_wp2_with fail
      refine (toSS_any Ai ci rsi _ (Hi.out.into (HB.out.trans ((al1 _ _).mono (by omega)))) hnl2 ROWI.out).mono ?_
      rintro e w6 ⟨g6, c6, rs6, rfl, hk, hv, hb⟩
      clear qaa0 qaa1
      have X6_6 := Lib.hid (hk.wide (lo' := w5.heap.size + 1) (hi' := w6.heap.size) (by simp) (Nat.le_refl _))
      have V6 := Lib.hid hv
      clear hk hv
      have D6 := Lib.hid (on1 _ hb)
      have s6 : w5.heap.size + 1 ≤ w6.heap.size := by have := hb.size; (try simp at this); omega
      have aa_6 := Lib.hid (aa_5.out.below D6.out (by omega))
      clear aa_5
      have bx_6 := Lib.hid ((BoxG.new w5 29 (.int .i64 ra) (.slice (some ⟨g5, 0, none⟩) rs5.length c5)).below hb (by simp))
      have X5_6 := Lib.hid (X5_5.out.below D6.out (by omega))
      clear X5_5
      have HB6 := Lib.hid (HB.out.trans (D6.out.mono (by omega)))
      clear HB
      have HB := HB6
      clear HB6 hb
      clear z_aa
      have z_aa : w.heap.size < w6.heap.size := by omega
      have z_bx : w5.heap.size < w6.heap.size := by omega
      obtain ⟨qaa0, qaa1⟩ := aa_6.out
      obtain ⟨qbx0, qbx1⟩ := bx_6.out
      go_wp2_with fail
      refine (HI.out _ _ _ _ _ _ _ (X5_6.out.rd.more (by (try simp) <;> omega)) V5.out (X6_6.out.rd.more (by (try simp) <;> omega)) V6.out X6_6.out.cap.1 X6_6.out.cap.2).mono ?_
      rintro e w7 ⟨rfl, hb⟩
      clear qaa0 qaa1 qbx0 qbx1
      have D7 := Lib.hid (hb)
      have s7 : w6.heap.size + 0 ≤ w7.heap.size := by have := hb.size; (try simp at this); omega
      have aa_7 := Lib.hid (aa_6.out.below D7.out (by omega))
      clear aa_6
      have bx_7 := Lib.hid (bx_6.out.below D7.out (by omega))
      clear bx_6
      have X5_7 := Lib.hid (X5_6.out.below D7.out (by omega))
      clear X5_6
      have X6_7 := Lib.hid (X6_6.out.below D7.out (by omega))
      clear X6_6
      have HB7 := Lib.hid (HB.out.trans (D7.out.mono (by omega)))
      clear HB
      have HB := HB7
      clear HB7 hb
      clear z_aa
      have z_aa : w.heap.size < w7.heap.size := by omega
      clear z_bx
      have z_bx : w5.heap.size < w7.heap.size := by omega
      as_aux_lemma =>
        obtain ⟨qaa0, qaa1⟩ := aa_7.out
        obtain ⟨qbx0, qbx1⟩ := bx_7.out
        go_wp2_with fail
        go_region_held3 (fun W => (W.cell? ⟨w5.heap.size, 0, none⟩ = some (.int .i64 ra) ∧ W.cell? ⟨w5.heap.size, 1, none⟩ = some (.slice (some ⟨g5, 0, none⟩) rs5.length c5)) ∧ (W.cell? ⟨w.heap.size, 0, none⟩ = some (.int .i64 ra) ∧ W.cell? ⟨w.heap.size, 1, none⟩ = some (.slice Aa rsa.length ca))) (go_keep)
          (first
            | (go_at_call 26; (with_reducible refine (toP_any ra Aa ca rsa _ (by exact Ha.out.into HB.out.drew) hnl ROW.out).mono ?_); rintro e w8 ⟨g8, c8, rs8, rfl, hk6, hv6, hb6'⟩; have hb6 := undrew hb6'; have K6 := Lib.hid hk6; have B6 := Lib.hid hb6; have V6 := Lib.hid hv6; have z6 := hb6.size; obtain ⟨e0, e1⟩ := bx_7.out.below hb6 (by omega); obtain ⟨f0, f1⟩ := aa_7.out.below hb6 (by omega); clear hk6 hv6 hb6 hb6')
            | (go_at_call 28; (with_reducible refine (eqP_any ra _ _ _ _ rs5 _ w5.heap.size _ _ (by exact X5_7.out.rd.below (B6.out.mono (by omega))) (by exact K6.out.rd) (V5.out.trans V6.out.symm) (by have := B6.out.size; omega) (Nat.le_refl _) (by have h1 := congrArg List.length V5.out; rw [vals_len, vals_len] at h1; omega) (rows_of V5.out ROW.out)).mono ?_); rintro e w9 ⟨rfl, hb7⟩; obtain ⟨m0, m1⟩ := (bx_7.out.below B6.out (by omega)).below hb7 (by omega); obtain ⟨y0, y1⟩ := (aa_7.out.below B6.out (by omega)).below hb7 (by omega)))
        clear e0 e1 f0 f1 m0 m1 y0 y1 K6 V6
        clear qaa0 qaa1 qbx0 qbx1
        have hb6 := B6.out
        clear B6
        have D8 := Lib.hid (hb6)
        have s8 : w7.heap.size + 0 ≤ w8.heap.size := by have := hb6.size; (try simp at this); omega
        have aa_8 := Lib.hid (aa_7.out.below D8.out (by omega))
        clear aa_7
        have bx_8 := Lib.hid (bx_7.out.below D8.out (by omega))
        clear bx_7
        have X5_8 := Lib.hid (X5_7.out.below D8.out (by omega))
        clear X5_7
        have X6_8 := Lib.hid (X6_7.out.below D8.out (by omega))
        clear X6_7
        have HB8 := Lib.hid (HB.out.trans (D8.out.mono (by omega)))
        clear HB
        have HB := HB8
        clear HB8 hb6
        clear z_aa
        have z_aa : w.heap.size < w8.heap.size := by omega
        clear z_bx
        have z_bx : w5.heap.size < w8.heap.size := by omega
        have D9 := Lib.hid (hb7)
        have s9 : w8.heap.size + 0 ≤ w9.heap.size := by have := hb7.size; (try simp at this); omega
        have aa_9 := Lib.hid (aa_8.out.below D9.out (by omega))
        clear aa_8
        have bx_9 := Lib.hid (bx_8.out.below D9.out (by omega))
        clear bx_8
        have X5_9 := Lib.hid (X5_8.out.below D9.out (by omega))
        clear X5_8
        have X6_9 := Lib.hid (X6_8.out.below D9.out (by omega))
        clear X6_8
        have HB9 := Lib.hid (HB.out.trans (D9.out.mono (by omega)))
        clear HB
        have HB := HB9
        clear HB9 hb7
        clear z_aa
        have z_aa : w.heap.size < w9.heap.size := by omega
        clear z_bx
        have z_bx : w5.heap.size < w9.heap.size := by omega
        obtain ⟨qaa0, qaa1⟩ := aa_9.out
        obtain ⟨qbx0, qbx1⟩ := bx_9.out
        go_wp2_with fail
        refine (toSS_any Ai ci rsi _ (Hi.out.into HB.out) hnl2 ROWI.out).mono ?_
        rintro e w10 ⟨g10, c10, rs10, rfl, hk, hv, hb⟩
        clear qaa0 qaa1 qbx0 qbx1
        have X10_10 := Lib.hid (hk.wide (lo' := w9.heap.size) (hi' := w10.heap.size) (by simp) (Nat.le_refl _))
        have V10 := Lib.hid hv
        clear hk hv
        have D10 := Lib.hid (hb)
        have s10 : w9.heap.size + 0 ≤ w10.heap.size := by have := hb.size; (try simp at this); omega
        have aa_10 := Lib.hid (aa_9.out.below D10.out (by omega))
        clear aa_9
        have bx_10 := Lib.hid (bx_9.out.below D10.out (by omega))
        clear bx_9
        have X5_10 := Lib.hid (X5_9.out.below D10.out (by omega))
        clear X5_9
        have X6_10 := Lib.hid (X6_9.out.below D10.out (by omega))
        clear X6_9
        have HB10 := Lib.hid (HB.out.trans (D10.out.mono (by omega)))
        clear HB
        have HB := HB10
        clear HB10 hb
        clear z_aa
        have z_aa : w.heap.size < w10.heap.size := by omega
        clear z_bx
        have z_bx : w5.heap.size < w10.heap.size := by omega
        obtain ⟨qaa0, qaa1⟩ := aa_10.out
        obtain ⟨qbx0, qbx1⟩ := bx_10.out
        go_wp2_with fail
        refine (eqSS_any _ _ _ _ rs6 rs10 (w6.heap.size) (w10.heap.size) _ X6_10.out.rd X10_10.out.rd (V6.out.trans V10.out.symm) (by (try simp) <;> omega) (by (try simp) <;> omega) (by have h1 := congrArg List.length V6.out; rw [vals_len, vals_len] at h1; omega) (rows_of V6.out ROWI.out)).mono ?_
        rintro e w11 ⟨rfl, hb⟩
        clear qaa0 qaa1 qbx0 qbx1
        have D11 := Lib.hid (hb)
        have s11 : w10.heap.size + 0 ≤ w11.heap.size := by have := hb.size; (try simp at this); omega
        have aa_11 := Lib.hid (aa_10.out.below D11.out (by omega))
        clear aa_10
        have bx_11 := Lib.hid (bx_10.out.below D11.out (by omega))
        clear bx_10
        have X5_11 := Lib.hid (X5_10.out.below D11.out (by omega))
        clear X5_10
        have X6_11 := Lib.hid (X6_10.out.below D11.out (by omega))
        clear X6_10
        have X10_11 := Lib.hid (X10_10.out.below D11.out (by omega))
        clear X10_10
        have HB11 := Lib.hid (HB.out.trans (D11.out.mono (by omega)))
        clear HB
        have HB := HB11
        clear HB11 hb
        clear z_aa
        have z_aa : w.heap.size < w11.heap.size := by omega
        clear z_bx
        have z_bx : w5.heap.size < w11.heap.size := by omega
        go_wp2
        go_ret
        exact ⟨rfl, HB.out⟩

theorem len_of_ {rs qs : List Rw} (h : vals rs = vals qs) : rs.length = qs.length := by rw [← vals_len, ← vals_len, h]
set_option maxHeartbeats 2000000 in
theorem bigIsRepresentation (r : Int) (A : Option Addr) (c : Nat) (rs : List Rw) (n : Int) (Ai : Option Addr) (ci : Nat) (qs : List Rw) (w : World) (h : RdS w w.heap.size A rs) (hi : RdS w w.heap.size Ai qs) (hm : rs.length ≤ maxLen) (hm2 : qs.length ≤ maxLen) (hn : ¬ rs.length + tot rs + (qs.length + tot qs) ≤ 1048576) :
    Calls Try.prog 5 #[.agg #[.int .i64 r, .slice A rs.length c], .int .i64 n, .slice Ai qs.length ci] w fun e w' => e = .returned (.bool true) ∧ Below w.heap.size w w' := by
  have H := Lib.hid (h.into (al1 w (Obj.cells #[.int .i64 r, .slice A rs.length c] 40)))
  have HI := Lib.hid hi
  clear h hi
  by_cases h1 : rs.length + tot rs ≤ 1048576
  · have tl0 : decide ((1048576 : Int) - (rs.length : Int) - (tot rs : Int) < 0) = false := by simp; omega
    go_enter Try.func5, Try.ntmps5
    go_wp2_with fail
    refine (szP_any r A c rs _ _ H.out hm (by omega) (by omega)).mono ?_
    rintro e w1 ⟨rfl, hb⟩
    rw [if_neg (by omega)]
    have B1 := Lib.hid (on1 _ hb)
    clear hb
    go_wp2_with fail
    refine (szSS_any Ai ci qs _ w.heap.size _ (HI.out.below B1.out) hm2 (by omega) (by omega)).mono ?_
    rintro e w2 ⟨rfl, rfl⟩
    rw [if_pos (by omega)]
    go_wp2
    go_ret
    exact ⟨rfl, B1.out⟩
  · go_enter Try.func5, Try.ntmps5
    go_wp2_with fail
    refine (szP_any r A c rs _ _ H.out hm (by omega) (by omega)).mono ?_
    rintro e w1 ⟨rfl, hb⟩
    rw [if_pos (by omega)]
    go_wp2
    go_ret
    exact ⟨rfl, on1 _ hb⟩
theorem allIsRepresentation (r : Int) (A : Option Addr) (c : Nat) (rs : List Rw) (n : Int) (Ai : Option Addr) (ci : Nat) (qs : List Rw) (w : World) (h : RdS w w.heap.size A rs) (hm : rs.length ≤ maxLen) (hw : (Lit.int .i64 n).wf = true) (hi : RdS w w.heap.size Ai qs) (hm2 : qs.length ≤ maxLen) :
    Calls Try.prog 5 #[.agg #[.int .i64 r, .slice A rs.length c], .int .i64 n, .slice Ai qs.length ci] w fun e w' => e = .returned (.bool true) ∧ Below w.heap.size w w' := by
  by_cases hn : rs.length + tot rs + (qs.length + tot qs) ≤ 1048576
  case neg => exact bigIsRepresentation r A c rs n Ai ci qs w h hi hm hm2 hn
  · have hrow : ∀ r ∈ rs, r.zs.length ≤ 1048576 := fun q hq => by have := row_le_tot hq; omega
    have hrow2 : ∀ r ∈ qs, r.zs.length ≤ 1048576 := fun q hq => by have := row_le_tot hq; omega
    exact exactIsRepresentation r A c rs n Ai ci qs (isRep r n (vals rs) (vals qs)) w h hi hn
      (fun W A' A2 c' c2 ps us h' hv h2 hv2 _ _ => by have := isRep_spec r n A' A2 c' c2 ps us W h' h2 (by rw [len_of_ hv]; omega) (rows_of hv hrow) (by rw [len_of_ hv2]; omega) (rows_of hv2 hrow2) (wf_in hw); rw [hv, hv2] at this; exact this)
      (fun W A' A2 c' c2 ps us h' hv h2 hv2 k1 k2 => by have := isRep_impl r n A' A2 c' c2 ps us W h' h2 (by rw [len_of_ hv]; omega) (rows_of hv hrow) (by rw [len_of_ hv2]; omega) (rows_of hv2 hrow2) k1 k2; rw [hv, hv2] at this; exact this)

set_option maxRecDepth 100000 in
theorem exactIsRepresentation_lifted (os : Os) (started : os.Started) (H : Type) (enc : TypeId × Value → H) :
    ReturnsInHanded {} Try.checked os 5 .any (Rows.fnExactIsRepresentationSpec.pre6 enc Try.prog Try.f5 Rows.fnExactIsRepresentationRow.domain false) (Rows.fnExactIsRepresentationSpec.post enc Try.prog Try.f5 false true false false) := by
  refine returnsInHanded_of_change (C := Try.checked) own started (by kernel_rfl) Try.func5
    (ChangeSpec.witness6 (enc := enc) (C := Try.checked) false ⟨#[], #[.agg #[.int .i64 0, .slice none 0 0], .int .i64 0, .slice none 0 0], []⟩ 8 (by kernel_rfl) (by kernel_rfl) (by kernel_rfl) (by kernel_rfl)) ?_
  intro W base args ds gs before hval0 hW _ _
  have hval : ∀ (j : Nat) t v, Try.f5.params[j]? = some t → args[j]? = some v → Value.okWide Try.prog W .any base t v := hval0
  have hW' := hW
  obtain ⟨p, q, hA0, hV, rfl, hfz, hnd⟩ := hW
  have hA : DataW.TrodAll enc Try.prog W 0 (fun _ => true) true Try.f5.params.toList args.toList ds p := hA0
  rw [Try.params5] at hA hval
  obtain ⟨v0, vs0, d0, ds0, p0, q0, hargs, rfl, rfl, h0, r0⟩ := trodAll_cons hA
  obtain ⟨v1, vs1, d1, ds1, p1, q1, rfl, rfl, rfl, h1, r1⟩ := trodAll_cons r0
  obtain ⟨v2, vs2, d2, ds2, p2, q2, rfl, rfl, rfl, h2, r2⟩ := trodAll_cons r1
  obtain ⟨rfl, rfl, rfl⟩ := trodAll_nil r2
  obtain rfl : args = #[v0, v1, v2] := by cases args; simp_all
  obtain ⟨rfl, rfl⟩ := trodVars_none hV
  have k0_ := h0
  have lt0 : ∀ x ∈ p0, x.block < W.heap.size := by obtain ⟨m, hm⟩ := k0_; exact DataW.trod_lt m _ _ _ hm
  obtain ⟨pr0, A0, c0, rs0, rfl, hi0, hm0, _⟩ := openP (hval 0 40 v0 rfl rfl) h0
  obtain ⟨x1, rfl, rfl, rfl, wx1⟩ := open_int Try.underlying2 (hval 1 2 v1 rfl rfl) h1
  have k2_ := h2
  have lt2 : ∀ x ∈ p2, x.block < W.heap.size := by obtain ⟨m, hm⟩ := k2_; exact DataW.trod_lt m _ _ _ hm
  obtain ⟨A2, c2, rs2, rfl, hi2, hm2⟩ := openS (hval 2 27 v2 rfl rfl) h2
  clear hA0 hval0
  refine (allIsRepresentation pr0 A0 c0 rs0 x1 A2 c2 rs2 W hi0 hm0 wx1 hi2 hm2).mono fun e W' ⟨he, bel⟩ => ?_
  subst he
  exact ⟨_, rfl, _, _, _, [], _, [], hW', trodAll_mk1 (shut_bool Try.underlying4 _), (trodAll_cons_mk (Below.trod laidOut (by kernel_rfl) (of_decide_eq_true (by kernel_rfl)) k0_ bel lt0) (trodAll_cons_mk (shut_int Try.underlying2 wx1) (trodAll_cons_mk (Below.trod laidOut (by kernel_rfl) (of_decide_eq_true (by kernel_rfl)) k2_ bel lt2) trodAll_mk0))), rfl, bel.frame _, fun h => by cases h⟩

theorem exactIsRepresentation_holds : Rows.FnExactIsRepresentationSaid :=
  OpenClaim.holds_of_wide 5 Try.f5 rfl rfl rfl rfl rfl rfl rfl ⟨rfl, rfl, rfl, rfl, rfl⟩ rfl rfl rfl rfl rfl (by kernel_rfl) Try.func5 (by kernel_rfl)
    (of_decide_eq_true (by kernel_rfl)) (by unfold Func.isWrapper; first | (rw [if_pos (by decide +kernel)]; kernel_rfl) | (rw [if_neg (by decide +kernel)]; exact ⟨rfl, rfl⟩))
    (fun os started H enc _ => exactIsRepresentation_lifted os started H enc)

#print axioms exactIsRepresentation_holds

end Go.Proofs.Ytakokhfnllpahaa
