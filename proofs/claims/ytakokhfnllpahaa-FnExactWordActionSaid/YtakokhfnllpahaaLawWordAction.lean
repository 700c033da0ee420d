/- The law FnExactWordAction returns true for every number, list of lists and list that are passed in and changes no memory that was there. No condition. -/
import Derived.Test.YtakokhfnllpahaaLiftS
import Derived.Test.YtakokhfnllpahaaRpH
namespace Go.Proofs.Ytakokhfnllpahaa
open Go.ChangeShapes Go.WideShapes Go.ChangeAt Go.RowKit

theorem rows_of {rs qs : List Rw} (h : vals rs = vals qs) (hq : ∀ r ∈ qs, r.zs.length ≤ 1048576) : ∀ r ∈ rs, r.zs.length ≤ 1048576 := fun r hr => by
  have h1 : r.zs ∈ vals qs := by rw [← h]; exact List.mem_map_of_mem hr
  obtain ⟨q, hq1, hq2⟩ := List.mem_map.1 h1
  rw [← hq2]
  exact hq q hq1

set_option maxRecDepth 100000 in
set_option maxHeartbeats 16000000 in
theorem exactWordAction (n : Int) (Ai : Option Addr) (ci : Nat) (rsi : List Rw) (Aw : Option Addr) (nw cw : Nat) (zw : List Int) (ll : List Int) (bb : Bool) (w : World) (hi0 : RdS w w.heap.size Ai rsi) (hw : Ints w w.heap.size Aw nw zw) (hnw : nw ≤ 1048576) (hna : rsi.length + tot rsi ≤ 1048576) (hz : ll.length ≤ 1048576)
    (hs : ∀ (W : World) (A A2 : Option Addr) (c : Nat) (qs : List Rw), RdS W W.heap.size A qs → vals qs = vals rsi → qs.length ≤ c → c ≤ maxLen → Ints W W.heap.size A2 nw zw → Calls Try.prog 30 #[.int .i64 n, .slice A qs.length c, .slice A2 nw nw] W (ResLB W (ll, bb)))
    (hi : ∀ (W : World) (A A2 : Option Addr) (c : Nat) (qs : List Rw), RdS W W.heap.size A qs → vals qs = vals rsi → qs.length ≤ c → c ≤ maxLen → Ints W W.heap.size A2 nw zw → Calls Try.prog 32 #[.int .i64 n, .slice A qs.length c, .slice A2 nw nw] W (ResLB W (ll, bb))) :
    Calls Try.prog 6 #[.int .i64 n, .slice Ai rsi.length ci, .slice Aw nw cw] w fun e w' => e = .returned (.bool true) ∧ Below w.heap.size w w' := by
  have HS := Lib.hid hs
  have HI := Lib.hid hi
  clear hs hi
  have HB := Lib.hid (Below.refl w.heap.size w)
  have Hi := Lib.hid hi0
  have Hw := Lib.hid hw
  have hlw := Lib.hid hw.1
  clear hi0 hw
  have hnl2 : rsi.length ≤ 1048576 := by omega
  have hml2 : rsi.length ≤ maxLen := Nat.le_trans hnl2 (by unfold maxLen; omega)
  have ROWI := Lib.hid (show ∀ r ∈ rsi, r.zs.length ≤ 1048576 from fun r hr => by have := row_le_tot hr; omega)
  have t0 : decide ((1048576 : Int) < (nw : Int)) = false := by simp; omega
  have tl1 : decide ((1048576 : Int) - (rsi.length : Int) - (tot rsi : Int) < 0) = false := by simp; omega
  cases bb
  all_goals
    go_enter Try.func6, Try.ntmps6
    go_wp2_with fail
    refine (szSS_any Ai ci rsi _ w.heap.size _ (Hi.out.below HB.out) hml2 (by omega) (by omega)).mono ?_
    rintro e w' ⟨rfl, rfl⟩
    rw [if_neg (by omega)]
    go_wp2_with fail
    refine (toSS_any Ai ci rsi _ (Hi.out.into HB.out) hnl2 ROWI.out).mono ?_
    rintro e w1 ⟨g1, c1, rs1, rfl, hk, hv, hb⟩
    have X1_1 := Lib.hid (hk.wide (lo' := w.heap.size) (hi' := w1.heap.size) (by simp) (Nat.le_refl _))
    have V1 := Lib.hid hv
    clear hk hv
    have D1 := Lib.hid (hb)
    have s1 : w.heap.size + 0 ≤ w1.heap.size := by have := hb.size; (try simp at this); omega
    have HB1 := Lib.hid (HB.out.trans (D1.out.mono (by omega)))
    clear HB
    have HB := HB1
    clear HB1 hb
    go_wp2_with fail
    refine (toInts_any Aw nw cw zw _ (Hw.out.into HB.out) hnw).mono ?_
    rintro e w2 ⟨rfl, hk, hb⟩
    have X2_2 := Lib.hid (Mine.of_blk (lo := w1.heap.size) (hi := w2.heap.size) hk (Nat.le_refl _) hk.lt hlw.out)
    clear hk
    have D2 := Lib.hid (hb)
    have s2 : w1.heap.size + 0 ≤ w2.heap.size := by have := hb.size; (try simp at this); omega
    have X1_2 := Lib.hid (X1_1.out.below D2.out (by omega))
    clear X1_1
    have HB2 := Lib.hid (HB.out.trans (D2.out.mono (by omega)))
    clear HB
    have HB := HB2
    clear HB2 hb
    go_wp2_with fail
    refine (HS.out _ _ _ _ _ (X1_2.out.rd.more (by omega)) V1.out X1_2.out.cap.1 X1_2.out.cap.2 (X2_2.out.ints.more (by omega))).mono ?_
    rintro e w3 ⟨R3, t3, rfl, _, hown, hb⟩
    dsimp only at hown ⊢
    have Y3_3 := Lib.hid hown
    clear hown
    have D3 := Lib.hid (hb)
    have s3 : w2.heap.size + 0 ≤ w3.heap.size := by have := hb.size; (try simp at this); omega
    have X1_3 := Lib.hid (X1_2.out.below D3.out (by omega))
    clear X1_2
    have X2_3 := Lib.hid (X2_2.out.below D3.out (by omega))
    clear X2_2
    have HB3 := Lib.hid (HB.out.trans (D3.out.mono (by omega)))
    clear HB
    have HB := HB3
    clear HB3 hb
    clear X1_3
    clear X2_3
    as_aux_lemma =>
      go_wp2_with fail
      refine (toSS_any Ai ci rsi _ (Hi.out.into HB.out) hnl2 ROWI.out).mono ?_
      rintro e w4 ⟨g4, c4, rs4, rfl, hk, hv, hb⟩
      have X4_4 := Lib.hid (hk.wide (lo' := w3.heap.size) (hi' := w4.heap.size) (by simp) (Nat.le_refl _))
      have V4 := Lib.hid hv
      clear hk hv
      have D4 := Lib.hid (hb)
      have s4 : w3.heap.size + 0 ≤ w4.heap.size := by have := hb.size; (try simp at this); omega
      have Y3_4 := Lib.hid (Y3_3.out.below D4.out (by omega))
      clear Y3_3
      have HB4 := Lib.hid (HB.out.trans (D4.out.mono (by omega)))
      clear HB
      have HB := HB4
      clear HB4 hb
      go_wp2_with fail
      refine (toInts_any Aw nw cw zw _ (Hw.out.into HB.out) hnw).mono ?_
      rintro e w5 ⟨rfl, hk, hb⟩
      have X5_5 := Lib.hid (Mine.of_blk (lo := w4.heap.size) (hi := w5.heap.size) hk (Nat.le_refl _) hk.lt hlw.out)
      clear hk
      have D5 := Lib.hid (hb)
      have s5 : w4.heap.size + 0 ≤ w5.heap.size := by have := hb.size; (try simp at this); omega
      have Y3_5 := Lib.hid (Y3_4.out.below D5.out (by omega))
      clear Y3_4
      have X4_5 := Lib.hid (X4_4.out.below D5.out (by omega))
      clear X4_4
      have HB5 := Lib.hid (HB.out.trans (D5.out.mono (by omega)))
      clear HB
      have HB := HB5
      clear HB5 hb
      go_wp2_with fail
      refine (HI.out _ _ _ _ _ (X4_5.out.rd.more (by omega)) V4.out X4_5.out.cap.1 X4_5.out.cap.2 (X5_5.out.ints.more (by omega))).mono ?_
      rintro e w6 ⟨R6, t6, rfl, _, hown, hb⟩
      dsimp only at hown ⊢
      have Y6_6 := Lib.hid hown
      clear hown
      have D6 := Lib.hid (hb)
      have s6 : w5.heap.size + 0 ≤ w6.heap.size := by have := hb.size; (try simp at this); omega
      have Y3_6 := Lib.hid (Y3_5.out.below D6.out (by omega))
      clear Y3_5
      have X4_6 := Lib.hid (X4_5.out.below D6.out (by omega))
      clear X4_5
      have X5_6 := Lib.hid (X5_5.out.below D6.out (by omega))
      clear X5_5
      have HB6 := Lib.hid (HB.out.trans (D6.out.mono (by omega)))
      clear HB
      have HB := HB6
      clear HB6 hb
      as_aux_lemma =>
        go_wp2_with fail
        refine (eqInts_any _ _ _ _ _ ll (w6.heap.size) (w3.heap.size) _ Y6_6.out.ints Y3_6.out.ints hz).mono ?_
        rintro e w7 ⟨rfl, hm⟩
        have hb : Below w6.heap.size w6 w7 := by obtain ⟨m, rfl⟩ := hm; exact Go.Joins.below_draws _ _ _
        clear hm
        have D7 := Lib.hid (hb)
        have s7 : w6.heap.size + 0 ≤ w7.heap.size := by have := hb.size; (try simp at this); omega
        have Y3_7 := Lib.hid (Y3_6.out.below D7.out (by omega))
        clear Y3_6
        have X4_7 := Lib.hid (X4_6.out.below D7.out (by omega))
        clear X4_6
        have X5_7 := Lib.hid (X5_6.out.below D7.out (by omega))
        clear X5_6
        have Y6_7 := Lib.hid (Y6_6.out.below D7.out (by omega))
        clear Y6_6
        have HB7 := Lib.hid (HB.out.trans (D7.out.mono (by omega)))
        clear HB
        have HB := HB7
        clear HB7 hb
        go_wp2_with fail
        refine (toSS_any Ai ci rsi _ (Hi.out.into HB.out) hnl2 ROWI.out).mono ?_
        rintro e w8 ⟨g8, c8, rs8, rfl, hk, hv, hb⟩
        have X8_8 := Lib.hid (hk.wide (lo' := w7.heap.size) (hi' := w8.heap.size) (by simp) (Nat.le_refl _))
        have V8 := Lib.hid hv
        clear hk hv
        have D8 := Lib.hid (hb)
        have s8 : w7.heap.size + 0 ≤ w8.heap.size := by have := hb.size; (try simp at this); omega
        have Y3_8 := Lib.hid (Y3_7.out.below D8.out (by omega))
        clear Y3_7
        have X4_8 := Lib.hid (X4_7.out.below D8.out (by omega))
        clear X4_7
        have X5_8 := Lib.hid (X5_7.out.below D8.out (by omega))
        clear X5_7
        have Y6_8 := Lib.hid (Y6_7.out.below D8.out (by omega))
        clear Y6_7
        have HB8 := Lib.hid (HB.out.trans (D8.out.mono (by omega)))
        clear HB
        have HB := HB8
        clear HB8 hb
        go_wp2_with fail
        refine (eqSS_any _ _ _ _ rs4 rs8 (w4.heap.size) (w8.heap.size) _ X4_8.out.rd X8_8.out.rd (V4.out.trans V8.out.symm) (by omega) (by omega) (by have h1 := congrArg List.length V4.out; rw [vals_len, vals_len] at h1; omega) (rows_of V4.out ROWI.out)).mono ?_
        rintro e w9 ⟨rfl, hb⟩
        have D9 := Lib.hid (hb)
        have s9 : w8.heap.size + 0 ≤ w9.heap.size := by have := hb.size; (try simp at this); omega
        have Y3_9 := Lib.hid (Y3_8.out.below D9.out (by omega))
        clear Y3_8
        have X4_9 := Lib.hid (X4_8.out.below D9.out (by omega))
        clear X4_8
        have X5_9 := Lib.hid (X5_8.out.below D9.out (by omega))
        clear X5_8
        have Y6_9 := Lib.hid (Y6_8.out.below D9.out (by omega))
        clear Y6_8
        have X8_9 := Lib.hid (X8_8.out.below D9.out (by omega))
        clear X8_8
        have HB9 := Lib.hid (HB.out.trans (D9.out.mono (by omega)))
        clear HB
        have HB := HB9
        clear HB9 hb
        clear X8_9
        go_wp2_with fail
        refine (toInts_any Aw nw cw zw _ (Hw.out.into HB.out) hnw).mono ?_
        rintro e w10 ⟨rfl, hk, hb⟩
        have X10_10 := Lib.hid (Mine.of_blk (lo := w9.heap.size) (hi := w10.heap.size) hk (Nat.le_refl _) hk.lt hlw.out)
        clear hk
        have D10 := Lib.hid (hb)
        have s10 : w9.heap.size + 0 ≤ w10.heap.size := by have := hb.size; (try simp at this); omega
        have Y3_10 := Lib.hid (Y3_9.out.below D10.out (by omega))
        clear Y3_9
        have X4_10 := Lib.hid (X4_9.out.below D10.out (by omega))
        clear X4_9
        have X5_10 := Lib.hid (X5_9.out.below D10.out (by omega))
        clear X5_9
        have Y6_10 := Lib.hid (Y6_9.out.below D10.out (by omega))
        clear Y6_9
        have HB10 := Lib.hid (HB.out.trans (D10.out.mono (by omega)))
        clear HB
        have HB := HB10
        clear HB10 hb
        go_wp2_with fail
        refine (eqInts_any _ _ _ _ _ zw (w5.heap.size) (w10.heap.size) _ X5_10.out.ints X10_10.out.ints hnw).mono ?_
        rintro e w11 ⟨rfl, hm⟩
        have hb : Below w10.heap.size w10 w11 := by obtain ⟨m, rfl⟩ := hm; exact Go.Joins.below_draws _ _ _
        clear hm
        have D11 := Lib.hid (hb)
        have s11 : w10.heap.size + 0 ≤ w11.heap.size := by have := hb.size; (try simp at this); omega
        have Y3_11 := Lib.hid (Y3_10.out.below D11.out (by omega))
        clear Y3_10
        have X4_11 := Lib.hid (X4_10.out.below D11.out (by omega))
        clear X4_10
        have X5_11 := Lib.hid (X5_10.out.below D11.out (by omega))
        clear X5_10
        have Y6_11 := Lib.hid (Y6_10.out.below D11.out (by omega))
        clear Y6_10
        have X10_11 := Lib.hid (X10_10.out.below D11.out (by omega))
        clear X10_10
        have HB11 := Lib.hid (HB.out.trans (D11.out.mono (by omega)))
        clear HB
        have HB := HB11
        clear HB11 hb
        clear X10_11
        as_aux_lemma =>
          go_wp2_with fail
          have tx := tot_vals V4.out
          have lx : rs4.length = rsi.length := by have h1 := congrArg List.length V4.out; rw [vals_len, vals_len] at h1; exact h1
          refine (markSS_any (some ⟨g4, 0, none⟩) c4 1 rs4 (w3.heap.size) (w4.heap.size) _ X4_11.out (by omega) (by omega) (by omega) (by omega)).mono ?_
          rintro e w12 ⟨rfl, hown, hk⟩
          clear X4_11 hown lx
          have TX := Lib.hid tx
          clear tx
          have D12 := Lib.hid (hk)
          have s12 : w11.heap.size ≤ w12.heap.size := hk.size
          have Y3_12 := Lib.hid (Y3_11.out.kept D12.out (by omega) (by omega))
          clear Y3_11
          have X5_12 := Lib.hid (X5_11.out.kept D12.out (by omega) (by omega))
          clear X5_11
          have Y6_12 := Lib.hid (Y6_11.out.kept D12.out (by omega) (by omega))
          clear Y6_11
          have HB12 := Lib.hid (HB.out.trans (D12.out.below (by omega) (by omega)))
          clear HB
          have HB := HB12
          clear HB12 hk
          have tx9 : tot rs4 ≤ tot rsi := by have := TX.out; omega
          go_wp2_with fail
          refine (markMine_any (some ⟨w4.heap.size, 0, none⟩) nw _ (1 + (tot rs4 : Int)) zw (w4.heap.size) (w5.heap.size) _ X5_12.out hnw (by omega) (by omega)).mono ?_
          rintro e w13 ⟨rfl, hown, hk⟩
          have X5_13 := Lib.hid hown
          clear X5_12 hown
          have D13 := Lib.hid (hk)
          have s13 : w12.heap.size ≤ w13.heap.size := hk.size
          have Y3_13 := Lib.hid (Y3_12.out.kept D13.out (by omega) (by omega))
          clear Y3_12
          have Y6_13 := Lib.hid (Y6_12.out.kept D13.out (by omega) (by omega))
          clear Y6_12
          have HB13 := Lib.hid (HB.out.trans (D13.out.below (by omega) (by omega)))
          clear HB
          have HB := HB13
          clear HB13 hk
          clear X5_13
          have tx1 : decide ((1 : Int) + (tot rs4 : Int) + (nw : Int) < 0) = false := by simp; omega
          clear tx9
          go_wp2_with fail
          refine (eqInts_any _ _ _ _ _ ll (w6.heap.size) (w3.heap.size) _ Y6_13.out.ints Y3_13.out.ints hz).mono ?_
          rintro e w14 ⟨rfl, hm⟩
          have hb : Below w13.heap.size w13 w14 := by obtain ⟨m, rfl⟩ := hm; exact Go.Joins.below_draws _ _ _
          clear hm
          have D14 := Lib.hid (hb)
          have s14 : w13.heap.size + 0 ≤ w14.heap.size := by have := hb.size; (try simp at this); omega
          have Y3_14 := Lib.hid (Y3_13.out.below D14.out (by omega))
          clear Y3_13
          have Y6_14 := Lib.hid (Y6_13.out.below D14.out (by omega))
          clear Y6_13
          have HB14 := Lib.hid (HB.out.trans (D14.out.mono (by omega)))
          clear HB
          have HB := HB14
          clear HB14 hb
          as_aux_lemma =>
            go_wp2_with fail
            refine (markMine_any R6 ll.length _ (1) ll (w5.heap.size) (w6.heap.size) _ Y6_14.out hz (by omega) (by omega)).mono ?_
            rintro e w15 ⟨rfl, hown, hk⟩
            have Y6_15 := Lib.hid hown
            clear Y6_14 hown
            have D15 := Lib.hid (hk)
            have s15 : w14.heap.size ≤ w15.heap.size := hk.size
            have Y3_15 := Lib.hid (Y3_14.out.kept D15.out (by omega) (by omega))
            clear Y3_14
            have HB15 := Lib.hid (HB.out.trans (D15.out.below (by omega) (by omega)))
            clear HB
            have HB := HB15
            clear HB15 hk
            have tq : decide ((1 : Int) + (ll.length : Int) < 0) = false := by simp; omega
            go_wp2_with fail
            refine (heldInts_any R6 ll.length _ 1 (w6.heap.size) _ Y6_15.out.ints hz (by omega) (by omega)).mono ?_
            rintro e w' ⟨rfl, rfl⟩
            as_aux_lemma =>
              go_wp2_with fail
              refine (toSS_any Ai ci rsi _ (Hi.out.into HB.out) hnl2 ROWI.out).mono ?_
              rintro e w16 ⟨g16, c16, rs16, rfl, hk, hv, hb⟩
              have X16_16 := Lib.hid (hk.wide (lo' := w15.heap.size) (hi' := w16.heap.size) (by simp) (Nat.le_refl _))
              have V16 := Lib.hid hv
              clear hk hv
              have D16 := Lib.hid (hb)
              have s16 : w15.heap.size + 0 ≤ w16.heap.size := by have := hb.size; (try simp at this); omega
              have Y3_16 := Lib.hid (Y3_15.out.below D16.out (by omega))
              clear Y3_15
              have Y6_16 := Lib.hid (Y6_15.out.below D16.out (by omega))
              clear Y6_15
              have HB16 := Lib.hid (HB.out.trans (D16.out.mono (by omega)))
              clear HB
              have HB := HB16
              clear HB16 hb
              go_wp2_with fail
              refine (toInts_any Aw nw cw zw _ (Hw.out.into HB.out) hnw).mono ?_
              rintro e w17 ⟨rfl, hk, hb⟩
              have X17_17 := Lib.hid (Mine.of_blk (lo := w16.heap.size) (hi := w17.heap.size) hk (Nat.le_refl _) hk.lt hlw.out)
              clear hk
              have D17 := Lib.hid (hb)
              have s17 : w16.heap.size + 0 ≤ w17.heap.size := by have := hb.size; (try simp at this); omega
              have Y3_17 := Lib.hid (Y3_16.out.below D17.out (by omega))
              clear Y3_16
              have Y6_17 := Lib.hid (Y6_16.out.below D17.out (by omega))
              clear Y6_16
              have X16_17 := Lib.hid (X16_16.out.below D17.out (by omega))
              clear X16_16
              have HB17 := Lib.hid (HB.out.trans (D17.out.mono (by omega)))
              clear HB
              have HB := HB17
              clear HB17 hb
              go_wp2_with fail
              refine (HI.out _ _ _ _ _ (X16_17.out.rd.more (by omega)) V16.out X16_17.out.cap.1 X16_17.out.cap.2 (X17_17.out.ints.more (by omega))).mono ?_
              rintro e w18 ⟨R18, t18, rfl, _, hown, hb⟩
              dsimp only at hown ⊢
              have Y18_18 := Lib.hid hown
              clear hown
              have D18 := Lib.hid (hb)
              have s18 : w17.heap.size + 0 ≤ w18.heap.size := by have := hb.size; (try simp at this); omega
              have Y3_18 := Lib.hid (Y3_17.out.below D18.out (by omega))
              clear Y3_17
              have Y6_18 := Lib.hid (Y6_17.out.below D18.out (by omega))
              clear Y6_17
              have X16_18 := Lib.hid (X16_17.out.below D18.out (by omega))
              clear X16_17
              have X17_18 := Lib.hid (X17_17.out.below D18.out (by omega))
              clear X17_17
              have HB18 := Lib.hid (HB.out.trans (D18.out.mono (by omega)))
              clear HB
              have HB := HB18
              clear HB18 hb
              clear X16_18
              clear X17_18
              go_wp2_with fail
              refine (eqInts_any _ _ _ _ _ ll (w18.heap.size) (w3.heap.size) _ Y18_18.out.ints Y3_18.out.ints hz).mono ?_
              rintro e w19 ⟨rfl, hm⟩
              have hb : Below w18.heap.size w18 w19 := by obtain ⟨m, rfl⟩ := hm; exact Go.Joins.below_draws _ _ _
              clear hm
              have D19 := Lib.hid (hb)
              have s19 : w18.heap.size + 0 ≤ w19.heap.size := by have := hb.size; (try simp at this); omega
              have Y3_19 := Lib.hid (Y3_18.out.below D19.out (by omega))
              clear Y3_18
              have Y6_19 := Lib.hid (Y6_18.out.below D19.out (by omega))
              clear Y6_18
              have Y18_19 := Lib.hid (Y18_18.out.below D19.out (by omega))
              clear Y18_18
              have HB19 := Lib.hid (HB.out.trans (D19.out.mono (by omega)))
              clear HB
              have HB := HB19
              clear HB19 hb
              go_wp2_with fail
              refine (heldInts_any R6 ll.length _ 1 (w6.heap.size) _ Y6_19.out.ints hz (by omega) (by omega)).mono ?_
              rintro e w' ⟨rfl, rfl⟩
              go_wp2
              go_ret
              exact ⟨rfl, HB.out⟩

theorem len_of_ {rs qs : List Rw} (h : vals rs = vals qs) : rs.length = qs.length := by rw [← vals_len, ← vals_len, h]
set_option maxHeartbeats 2000000 in
theorem bigWordAction (n : Int) (Ai : Option Addr) (ci : Nat) (qs : List Rw) (Aw : Option Addr) (nw cw : Nat) (w : World) (hi : RdS w w.heap.size Ai qs) (hm2 : qs.length ≤ maxLen) (hmw : nw ≤ maxLen) (hn : ¬ (nw ≤ 1048576 ∧ qs.length + tot qs ≤ 1048576)) :
    Calls Try.prog 6 #[.int .i64 n, .slice Ai qs.length ci, .slice Aw nw cw] w fun e w' => e = .returned (.bool true) ∧ Below w.heap.size w w' := by
  have HI := Lib.hid hi
  have hmw' := hmw
  unfold maxLen at hmw'
  clear hi
  by_cases h1 : nw ≤ 1048576
  · have t0 : decide ((1048576 : Int) < (nw : Int)) = false := by simp; omega
    go_enter Try.func6, Try.ntmps6
    go_wp2_with fail
    refine (szSS_any Ai ci qs _ w.heap.size _ HI.out hm2 (by omega) (by omega)).mono ?_
    rintro e w2 ⟨rfl, rfl⟩
    rw [if_pos (by omega)]
    go_wp2
    go_ret
    exact ⟨rfl, Below.refl _ _⟩
  · have t0 : decide ((1048576 : Int) < (nw : Int)) = true := by simp; omega
    go_enter Try.func6, Try.ntmps6
    go_wp2
    go_ret
    exact ⟨rfl, Below.refl _ _⟩
theorem wordAct_short (n : Int) (zss : List (List Int)) (ws : List Int) : (wordAct n zss ws).1.length ≤ 1048576 := by
  unfold wordAct
  split
  · rename_i h
    have := (Rp.arePm_iff.1 (wordOk_iff.1 h).1).1
    dsimp only
    rw [imgs_len]
    omega
  · simp
theorem allWordAction (n : Int) (Ai : Option Addr) (ci : Nat) (qs : List Rw) (Aw : Option Addr) (nw cw : Nat) (zw : List Int) (w : World) (hwf : (Lit.int .i64 n).wf = true) (hi : RdS w w.heap.size Ai qs) (hm2 : qs.length ≤ maxLen) (hw : Ints w w.heap.size Aw nw zw) (hmw : nw ≤ maxLen) :
    Calls Try.prog 6 #[.int .i64 n, .slice Ai qs.length ci, .slice Aw nw cw] w fun e w' => e = .returned (.bool true) ∧ Below w.heap.size w w' := by
  by_cases hn : nw ≤ 1048576 ∧ qs.length + tot qs ≤ 1048576
  case neg => exact bigWordAction n Ai ci qs Aw nw cw w hi hm2 hmw hn
  · have hrow2 : ∀ r ∈ qs, r.zs.length ≤ 1048576 := fun q hq => by have := row_le_tot hq; omega
    exact exactWordAction n Ai ci qs Aw nw cw zw (wordAct n (vals qs) zw).1 (wordAct n (vals qs) zw).2 w hi hw hn.1 hn.2 (wordAct_short _ _ _)
      (fun W A' A2 c' us h2 hv2 _ _ h3 => by have := wordAct_spec n A' A2 c' nw nw us zw W h2 h3 (by rw [len_of_ hv2]; omega) (rows_of hv2 hrow2) hn.1 (wf_in hwf); rw [hv2] at this; exact this)
      (fun W A' A2 c' us h2 hv2 k1 k2 h3 => by have := wordAct_impl n A' A2 c' nw nw us zw W h2 h3 (by rw [len_of_ hv2]; omega) (rows_of hv2 hrow2) hn.1 k1 k2; rw [hv2] at this; exact this)

set_option maxRecDepth 100000 in
theorem exactWordAction_lifted (os : Os) (started : os.Started) (H : Type) (enc : TypeId × Value → H) :
    ReturnsInHanded {} Try.checked os 6 .any (Rows.fnExactWordActionSpec.pre6 enc Try.prog Try.f6 Rows.fnExactWordActionRow.domain false) (Rows.fnExactWordActionSpec.post enc Try.prog Try.f6 false true false false) := by
  refine returnsInHanded_of_change (C := Try.checked) own started (by kernel_rfl) Try.func6
    (ChangeSpec.witness6 (enc := enc) (C := Try.checked) false ⟨#[], #[.int .i64 0, .slice none 0 0, .slice none 0 0], []⟩ 8 (by kernel_rfl) (by kernel_rfl) (by kernel_rfl) (by kernel_rfl)) ?_
  intro W base args ds gs before hval0 hW _ _
  have hval : ∀ (j : Nat) t v, Try.f6.params[j]? = some t → args[j]? = some v → Value.okWide Try.prog W .any base t v := hval0
  have hW' := hW
  obtain ⟨p, q, hA0, hV, rfl, hfz, hnd⟩ := hW
  have hA : DataW.TrodAll enc Try.prog W 0 (fun _ => true) true Try.f6.params.toList args.toList ds p := hA0
  rw [Try.params6] at hA hval
  obtain ⟨v0, vs0, d0, ds0, p0, q0, hargs, rfl, rfl, h0, r0⟩ := trodAll_cons hA
  obtain ⟨v1, vs1, d1, ds1, p1, q1, rfl, rfl, rfl, h1, r1⟩ := trodAll_cons r0
  obtain ⟨v2, vs2, d2, ds2, p2, q2, rfl, rfl, rfl, h2, r2⟩ := trodAll_cons r1
  obtain ⟨rfl, rfl, rfl⟩ := trodAll_nil r2
  obtain rfl : args = #[v0, v1, v2] := by cases args; simp_all
  obtain ⟨rfl, rfl⟩ := trodVars_none hV
  obtain ⟨x0, rfl, rfl, rfl, wx0⟩ := open_int Try.underlying2 (hval 0 2 v0 rfl rfl) h0
  have k1_ := h1
  have lt1 : ∀ x ∈ p1, x.block < W.heap.size := by obtain ⟨m, hm⟩ := k1_; exact DataW.trod_lt m _ _ _ hm
  obtain ⟨A1, c1, rs1, rfl, hi1, hm1⟩ := openS (hval 1 27 v1 rfl rfl) h1
  have k2_ := h2
  have lt2 : ∀ x ∈ p2, x.block < W.heap.size := by obtain ⟨m, hm⟩ := k2_; exact DataW.trod_lt m _ _ _ hm
  obtain ⟨A2, n2, c2, zs2, rfl, hi2, hm2⟩ := openW (hval 2 38 v2 rfl rfl) h2
  clear hA0 hval0
  refine (allWordAction x0 A1 c1 rs1 A2 n2 c2 zs2 W wx0 hi1 hm1 hi2 hm2).mono fun e W' ⟨he, bel⟩ => ?_
  subst he
  exact ⟨_, rfl, _, _, _, [], _, [], hW', trodAll_mk1 (shut_bool Try.underlying4 _), (trodAll_cons_mk (shut_int Try.underlying2 wx0) (trodAll_cons_mk (Below.trod laidOut (by kernel_rfl) (of_decide_eq_true (by kernel_rfl)) k1_ bel lt1) (trodAll_cons_mk (Below.trod laidOut (by kernel_rfl) (of_decide_eq_true (by kernel_rfl)) k2_ bel lt2) trodAll_mk0))), rfl, bel.frame _, fun h => by cases h⟩

theorem exactWordAction_holds : Rows.FnExactWordActionSaid :=
  OpenClaim.holds_of_wide 6 Try.f6 rfl rfl rfl rfl rfl rfl rfl ⟨rfl, rfl, rfl, rfl, rfl⟩ rfl rfl rfl rfl rfl (by kernel_rfl) Try.func6 (by kernel_rfl)
    (of_decide_eq_true (by kernel_rfl)) (by unfold Func.isWrapper; first | (rw [if_pos (by decide +kernel)]; kernel_rfl) | (rw [if_neg (by decide +kernel)]; exact ⟨rfl, rfl⟩))
    (fun os started H enc _ => exactWordAction_lifted os started H enc)

#print axioms exactWordAction_holds

end Go.Proofs.Ytakokhfnllpahaa
