/- The law FnExactCokernelOf returns true for every matrix that is passed in and changes no memory that was there. No condition. -/
import Derived.Test.YtdbljeglnhefmaaLift
import Derived.Test.YtdbljeglnhefmaaInvD
import Derived.Test.YtdbljeglnhefmaaCokA
import Derived.Deep.RegionHeld3
namespace Go.Proofs.Ytdbljeglnhefmaa
open Go.ChangeShapes Go.WideShapes Go.ChangeAt Go.RowKit

set_option maxRecDepth 100000 in
set_option maxHeartbeats 16000000 in
theorem exactCokernelOf (ra qa : Int) (Aa : Option Addr) (na ca : Nat) (za : List Int) (rk : Int) (ll : List Int) (code : Int) (w : World) (ha : Ints w w.heap.size Aa na za) (hma : na ≤ maxLen) (hz : ll.length ≤ 2304)
    (hs : ∀ (W : World) (Aa : Option Addr) (ca : Nat), Ints W W.heap.size Aa na za → Calls Try.prog 43 #[.agg #[.int .i64 ra, .int .i64 qa, .slice Aa na ca]] W (ResGC W rk ll code))
    (hi : ∀ (W : World) (Aa : Option Addr) (ca : Nat), Ints W W.heap.size Aa na za → Calls Try.prog 44 #[.agg #[.int .i64 ra, .int .i64 qa, .slice Aa na ca]] W (ResGC W rk ll code))
    (hna : na ≤ 1048576) :
    Calls Try.prog 12 #[.agg #[.int .i64 ra, .int .i64 qa, .slice Aa na ca]] w fun e w' => e = .returned (.bool true) ∧ Below w.heap.size w w' := by
  have HS := Lib.hid hs
  have HI := Lib.hid hi
  clear hs hi
  have HB := Lib.hid (Below.refl w.heap.size w)
  have Ha := Lib.hid ha
  have hla := Lib.hid ha.1
  clear ha
  go_enter Try.func12, Try.ntmps12
  go_wp2_with fail
  refine (szM_any ra qa Aa na ca _ _ hma (by omega) (by omega)).mono ?_
  rintro e w1 ⟨rfl, hb⟩
  rw [if_neg (by omega)]
  have D1 := Lib.hid (on1 _ hb)
  have s1 : w.heap.size + 1 ≤ w1.heap.size := by have := hb.size; (try simp at this); omega
  have aa_1 := Lib.hid ((Box3.new w 24 (.int .i64 ra) (.int .i64 qa) (.slice Aa na ca)).below hb (by simp))
  have HB1 := Lib.hid (HB.out.trans (D1.out.mono (by omega)))
  clear HB
  have HB := HB1
  clear HB1 hb
  have z_aa : w.heap.size < w1.heap.size := by omega
  obtain ⟨aax, aay, aaz⟩ := aa_1.out
  go_wp2_with fail
  refine (toM_any ra qa Aa na ca za _ (Ha.out.into HB.out) hna).mono ?_
  rintro e w2 ⟨g2, rfl, hk, hg, hb⟩
  clear aax aay aaz
  have X2_2 := Lib.hid (Own.of_blk (lo := w1.heap.size) (hi := w2.heap.size) hk (by simpa using hg) hk.lt hla.out (by unfold maxLen; omega))
  clear hk hg
  have D2 := Lib.hid (hb)
  have s2 : w1.heap.size + 0 ≤ w2.heap.size := by have := hb.size; (try simp at this); omega
  have aa_2 := Lib.hid (aa_1.out.below D2.out (by omega))
  clear aa_1
  have HB2 := Lib.hid (HB.out.trans (D2.out.mono (by omega)))
  clear HB
  have HB := HB2
  clear HB2 hb
  clear z_aa
  have z_aa : w.heap.size < w2.heap.size := by omega
  obtain ⟨aax, aay, aaz⟩ := aa_2.out
  go_wp2_with fail
  refine (HS.out _ _ _ (X2_2.out.ints.more (by omega))).mono ?_
  rintro e w3 ⟨R3, t3, rfl, hown, hb⟩
  clear aax aay aaz
  have Y3_3 := Lib.hid (hown.wide (lo' := w2.heap.size) (hi' := w3.heap.size) (by simp) (Nat.le_refl _))
  clear hown
  have D3 := Lib.hid (hb)
  have s3 : w2.heap.size + 0 ≤ w3.heap.size := by have := hb.size; (try simp at this); omega
  have aa_3 := Lib.hid (aa_2.out.below D3.out (by omega))
  clear aa_2
  have X2_3 := Lib.hid (X2_2.out.below D3.out (by omega))
  clear X2_2
  have HB3 := Lib.hid (HB.out.trans (D3.out.mono (by omega)))
  clear HB
  have HB := HB3
  clear HB3 hb
  clear z_aa
  have z_aa : w.heap.size < w3.heap.size := by omega
  obtain ⟨aax, aay, aaz⟩ := aa_3.out
  go_wp2_with fail
  refine (toM_any ra qa Aa na ca za _ (Ha.out.into (HB.out.trans ((al1 _ _).mono (by omega)))) hna).mono ?_
  rintro e w4 ⟨g4, rfl, hk, hg, hb⟩
  clear aax aay aaz
  have X4_4 := Lib.hid (Own.of_blk (lo := w3.heap.size + 1) (hi := w4.heap.size) hk (by simpa using hg) hk.lt hla.out (by unfold maxLen; omega))
  clear hk hg
  have D4 := Lib.hid (on1 _ hb)
  have s4 : w3.heap.size + 1 ≤ w4.heap.size := by have := hb.size; (try simp at this); omega
  have aa_4 := Lib.hid (aa_3.out.below D4.out (by omega))
  clear aa_3
  have bw_4 := Lib.hid ((BoxG.new w3 54 (.int .i64 rk) (.slice R3 ll.length t3)).below hb (by simp))
  have Y3_4 := Lib.hid (Y3_3.out.below D4.out (by omega))
  clear Y3_3
  have HB4 := Lib.hid (HB.out.trans (D4.out.mono (by omega)))
  clear HB
  have HB := HB4
  clear HB4 hb
  clear z_aa
  have z_aa : w.heap.size < w4.heap.size := by omega
  have z_bw : w3.heap.size < w4.heap.size := by omega
  obtain ⟨aax, aay, aaz⟩ := aa_4.out
  obtain ⟨bwx, bwy⟩ := bw_4.out
  go_wp2_with fail
  refine (HI.out _ _ _ ((X4_4.out.al (by omega) (al1 _ _)).ints.more (by (try simp) <;> omega))).mono ?_
  rintro e w5 ⟨R5, t5, rfl, hown, hb⟩
  clear aax aay aaz bwx bwy
  have Y5_5 := Lib.hid (hown.wide (lo' := w4.heap.size + 1) (hi' := w5.heap.size) (by simp) (Nat.le_refl _))
  clear hown
  have D5 := Lib.hid (on1 _ hb)
  have s5 : w4.heap.size + 1 ≤ w5.heap.size := by have := hb.size; (try simp at this); omega
  have aa_5 := Lib.hid (aa_4.out.below D5.out (by omega))
  clear aa_4
  have bw_5 := Lib.hid (bw_4.out.below D5.out (by omega))
  clear bw_4
  have bx_5 := Lib.hid ((Box3.new w4 27 (.int .i64 ra) (.int .i64 qa) (.slice (some ⟨g4, 0, none⟩) na na)).below hb (by simp))
  have Y3_5 := Lib.hid (Y3_4.out.below D5.out (by omega))
  clear Y3_4
  have X4_5 := Lib.hid (X4_4.out.below D5.out (by omega))
  clear X4_4
  have HB5 := Lib.hid (HB.out.trans (D5.out.mono (by omega)))
  clear HB
  have HB := HB5
  clear HB5 hb
  clear z_aa
  have z_aa : w.heap.size < w5.heap.size := by omega
  clear z_bw
  have z_bw : w3.heap.size < w5.heap.size := by omega
  have z_bx : w4.heap.size < w5.heap.size := by omega
  obtain ⟨aax, aay, aaz⟩ := aa_5.out
  obtain ⟨bwx, bwy⟩ := bw_5.out
  obtain ⟨bxx, bxy, bxz⟩ := bx_5.out
  go_wp2_with fail
  refine (eqAbelianGroup_any _ _ _ _ _ _ ll (w5.heap.size) (w3.heap.size) _ (by (try simp) <;> omega) (by (try simp) <;> omega) ((Y5_5.out.al (by omega) (al1 _ _)).ints) ((Y3_5.out.al (by omega) (al1 _ _)).ints) (by omega)).mono ?_
  rintro e w6 ⟨rfl, hb⟩
  clear aax aay aaz bwx bwy bxx bxy bxz
  have D6 := Lib.hid (on1 _ hb)
  have s6 : w5.heap.size + 1 ≤ w6.heap.size := by have := hb.size; (try simp at this); omega
  have aa_6 := Lib.hid (aa_5.out.below D6.out (by omega))
  clear aa_5
  have bw_6 := Lib.hid (bw_5.out.below D6.out (by omega))
  clear bw_5
  have bx_6 := Lib.hid (bx_5.out.below D6.out (by omega))
  clear bx_5
  have bg_6 := Lib.hid ((BoxG.new w5 54 (.int .i64 rk) (.slice R5 ll.length t5)).below hb (by simp))
  have Y3_6 := Lib.hid (Y3_5.out.below D6.out (by omega))
  clear Y3_5
  have X4_6 := Lib.hid (X4_5.out.below D6.out (by omega))
  clear X4_5
  have Y5_6 := Lib.hid (Y5_5.out.below D6.out (by omega))
  clear Y5_5
  have HB6 := Lib.hid (HB.out.trans (D6.out.mono (by omega)))
  clear HB
  have HB := HB6
  clear HB6 hb
  clear z_aa
  have z_aa : w.heap.size < w6.heap.size := by omega
  clear z_bw
  have z_bw : w3.heap.size < w6.heap.size := by omega
  clear z_bx
  have z_bx : w4.heap.size < w6.heap.size := by omega
  have z_bg : w5.heap.size < w6.heap.size := by omega
  as_aux_lemma =>
    obtain ⟨aax, aay, aaz⟩ := aa_6.out
    obtain ⟨bwx, bwy⟩ := bw_6.out
    obtain ⟨bxx, bxy, bxz⟩ := bx_6.out
    obtain ⟨bgx, bgy⟩ := bg_6.out
    go_wp2_with fail
    go_region_held3 (fun W => (W.cell? ⟨w4.heap.size, 0, none⟩ = some (.int .i64 ra) ∧ W.cell? ⟨w4.heap.size, 1, none⟩ = some (.int .i64 qa) ∧ W.cell? ⟨w4.heap.size, 2, none⟩ = some (.slice (some ⟨g4, 0, none⟩) na na)) ∧ (W.cell? ⟨w.heap.size, 0, none⟩ = some (.int .i64 ra) ∧ W.cell? ⟨w.heap.size, 1, none⟩ = some (.int .i64 qa) ∧ W.cell? ⟨w.heap.size, 2, none⟩ = some (.slice Aa na ca))) (go_keep)
      (first
        | (go_at_call 16; (with_reducible refine (toM_any ra qa Aa na ca za _ (by exact Ha.out.into HB.out.drew) hna).mono ?_); rintro e w7 ⟨g7, rfl, hk6, hg6, hb6'⟩; have hb6 := undrew hb6'; have K6 := Lib.hid hk6; have B6 := Lib.hid hb6; have z6 := hb6.size; obtain ⟨e0, e1, e2⟩ := bx_6.out.below hb6 (by omega); obtain ⟨f0, f1, f2⟩ := aa_6.out.below hb6 (by omega); clear hk6 hg6 hb6 hb6')
        | (go_at_call 18; (with_reducible refine (eqM_any ra qa _ _ na _ _ za w4.heap.size _ _ (by have := B6.out.size; omega) (Nat.le_refl _) (by exact (X4_6.out.ints).below (B6.out.mono (by omega))) (by exact K6.out.ints hla.out) hna).mono ?_); rintro e w8 ⟨rfl, hb7⟩; obtain ⟨m0, m1, m2⟩ := (bx_6.out.below B6.out (by omega)).below hb7 (by omega); obtain ⟨y0, y1, y2⟩ := (aa_6.out.below B6.out (by omega)).below hb7 (by omega)))
    clear e0 e1 e2 f0 f1 f2 m0 m1 m2 y0 y1 y2 K6
    clear aax aay aaz bwx bwy bxx bxy bxz bgx bgy
    have hb6 := B6.out
    clear B6
    have D7 := Lib.hid (hb6)
    have s7 : w6.heap.size + 0 ≤ w7.heap.size := by have := hb6.size; (try simp at this); omega
    have aa_7 := Lib.hid (aa_6.out.below D7.out (by omega))
    clear aa_6
    have bw_7 := Lib.hid (bw_6.out.below D7.out (by omega))
    clear bw_6
    have bx_7 := Lib.hid (bx_6.out.below D7.out (by omega))
    clear bx_6
    have bg_7 := Lib.hid (bg_6.out.below D7.out (by omega))
    clear bg_6
    have Y3_7 := Lib.hid (Y3_6.out.below D7.out (by omega))
    clear Y3_6
    have X4_7 := Lib.hid (X4_6.out.below D7.out (by omega))
    clear X4_6
    have Y5_7 := Lib.hid (Y5_6.out.below D7.out (by omega))
    clear Y5_6
    have HB7 := Lib.hid (HB.out.trans (D7.out.mono (by omega)))
    clear HB
    have HB := HB7
    clear HB7 hb6
    clear z_aa
    have z_aa : w.heap.size < w7.heap.size := by omega
    clear z_bw
    have z_bw : w3.heap.size < w7.heap.size := by omega
    clear z_bx
    have z_bx : w4.heap.size < w7.heap.size := by omega
    clear z_bg
    have z_bg : w5.heap.size < w7.heap.size := by omega
    have D8 := Lib.hid (hb7)
    have s8 : w7.heap.size + 0 ≤ w8.heap.size := by have := hb7.size; (try simp at this); omega
    have aa_8 := Lib.hid (aa_7.out.below D8.out (by omega))
    clear aa_7
    have bw_8 := Lib.hid (bw_7.out.below D8.out (by omega))
    clear bw_7
    have bx_8 := Lib.hid (bx_7.out.below D8.out (by omega))
    clear bx_7
    have bg_8 := Lib.hid (bg_7.out.below D8.out (by omega))
    clear bg_7
    have Y3_8 := Lib.hid (Y3_7.out.below D8.out (by omega))
    clear Y3_7
    have X4_8 := Lib.hid (X4_7.out.below D8.out (by omega))
    clear X4_7
    have Y5_8 := Lib.hid (Y5_7.out.below D8.out (by omega))
    clear Y5_7
    have HB8 := Lib.hid (HB.out.trans (D8.out.mono (by omega)))
    clear HB
    have HB := HB8
    clear HB8 hb7
    clear z_aa
    have z_aa : w.heap.size < w8.heap.size := by omega
    clear z_bw
    have z_bw : w3.heap.size < w8.heap.size := by omega
    clear z_bx
    have z_bx : w4.heap.size < w8.heap.size := by omega
    clear z_bg
    have z_bg : w5.heap.size < w8.heap.size := by omega
    as_aux_lemma =>
      obtain ⟨aax, aay, aaz⟩ := aa_8.out
      obtain ⟨bwx, bwy⟩ := bw_8.out
      obtain ⟨bxx, bxy, bxz⟩ := bx_8.out
      obtain ⟨bgx, bgy⟩ := bg_8.out
      go_wp2_with fail
      refine (markM_any _ _ (some ⟨g4, 0, none⟩) na na (1) za (w3.heap.size + 1) (w4.heap.size) _ X4_8.out (by omega) hna (by omega) (by omega)).mono ?_
      rintro e w9 ⟨rfl, hown, hk⟩
      clear aax aay aaz bwx bwy bxx bxy bxz bgx bgy
      have X4_9 := Lib.hid hown
      clear X4_8 hown
      have D9 := Lib.hid hk
      have s9 : w8.heap.size ≤ w9.heap.size := hk.size
      have aa_9 := Lib.hid (aa_8.out.kept D9.out (by omega) (by omega))
      clear aa_8
      have bw_9 := Lib.hid (bw_8.out.kept D9.out (by omega) (by omega))
      clear bw_8
      have bx_9 := Lib.hid (bx_8.out.kept D9.out (by omega) (by omega))
      clear bx_8
      have bg_9 := Lib.hid (bg_8.out.kept D9.out (by omega) (by omega))
      clear bg_8
      have Y3_9 := Lib.hid (Y3_8.out.kept D9.out (by omega) (by omega))
      clear Y3_8
      have Y5_9 := Lib.hid (Y5_8.out.kept D9.out (by omega) (by omega))
      clear Y5_8
      have HB9 := Lib.hid (HB.out.trans (D9.out.below (by omega) (by omega)))
      clear HB
      have HB := HB9
      clear HB9 hk
      clear z_aa
      have z_aa : w.heap.size < w9.heap.size := by omega
      clear z_bw
      have z_bw : w3.heap.size < w9.heap.size := by omega
      clear z_bx
      have z_bx : w4.heap.size < w9.heap.size := by omega
      clear z_bg
      have z_bg : w5.heap.size < w9.heap.size := by omega
      obtain ⟨aax, aay, aaz⟩ := aa_9.out
      obtain ⟨bwx, bwy⟩ := bw_9.out
      obtain ⟨bxx, bxy, bxz⟩ := bx_9.out
      obtain ⟨bgx, bgy⟩ := bg_9.out
      go_wp2_with fail
      refine (eqAbelianGroup_any _ _ _ _ _ _ ll (w5.heap.size) (w3.heap.size) _ (by omega) (by omega) (Y5_9.out.ints) (Y3_9.out.ints) (by omega)).mono ?_
      rintro e w10 ⟨rfl, hb⟩
      clear aax aay aaz bwx bwy bxx bxy bxz bgx bgy
      have D10 := Lib.hid (hb)
      have s10 : w9.heap.size + 0 ≤ w10.heap.size := by have := hb.size; (try simp at this); omega
      have aa_10 := Lib.hid (aa_9.out.below D10.out (by omega))
      clear aa_9
      have bw_10 := Lib.hid (bw_9.out.below D10.out (by omega))
      clear bw_9
      have bx_10 := Lib.hid (bx_9.out.below D10.out (by omega))
      clear bx_9
      have bg_10 := Lib.hid (bg_9.out.below D10.out (by omega))
      clear bg_9
      have Y3_10 := Lib.hid (Y3_9.out.below D10.out (by omega))
      clear Y3_9
      have X4_10 := Lib.hid (X4_9.out.below D10.out (by omega))
      clear X4_9
      have Y5_10 := Lib.hid (Y5_9.out.below D10.out (by omega))
      clear Y5_9
      have HB10 := Lib.hid (HB.out.trans (D10.out.mono (by omega)))
      clear HB
      have HB := HB10
      clear HB10 hb
      clear z_aa
      have z_aa : w.heap.size < w10.heap.size := by omega
      clear z_bw
      have z_bw : w3.heap.size < w10.heap.size := by omega
      clear z_bx
      have z_bx : w4.heap.size < w10.heap.size := by omega
      clear z_bg
      have z_bg : w5.heap.size < w10.heap.size := by omega
      as_aux_lemma =>
        obtain ⟨aax, aay, aaz⟩ := aa_10.out
        obtain ⟨bwx, bwy⟩ := bw_10.out
        obtain ⟨bxx, bxy, bxz⟩ := bx_10.out
        obtain ⟨bgx, bgy⟩ := bg_10.out
        go_wp2_with fail
        refine (markAbelianGroup_any _ R5 ll.length t5 1 ll (w4.heap.size + 1) (w5.heap.size) _ Y5_10.out (by omega) (by omega) (by omega) (by omega)).mono ?_
        rintro e w11 ⟨rfl, hown, hk⟩
        clear aax aay aaz bwx bwy bxx bxy bxz bgx bgy
        have Y5_11 := Lib.hid hown
        clear Y5_10 hown
        have D11 := Lib.hid hk
        have s11 : w10.heap.size ≤ w11.heap.size := hk.size
        have aa_11 := Lib.hid (aa_10.out.kept D11.out (by omega) (by omega))
        clear aa_10
        have bw_11 := Lib.hid (bw_10.out.kept D11.out (by omega) (by omega))
        clear bw_10
        have bx_11 := Lib.hid (bx_10.out.kept D11.out (by omega) (by omega))
        clear bx_10
        have bg_11 := Lib.hid (bg_10.out.kept D11.out (by omega) (by omega))
        clear bg_10
        have Y3_11 := Lib.hid (Y3_10.out.kept D11.out (by omega) (by omega))
        clear Y3_10
        have X4_11 := Lib.hid (X4_10.out.kept D11.out (by omega) (by omega))
        clear X4_10
        have HB11 := Lib.hid (HB.out.trans (D11.out.below (by omega) (by omega)))
        clear HB
        have HB := HB11
        clear HB11 hk
        clear z_aa
        have z_aa : w.heap.size < w11.heap.size := by omega
        clear z_bw
        have z_bw : w3.heap.size < w11.heap.size := by omega
        clear z_bx
        have z_bx : w4.heap.size < w11.heap.size := by omega
        clear z_bg
        have z_bg : w5.heap.size < w11.heap.size := by omega
        have tq : decide ((1 : Int) + (ll.length : Int) < 0) = false := by simp; omega
        obtain ⟨aax, aay, aaz⟩ := aa_11.out
        obtain ⟨bwx, bwy⟩ := bw_11.out
        obtain ⟨bxx, bxy, bxz⟩ := bx_11.out
        obtain ⟨bgx, bgy⟩ := bg_11.out
        go_wp2_with fail
        refine (heldAbelianGroup_any _ R5 ll.length t5 1 (w5.heap.size) _ Y5_11.out.ints (by omega) (by omega) (by omega) (by omega)).mono ?_
        rintro e w12 ⟨rfl, hb⟩
        clear aax aay aaz bwx bwy bxx bxy bxz bgx bgy
        have D12 := Lib.hid (hb)
        have s12 : w11.heap.size + 0 ≤ w12.heap.size := by have := hb.size; (try simp at this); omega
        have aa_12 := Lib.hid (aa_11.out.below D12.out (by omega))
        clear aa_11
        have bw_12 := Lib.hid (bw_11.out.below D12.out (by omega))
        clear bw_11
        have bx_12 := Lib.hid (bx_11.out.below D12.out (by omega))
        clear bx_11
        have bg_12 := Lib.hid (bg_11.out.below D12.out (by omega))
        clear bg_11
        have Y3_12 := Lib.hid (Y3_11.out.below D12.out (by omega))
        clear Y3_11
        have X4_12 := Lib.hid (X4_11.out.below D12.out (by omega))
        clear X4_11
        have Y5_12 := Lib.hid (Y5_11.out.below D12.out (by omega))
        clear Y5_11
        have HB12 := Lib.hid (HB.out.trans (D12.out.mono (by omega)))
        clear HB
        have HB := HB12
        clear HB12 hb
        clear z_aa
        have z_aa : w.heap.size < w12.heap.size := by omega
        clear z_bw
        have z_bw : w3.heap.size < w12.heap.size := by omega
        clear z_bx
        have z_bx : w4.heap.size < w12.heap.size := by omega
        clear z_bg
        have z_bg : w5.heap.size < w12.heap.size := by omega
        as_aux_lemma =>
          obtain ⟨aax, aay, aaz⟩ := aa_12.out
          obtain ⟨bwx, bwy⟩ := bw_12.out
          obtain ⟨bxx, bxy, bxz⟩ := bx_12.out
          obtain ⟨bgx, bgy⟩ := bg_12.out
          go_wp2_with fail
          refine (toM_any ra qa Aa na ca za _ (Ha.out.into HB.out) hna).mono ?_
          rintro e w13 ⟨g13, rfl, hk, hg, hb⟩
          clear aax aay aaz bwx bwy bxx bxy bxz bgx bgy
          have X13_13 := Lib.hid (Own.of_blk (lo := w12.heap.size) (hi := w13.heap.size) hk (by simpa using hg) hk.lt hla.out (by unfold maxLen; omega))
          clear hk hg
          have D13 := Lib.hid (hb)
          have s13 : w12.heap.size + 0 ≤ w13.heap.size := by have := hb.size; (try simp at this); omega
          have aa_13 := Lib.hid (aa_12.out.below D13.out (by omega))
          clear aa_12
          have bw_13 := Lib.hid (bw_12.out.below D13.out (by omega))
          clear bw_12
          have bx_13 := Lib.hid (bx_12.out.below D13.out (by omega))
          clear bx_12
          have bg_13 := Lib.hid (bg_12.out.below D13.out (by omega))
          clear bg_12
          have Y3_13 := Lib.hid (Y3_12.out.below D13.out (by omega))
          clear Y3_12
          have X4_13 := Lib.hid (X4_12.out.below D13.out (by omega))
          clear X4_12
          have Y5_13 := Lib.hid (Y5_12.out.below D13.out (by omega))
          clear Y5_12
          have HB13 := Lib.hid (HB.out.trans (D13.out.mono (by omega)))
          clear HB
          have HB := HB13
          clear HB13 hb
          clear z_aa
          have z_aa : w.heap.size < w13.heap.size := by omega
          clear z_bw
          have z_bw : w3.heap.size < w13.heap.size := by omega
          clear z_bx
          have z_bx : w4.heap.size < w13.heap.size := by omega
          clear z_bg
          have z_bg : w5.heap.size < w13.heap.size := by omega
          obtain ⟨aax, aay, aaz⟩ := aa_13.out
          obtain ⟨bwx, bwy⟩ := bw_13.out
          obtain ⟨bxx, bxy, bxz⟩ := bx_13.out
          obtain ⟨bgx, bgy⟩ := bg_13.out
          go_wp2_with fail
          refine (HI.out _ _ _ (X13_13.out.ints.more (by omega))).mono ?_
          rintro e w14 ⟨R14, t14, rfl, hown, hb⟩
          clear aax aay aaz bwx bwy bxx bxy bxz bgx bgy
          have Y14_14 := Lib.hid (hown.wide (lo' := w13.heap.size) (hi' := w14.heap.size) (by simp) (Nat.le_refl _))
          clear hown
          have D14 := Lib.hid (hb)
          have s14 : w13.heap.size + 0 ≤ w14.heap.size := by have := hb.size; (try simp at this); omega
          have aa_14 := Lib.hid (aa_13.out.below D14.out (by omega))
          clear aa_13
          have bw_14 := Lib.hid (bw_13.out.below D14.out (by omega))
          clear bw_13
          have bx_14 := Lib.hid (bx_13.out.below D14.out (by omega))
          clear bx_13
          have bg_14 := Lib.hid (bg_13.out.below D14.out (by omega))
          clear bg_13
          have Y3_14 := Lib.hid (Y3_13.out.below D14.out (by omega))
          clear Y3_13
          have X4_14 := Lib.hid (X4_13.out.below D14.out (by omega))
          clear X4_13
          have Y5_14 := Lib.hid (Y5_13.out.below D14.out (by omega))
          clear Y5_13
          have X13_14 := Lib.hid (X13_13.out.below D14.out (by omega))
          clear X13_13
          have HB14 := Lib.hid (HB.out.trans (D14.out.mono (by omega)))
          clear HB
          have HB := HB14
          clear HB14 hb
          clear z_aa
          have z_aa : w.heap.size < w14.heap.size := by omega
          clear z_bw
          have z_bw : w3.heap.size < w14.heap.size := by omega
          clear z_bx
          have z_bx : w4.heap.size < w14.heap.size := by omega
          clear z_bg
          have z_bg : w5.heap.size < w14.heap.size := by omega
          obtain ⟨aax, aay, aaz⟩ := aa_14.out
          obtain ⟨bwx, bwy⟩ := bw_14.out
          obtain ⟨bxx, bxy, bxz⟩ := bx_14.out
          obtain ⟨bgx, bgy⟩ := bg_14.out
          go_wp2_with fail
          refine (eqAbelianGroup_any _ _ _ _ _ _ ll (w14.heap.size) (w3.heap.size) _ (by (try simp) <;> omega) (by (try simp) <;> omega) ((Y14_14.out.al (by omega) (al1 _ _)).ints) ((Y3_14.out.al (by omega) (al1 _ _)).ints) (by omega)).mono ?_
          rintro e w15 ⟨rfl, hb⟩
          clear aax aay aaz bwx bwy bxx bxy bxz bgx bgy
          have D15 := Lib.hid (on1 _ hb)
          have s15 : w14.heap.size + 1 ≤ w15.heap.size := by have := hb.size; (try simp at this); omega
          have aa_15 := Lib.hid (aa_14.out.below D15.out (by omega))
          clear aa_14
          have bw_15 := Lib.hid (bw_14.out.below D15.out (by omega))
          clear bw_14
          have bx_15 := Lib.hid (bx_14.out.below D15.out (by omega))
          clear bx_14
          have bg_15 := Lib.hid (bg_14.out.below D15.out (by omega))
          clear bg_14
          have bh_15 := Lib.hid ((BoxG.new w14 54 (.int .i64 rk) (.slice R14 ll.length t14)).below hb (by simp))
          have Y3_15 := Lib.hid (Y3_14.out.below D15.out (by omega))
          clear Y3_14
          have X4_15 := Lib.hid (X4_14.out.below D15.out (by omega))
          clear X4_14
          have Y5_15 := Lib.hid (Y5_14.out.below D15.out (by omega))
          clear Y5_14
          have Y14_15 := Lib.hid (Y14_14.out.below D15.out (by omega))
          clear Y14_14
          have HB15 := Lib.hid (HB.out.trans (D15.out.mono (by omega)))
          clear HB
          have HB := HB15
          clear HB15 hb
          clear z_aa
          have z_aa : w.heap.size < w15.heap.size := by omega
          clear z_bw
          have z_bw : w3.heap.size < w15.heap.size := by omega
          clear z_bx
          have z_bx : w4.heap.size < w15.heap.size := by omega
          clear z_bg
          have z_bg : w5.heap.size < w15.heap.size := by omega
          have z_bh : w14.heap.size < w15.heap.size := by omega
          obtain ⟨aax, aay, aaz⟩ := aa_15.out
          obtain ⟨bwx, bwy⟩ := bw_15.out
          obtain ⟨bxx, bxy, bxz⟩ := bx_15.out
          obtain ⟨bgx, bgy⟩ := bg_15.out
          obtain ⟨bhx, bhy⟩ := bh_15.out
          go_wp2_with fail
          refine (heldAbelianGroup_any _ R5 ll.length t5 1 (w5.heap.size) _ Y5_15.out.ints (by omega) (by omega) (by omega) (by omega)).mono ?_
          rintro e w16 ⟨rfl, hb⟩
          clear aax aay aaz bwx bwy bxx bxy bxz bgx bgy bhx bhy
          have D16 := Lib.hid (hb)
          have s16 : w15.heap.size + 0 ≤ w16.heap.size := by have := hb.size; (try simp at this); omega
          have aa_16 := Lib.hid (aa_15.out.below D16.out (by omega))
          clear aa_15
          have bw_16 := Lib.hid (bw_15.out.below D16.out (by omega))
          clear bw_15
          have bx_16 := Lib.hid (bx_15.out.below D16.out (by omega))
          clear bx_15
          have bg_16 := Lib.hid (bg_15.out.below D16.out (by omega))
          clear bg_15
          have bh_16 := Lib.hid (bh_15.out.below D16.out (by omega))
          clear bh_15
          have Y3_16 := Lib.hid (Y3_15.out.below D16.out (by omega))
          clear Y3_15
          have X4_16 := Lib.hid (X4_15.out.below D16.out (by omega))
          clear X4_15
          have Y5_16 := Lib.hid (Y5_15.out.below D16.out (by omega))
          clear Y5_15
          have Y14_16 := Lib.hid (Y14_15.out.below D16.out (by omega))
          clear Y14_15
          have HB16 := Lib.hid (HB.out.trans (D16.out.mono (by omega)))
          clear HB
          have HB := HB16
          clear HB16 hb
          clear z_aa
          have z_aa : w.heap.size < w16.heap.size := by omega
          clear z_bw
          have z_bw : w3.heap.size < w16.heap.size := by omega
          clear z_bx
          have z_bx : w4.heap.size < w16.heap.size := by omega
          clear z_bg
          have z_bg : w5.heap.size < w16.heap.size := by omega
          clear z_bh
          have z_bh : w14.heap.size < w16.heap.size := by omega
          go_wp2
          go_ret
          exact ⟨rfl, HB.out⟩

set_option maxHeartbeats 1000000 in
theorem bigCokernelOf (r q : Int) (A : Option Addr) (n c : Nat) (w : World) (hm : n ≤ maxLen) (hn : ¬ n ≤ 1048576) :
    Calls Try.prog 12 #[.agg #[.int .i64 r, .int .i64 q, .slice A n c]] w fun e w' => e = .returned (.bool true) ∧ Below w.heap.size w w' := by
  have hm' := hm
  unfold maxLen at hm'
  go_enter Try.func12, Try.ntmps12
  go_wp2_with fail
  refine (szM_any r q A n c _ _ hm (by omega) (by omega)).mono ?_
  rintro e w1 ⟨rfl, hb⟩
  rw [if_pos (by omega)]
  go_wp2
  go_ret
  exact ⟨rfl, on1 _ hb⟩

theorem allCokernelOf (r q : Int) (A : Option Addr) (n c : Nat) (zs : List Int) (w : World) (h : Ints w w.heap.size A n zs) (hm : n ≤ maxLen) :
    Calls Try.prog 12 #[.agg #[.int .i64 r, .int .i64 q, .slice A n c]] w fun e w' => e = .returned (.bool true) ∧ Below w.heap.size w w' := by
  by_cases hn : n ≤ 1048576
  case neg => exact bigCokernelOf r q A n c w hm hn
  by_cases hP : MOk r q zs
  · obtain ⟨R, rfl⟩ := Int.eq_ofNat_of_zero_le hP.1
    obtain ⟨C, rfl⟩ := Int.eq_ofNat_of_zero_le hP.2.2.1
    have hR : R ≤ 48 := by have := hP.2.1; omega
    have hC : C ≤ 48 := by have := hP.2.2.2.1; omega
    obtain ⟨o, ho, hg⟩ := Sm.outcome_end (R := R) (C := C) (min R C) 0 (start R C zs) (by omega) (by omega) (start_good hP) (start_ck _ _ _)
    have ho2 := ho.two (min R C) 0 (start R C zs) o (by omega) (by omega) (start_good hP) (start_ck _ _ _)
    cases o with
    | none => exact exactCokernelOf R C A n c zs 0 [] 3 w h hm (by simp) (fun W A c h => cok_spec_err _ _ A n c [] 3 W (inv_spec_yes R C A n c zs none _ (h.into (al2 _ _ _)) hR hC hP ho hg) (by decide)) (fun W A c h => cok_impl_err _ _ A n c [] 3 W (inv_impl_yes R C A n c zs none _ (h.into (al2 _ _ _)) hR hC hP ho2 hg) (by decide)) hn
    | some s =>
      have hl : (nz (diag C s.d (min R C))).length ≤ 48 := by have := nz_diag_len C s.d (min R C); omega
      have ht := tors_len (nz (diag C s.d (min R C)))
      exact exactCokernelOf R C A n c zs _ (tors (nz (diag C s.d (min R C)))) 0 w h hm (by omega) (fun W A c h => cok_spec_ok _ _ A n c (nz (diag C s.d (min R C))) W (inv_spec_yes R C A n c zs (some s) _ (h.into (al2 _ _ _)) hR hC hP ho hg) hl (by omega) (by omega)) (fun W A c h => cok_impl_ok _ _ A n c (nz (diag C s.d (min R C))) W (inv_impl_yes R C A n c zs (some s) _ (h.into (al2 _ _ _)) hR hC hP ho2 hg) hl (by omega) (by omega)) hn
  · exact exactCokernelOf r q A n c zs 0 [] 1 w h hm (by simp) (fun W A c h => cok_spec_err _ _ A n c [] 1 W (inv_spec_no r q A n c zs _ (h.into (al2 _ _ _)) hn hP) (by decide)) (fun W A c h => cok_impl_err _ _ A n c [] 1 W (inv_impl_no r q A n c zs _ (h.into (al2 _ _ _)) hn hP) (by decide)) hn

set_option maxRecDepth 100000 in
theorem exactCokernelOf_lifted (os : Os) (started : os.Started) (H : Type) (enc : TypeId × Value → H) :
    ReturnsInHanded {} Try.checked os 12 .any (Rows.fnExactCokernelOfSpec.pre6 enc Try.prog Try.f12 Rows.fnExactCokernelOfRow.domain false) (Rows.fnExactCokernelOfSpec.post enc Try.prog Try.f12 false true false false) := by
  refine returnsInHanded_of_change (C := Try.checked) own started (by kernel_rfl) Try.func12
    (ChangeSpec.witness6 (enc := enc) (C := Try.checked) false ⟨#[], #[.agg #[.int .i64 0, .int .i64 0, .slice none 0 0]], []⟩ 8 (by kernel_rfl) (by kernel_rfl) (by kernel_rfl) (by kernel_rfl)) ?_
  intro W base args ds gs before hval0 hW _ _
  have hval : ∀ (j : Nat) t v, Try.f12.params[j]? = some t → args[j]? = some v → Value.okWide Try.prog W .any base t v := hval0
  have hW' := hW
  obtain ⟨p, q, hA0, hV, rfl, hfz, hnd⟩ := hW
  have hA : DataW.TrodAll enc Try.prog W 0 (fun _ => true) true Try.f12.params.toList args.toList ds p := hA0
  rw [Try.params12] at hA hval
  obtain ⟨v0, vs0, d0, ds0, p0, q0, hargs, rfl, rfl, h0, r0⟩ := trodAll_cons hA
  obtain ⟨rfl, rfl, rfl⟩ := trodAll_nil r0
  obtain rfl : args = #[v0] := by cases args; simp_all
  obtain ⟨rfl, rfl⟩ := trodVars_none hV
  have k0 := h0
  have lt0 : ∀ x ∈ p0, x.block < W.heap.size := by obtain ⟨m, hm⟩ := k0; exact DataW.trod_lt m _ _ _ hm
  obtain ⟨ra0, qa0, A0, n0, c0, zs0, rfl, hi0, hm0, _, _⟩ := openM (hval 0 24 v0 rfl rfl) h0
  clear hA0 hval0
  refine (allCokernelOf ra0 qa0 A0 n0 c0 zs0 W hi0 hm0).mono fun e W' ⟨he, bel⟩ => ?_
  subst he
  exact ⟨_, rfl, _, _, _, [], _, [], hW', trodAll_mk1 (shut_bool Try.underlying4 _), (trodAll_cons_mk (Below.trod laidOut (by kernel_rfl) (of_decide_eq_true (by kernel_rfl)) k0 bel lt0) trodAll_mk0), rfl, bel.frame _, fun h => by cases h⟩

theorem exactCokernelOf_holds : Rows.FnExactCokernelOfSaid :=
  OpenClaim.holds_of_wide 12 Try.f12 rfl rfl rfl rfl rfl rfl rfl ⟨rfl, rfl, rfl, rfl, rfl⟩ rfl rfl rfl rfl rfl (by kernel_rfl) Try.func12 (by kernel_rfl)
    (of_decide_eq_true (by kernel_rfl)) (by unfold Func.isWrapper; first | (rw [if_pos (by decide +kernel)]; kernel_rfl) | (rw [if_neg (by decide +kernel)]; exact ⟨rfl, rfl⟩))
    (fun os started H enc _ => exactCokernelOf_lifted os started H enc)

#print axioms exactCokernelOf_holds

end Go.Proofs.Ytdbljeglnhefmaa
