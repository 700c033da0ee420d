/- The law FnExactFormatGroup returns true for every group that is passed in and changes no memory that was there. The table of powers of ten reads as the program lays it. -/
import Derived.Test.YtgmkcmdnbfolhaaDoorLiftGL
import Derived.Test.YtgmkcmdnbfolhaaDoorNumH
import Derived.Deep.RegionHeld3
import Derived.Deep.DeepCutAuto
namespace Go.Proofs.YtgmkcmdnbfolhaaDoor
open Go.ChangeShapes Go.WideShapes Go.ChangeAt Go.RowKit

set_option maxRecDepth 100000 in
set_option maxHeartbeats 16000000 in
theorem exactFormatGroup (ra : Int) (Aa : Option Addr) (na ca : Nat) (za : List Int) (b : List UInt8) (w : World) (ht : Tab w) (ha : Ints w w.heap.size Aa na za) (hma : na ≤ maxLen)
    (hs : ∀ (W : World) (Aa : Option Addr), Ints W W.heap.size Aa na za → Calls Tryd.prog 6 #[.agg #[.int .i64 ra, .slice Aa na na]] W (NumR W b))
    (hi : ∀ (W : World) (Aa : Option Addr), Ints W W.heap.size Aa na za → Tab W → Calls Tryd.prog 8 #[.agg #[.int .i64 ra, .slice Aa na na]] W (NumR W b))
    (hna : na ≤ 1048576) :
    Calls Tryd.prog 3 #[.agg #[.int .i64 ra, .slice Aa na ca]] w fun e w' => e = .returned (.bool true) ∧ Below w.heap.size w w' := by
  have HS := Lib.hid hs
  have HI := Lib.hid hi
  clear hs hi
  have HB := Lib.hid (Below.refl w.heap.size w)
  have T := Lib.hid ht
  clear ht
  have Ha := Lib.hid ha
  have hla := Lib.hid ha.1
  clear ha
  go_enter Tryd.func3, Tryd.ntmps3
  go_wp2_with fail
  refine (szAbelianGroup_my ra Aa na ca _ _ hma (by omega) (by omega)).mono ?_
  rintro e w1 ⟨rfl, hb⟩
  rw [if_neg (by omega)]
  have D1 := Lib.hid (on1 _ hb)
  have s1 : w.heap.size + 1 ≤ w1.heap.size := by have := hb.size; (try simp at this); omega
  have aa_1 := Lib.hid ((BoxG.new w 24 (.int .i64 ra) (.slice Aa na ca)).below hb (by simp))
  have HB1 := Lib.hid (HB.out.trans (D1.out.mono (by omega)))
  clear HB
  have HB := HB1
  clear HB1 hb
  have z_aa : w.heap.size < w1.heap.size := by omega
  obtain ⟨aax, aay⟩ := aa_1.out
  go_wp2_with fail
  refine (toAbelianGroup_my ra Aa na ca za _ (Ha.out.into HB.out) hna).mono ?_
  rintro e w2 ⟨g2, rfl, hk, hg, hb⟩
  clear aax aay
  have X2_2 := Lib.hid (Mine.of_blk (lo := w1.heap.size) (hi := w2.heap.size) hk (by simpa using hg) hk.lt hla.out)
  clear hk hg
  have D2 := Lib.hid (hb)
  have s2 : w1.heap.size + 0 ≤ w2.heap.size := by have := hb.size; (try simp at this); omega
  have aa_2 := Lib.hid (aa_1.out.below D2.out (by omega))
  clear aa_1
  have HB2 := Lib.hid (HB.out.trans (D2.out.mono (by omega)))
  clear HB
  have HB := HB2
  clear HB2 hb
  clear z_aa
  have z_aa : w.heap.size < w2.heap.size := by omega
  obtain ⟨aax, aay⟩ := aa_2.out
  go_wp2_with fail
  refine (HS.out _ _ (X2_2.out.ints.more (by omega))).mono ?_
  rintro e w3 ⟨rfl, hb⟩
  clear aax aay
  have D3 := Lib.hid (hb)
  have s3 : w2.heap.size + 0 ≤ w3.heap.size := by have := hb.size; (try simp at this); omega
  have aa_3 := Lib.hid (aa_2.out.below D3.out (by omega))
  clear aa_2
  have X2_3 := Lib.hid (X2_2.out.below D3.out (by omega))
  clear X2_2
  have HB3 := Lib.hid (HB.out.trans (D3.out.mono (by omega)))
  clear HB
  have HB := HB3
  clear HB3 hb
  clear z_aa
  have z_aa : w.heap.size < w3.heap.size := by omega
  obtain ⟨aax, aay⟩ := aa_3.out
  go_wp2_with fail
  refine (toAbelianGroup_my ra Aa na ca za _ (Ha.out.into HB.out) hna).mono ?_
  rintro e w4 ⟨g4, rfl, hk, hg, hb⟩
  clear aax aay
  have X4_4 := Lib.hid (Mine.of_blk (lo := w3.heap.size) (hi := w4.heap.size) hk (by simpa using hg) hk.lt hla.out)
  clear hk hg
  have D4 := Lib.hid (hb)
  have s4 : w3.heap.size + 0 ≤ w4.heap.size := by have := hb.size; (try simp at this); omega
  have aa_4 := Lib.hid (aa_3.out.below D4.out (by omega))
  clear aa_3
  have HB4 := Lib.hid (HB.out.trans (D4.out.mono (by omega)))
  clear HB
  have HB := HB4
  clear HB4 hb
  clear z_aa
  have z_aa : w.heap.size < w4.heap.size := by omega
  obtain ⟨aax, aay⟩ := aa_4.out
  go_wp2_with fail
  refine (HI.out _ _ ((X4_4.out.al (by omega) (al1 _ _)).ints.more (by (try simp) <;> omega)) (T.out.keep (HB.out.trans ((al1 _ _).mono HB.out.size)))).mono ?_
  rintro e w5 ⟨rfl, hb⟩
  clear aax aay
  have D5 := Lib.hid (on1 _ hb)
  have s5 : w4.heap.size + 1 ≤ w5.heap.size := by have := hb.size; (try simp at this); omega
  have aa_5 := Lib.hid (aa_4.out.below D5.out (by omega))
  clear aa_4
  have bx_5 := Lib.hid ((BoxG.new w4 27 (.int .i64 ra) (.slice (some ⟨g4, 0, none⟩) na na)).below hb (by simp))
  have X4_5 := Lib.hid (X4_4.out.below D5.out (by omega))
  clear X4_4
  have HB5 := Lib.hid (HB.out.trans (D5.out.mono (by omega)))
  clear HB
  have HB := HB5
  clear HB5 hb
  clear z_aa
  have z_aa : w.heap.size < w5.heap.size := by omega
  have z_bx : w4.heap.size < w5.heap.size := by omega
  as_aux_lemma =>
    obtain ⟨aax, aay⟩ := aa_5.out
    obtain ⟨bxx, bxy⟩ := bx_5.out
    go_wp2_with fail
    go_region_held3 (fun W => (W.cell? ⟨w4.heap.size, 0, none⟩ = some (.int .i64 ra) ∧ W.cell? ⟨w4.heap.size, 1, none⟩ = some (.slice (some ⟨g4, 0, none⟩) na na)) ∧ (W.cell? ⟨w.heap.size, 0, none⟩ = some (.int .i64 ra) ∧ W.cell? ⟨w.heap.size, 1, none⟩ = some (.slice Aa na ca))) (go_keep)
      (first
        | (go_at_call 7; (with_reducible refine (toAbelianGroup_my ra Aa na ca za _ (by exact Ha.out.into HB.out.drew) hna).mono ?_); rintro e w6 ⟨g6, rfl, hk6, hg6, hb6'⟩; have hb6 := undrew hb6'; have K6 := Lib.hid hk6; have B6 := Lib.hid hb6; have z6 := hb6.size; obtain ⟨e0, e1⟩ := bx_5.out.below hb6 (by omega); obtain ⟨f0, f1⟩ := aa_5.out.below hb6 (by omega); clear hk6 hg6 hb6 hb6')
        | (go_at_call 9; (with_reducible refine (eqAbelianGroup_my ra _ _ na _ _ za (w4.heap.size) _ _ (by have := B6.out.size; omega) (Nat.le_refl _) (by exact (X4_5.out.ints).below (B6.out.mono (by omega))) (by exact K6.out.ints hla.out) hna).mono ?_); rintro e w7 ⟨rfl, hb7⟩; obtain ⟨m0, m1⟩ := (bx_5.out.below B6.out (by omega)).below hb7 (by omega); obtain ⟨y0, y1⟩ := (aa_5.out.below B6.out (by omega)).below hb7 (by omega)))
    clear e0 e1 f0 f1 m0 m1 y0 y1 K6
    clear aax aay bxx bxy
    have hb6 := B6.out
    clear B6
    have D6 := Lib.hid (hb6)
    have s6 : w5.heap.size + 0 ≤ w6.heap.size := by have := hb6.size; (try simp at this); omega
    have aa_6 := Lib.hid (aa_5.out.below D6.out (by omega))
    clear aa_5
    have bx_6 := Lib.hid (bx_5.out.below D6.out (by omega))
    clear bx_5
    have X4_6 := Lib.hid (X4_5.out.below D6.out (by omega))
    clear X4_5
    have HB6 := Lib.hid (HB.out.trans (D6.out.mono (by omega)))
    clear HB
    have HB := HB6
    clear HB6 hb6
    clear z_aa
    have z_aa : w.heap.size < w6.heap.size := by omega
    clear z_bx
    have z_bx : w4.heap.size < w6.heap.size := by omega
    have D7 := Lib.hid (hb7)
    have s7 : w6.heap.size + 0 ≤ w7.heap.size := by have := hb7.size; (try simp at this); omega
    have aa_7 := Lib.hid (aa_6.out.below D7.out (by omega))
    clear aa_6
    have bx_7 := Lib.hid (bx_6.out.below D7.out (by omega))
    clear bx_6
    have X4_7 := Lib.hid (X4_6.out.below D7.out (by omega))
    clear X4_6
    have HB7 := Lib.hid (HB.out.trans (D7.out.mono (by omega)))
    clear HB
    have HB := HB7
    clear HB7 hb7
    clear z_aa
    have z_aa : w.heap.size < w7.heap.size := by omega
    clear z_bx
    have z_bx : w4.heap.size < w7.heap.size := by omega
    go_wp2
    go_ret
    exact ⟨rfl, HB.out⟩

set_option maxHeartbeats 1000000 in
theorem bigFormatGroup (r : Int) (A : Option Addr) (n c : Nat) (w : World) (hm : n ≤ maxLen) (hn : ¬ n ≤ 1048576) :
    Calls Tryd.prog 3 #[.agg #[.int .i64 r, .slice A n c]] w fun e w' => e = .returned (.bool true) ∧ Below w.heap.size w w' := by
  have hm' := hm
  unfold maxLen at hm'
  go_enter Tryd.func3, Tryd.ntmps3
  go_wp2_with fail
  refine (szAbelianGroup_my r A n c _ _ hm (by omega) (by omega)).mono ?_
  rintro e w1 ⟨rfl, hb⟩
  rw [if_pos (by omega)]
  go_wp2
  go_ret
  exact ⟨rfl, on1 _ hb⟩

theorem allFormatGroup (r : Int) (A : Option Addr) (n c : Nat) (zs : List Int) (w : World) (h : Ints w w.heap.size A n zs) (hm : n ≤ maxLen) (ht : Tab w) :
    Calls Tryd.prog 3 #[.agg #[.int .i64 r, .slice A n c]] w fun e w' => e = .returned (.bool true) ∧ Below w.heap.size w w' := by
  by_cases hn : n ≤ 1048576
  case neg => exact bigFormatGroup r A n c w hm hn
  by_cases hP : AOk r zs
  · exact exactFormatGroup r A n c zs _ w ht h hm (fun W A h => formatG_spec r A n n zs W h hn hP) (fun W A h ht => formatG_impl r A n n zs W h hn hP ht) hn
  · exact exactFormatGroup r A n c zs _ w ht h hm (fun W A h => formatG_spec_no r A n n zs W h hn hP) (fun W A h _ => formatG_impl_no r A n n zs W h hn hP) hn

end Go.Proofs.YtgmkcmdnbfolhaaDoor
