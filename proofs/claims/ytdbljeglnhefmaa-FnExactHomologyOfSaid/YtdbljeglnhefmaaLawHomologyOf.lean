/- The law FnExactHomologyOf returns true for every two matrices that are passed in and changes no memory that was there. No condition. -/
import Derived.Test.YtdbljeglnhefmaaLift
import Derived.Test.YtdbljeglnhefmaaHomB
import Derived.Test.YtdbljeglnhefmaaHomC
import Derived.Deep.RegionHeld3
import Derived.Deep.DeepCutAuto
namespace Go.Proofs.Ytdbljeglnhefmaa
open Go.ChangeShapes Go.WideShapes Go.ChangeAt Go.RowKit

/-- What a statement leaves whose order is drawn: the result's box, its list, and all that was there as it was. -/
def CutG (wj : World) (rk : Int) (ll : List Int) (v p x : Value) (W : World) : Prop :=
  ∃ b R t, p = .pointer (some ⟨b, 0, none⟩) ∧ x = v ∧ BoxG W b (.int .i64 rk) (.slice R ll.length t) ∧ wj.heap.size ≤ b ∧ b < W.heap.size ∧ Own W wj.heap.size W.heap.size R ll.length t ll ∧ Below wj.heap.size wj W
theorem CutG.new {wj W : World} {rk : Int} {ll : List Int} {v : Value} {lo : Nat} {R : Option Addr} {t : Nat} {T : TypeId} (ho : Own W lo W.heap.size R ll.length t ll) (hb : Below wj.heap.size wj W) (hl : wj.heap.size ≤ lo) :
    CutG wj rk ll v (.pointer (some ⟨W.heap.size, 0, none⟩)) v (W.alloc (Obj.cells #[.int .i64 rk, .slice R ll.length t] T)) :=
  ⟨W.heap.size, R, t, rfl, rfl, BoxG.new _ _ _ _, hb.size, by simp, (ho.al (Nat.le_refl _) (al1 _ _)).wide hl (by simp), hb.alloc hb.size _⟩
theorem CutG.old {wj W : World} {rk : Int} {ll : List Int} {v : Value} {lo b : Nat} {R : Option Addr} {t : Nat} {x y : Value} (ho : Own W lo W.heap.size R ll.length t ll) (hx : BoxG W b x y) (hb : Below wj.heap.size wj W) (hl : wj.heap.size ≤ b) (hlo : b < lo) (hh : b < W.heap.size) :
    CutG wj rk ll v (.pointer (some ⟨b, 0, none⟩)) v ((W.setCell ⟨b, 0, none⟩ (.int .i64 rk)).setCell ⟨b, 1, none⟩ (.slice R ll.length t)) := by
  refine ⟨b, R, t, rfl, rfl, ⟨?_, ?_⟩, hl, by simpa [World.setCell] using hh, ?_, ?_⟩
  · rw [World.cell?_setCell_other _ _ _ _ (by simp)]
    exact World.cell?_setCell_same _ _ _ hx.1
  · exact World.cell?_setCell_same _ _ _ (by rw [World.cell?_setCell_other _ _ _ _ (by simp)]; exact hx.2)
  · refine ((ho.far (p := ⟨b, 0, none⟩) (.inl hlo) _).far (p := ⟨b, 1, none⟩) (.inl hlo) _).wide (by omega) (by simp [World.setCell])
  · exact (hb.setCell hl _).setCell hl _

set_option maxRecDepth 100000 in
set_option maxHeartbeats 8000000 in
theorem exactHomologyOf (ra qa : Int) (Aa : Option Addr) (na ca : Nat) (za : List Int) (rb qb : Int) (Ab : Option Addr) (nb cb : Nat) (zb : List Int) (rk : Int) (ll : List Int) (code : Int) (w : World) (ha : Ints w w.heap.size Aa na za) (hma : na ≤ maxLen) (hb : Ints w w.heap.size Ab nb zb) (hmb : nb ≤ maxLen)
    (hz : ll.length ≤ 1048576)
    (hs : ∀ (W : World) (Aa : Option Addr) (ca : Nat) (Ab : Option Addr) (cb : Nat), Ints W W.heap.size Aa na za → Ints W W.heap.size Ab nb zb → Calls Try.prog 48 #[.agg #[.int .i64 ra, .int .i64 qa, .slice Aa na ca], .agg #[.int .i64 rb, .int .i64 qb, .slice Ab nb cb]] W (ResGC W rk ll code))
    (hi : ∀ (W : World) (Aa : Option Addr) (ca : Nat) (Ab : Option Addr) (cb : Nat), Ints W W.heap.size Aa na za → Ints W W.heap.size Ab nb zb → Calls Try.prog 49 #[.agg #[.int .i64 ra, .int .i64 qa, .slice Aa na ca], .agg #[.int .i64 rb, .int .i64 qb, .slice Ab nb cb]] W (ResGC W rk ll code))
    (hna : na ≤ 1048576)
    (hnb : nb ≤ 1048576)
    (hsum : na + nb ≤ 1048576) :
    Calls Try.prog 13 #[.agg #[.int .i64 ra, .int .i64 qa, .slice Aa na ca], .agg #[.int .i64 rb, .int .i64 qb, .slice Ab nb cb]] w fun e w' => e = .returned (.bool true) ∧ Below w.heap.size w w' := by
  have HS := Lib.hid hs
  have HI := Lib.hid hi
  clear hs hi
  have HB := Lib.hid (Below.refl w.heap.size w)
  have Ha := Lib.hid ha
  have hla := Lib.hid ha.1
  clear ha
  have Hb := Lib.hid hb
  have hlb := Lib.hid hb.1
  clear hb
  go_enter Try.func13, Try.ntmps13
  go_wp2_with fail
  refine (szM_any ra qa Aa na ca _ _ hma (by omega) (by omega)).mono ?_
  rintro e w1 ⟨rfl, hb⟩
  rw [if_neg (by omega)]
  have D1 := Lib.hid (on2 _ _ hb)
  have s1 : w.heap.size + 2 ≤ w1.heap.size := by have := hb.size; (try simp at this); omega
  have aa_1 := Lib.hid (((Box3.new w 24 (.int .i64 ra) (.int .i64 qa) (.slice Aa na ca)).below (al1 (w.alloc (Obj.cells #[.int .i64 ra, .int .i64 qa, .slice Aa na ca] 24)) (Obj.cells #[.int .i64 rb, .int .i64 qb, .slice Ab nb cb] 24)) (by simp)).below hb (by simp; omega))
  have ab_1 := Lib.hid ((Box3.new (w.alloc (Obj.cells #[.int .i64 ra, .int .i64 qa, .slice Aa na ca] 24)) 24 (.int .i64 rb) (.int .i64 qb) (.slice Ab nb cb)).below hb (by simp))
  simp only [World.size_alloc] at ab_1
  have HB1 := Lib.hid (HB.out.trans (D1.out.mono (by omega)))
  clear HB
  have HB := HB1
  clear HB1 hb
  have z_aa : w.heap.size < w1.heap.size := by omega
  have z_ab : w.heap.size + 1 < w1.heap.size := by omega
  obtain ⟨aax, aay, aaz⟩ := aa_1.out
  obtain ⟨abx, aby, abz⟩ := ab_1.out
  go_wp2_with fail
  refine (szM_any rb qb Ab nb cb _ _ hmb (by omega) (by omega)).mono ?_
  rintro e w2 ⟨rfl, hb⟩
  rw [if_neg (by omega)]
  clear aax aay aaz abx aby abz
  have D2 := Lib.hid (hb)
  have s2 : w1.heap.size + 0 ≤ w2.heap.size := by have := hb.size; (try simp at this); omega
  have aa_2 := Lib.hid (aa_1.out.below D2.out (by omega))
  clear aa_1
  have ab_2 := Lib.hid (ab_1.out.below D2.out (by omega))
  clear ab_1
  have HB2 := Lib.hid (HB.out.trans (D2.out.mono (by omega)))
  clear HB
  have HB := HB2
  clear HB2 hb
  clear z_aa
  have z_aa : w.heap.size < w2.heap.size := by omega
  clear z_ab
  have z_ab : w.heap.size + 1 < w2.heap.size := by omega
  obtain ⟨aax, aay, aaz⟩ := aa_2.out
  obtain ⟨abx, aby, abz⟩ := ab_2.out
  go_upto_region 8 with fail
  go_cut [6, 7] (fun p x W => CutG w2 rk ll (.int .i64 code) p x W)
  case first =>
    go_region_held3 (fun W => (W.cell? ⟨w.heap.size, 0, none⟩ = some (.int .i64 ra) ∧ W.cell? ⟨w.heap.size, 1, none⟩ = some (.int .i64 qa) ∧ W.cell? ⟨w.heap.size, 2, none⟩ = some (.slice Aa na ca)) ∧ (W.cell? ⟨w.heap.size + 1, 0, none⟩ = some (.int .i64 rb) ∧ W.cell? ⟨w.heap.size + 1, 1, none⟩ = some (.int .i64 qb) ∧ W.cell? ⟨w.heap.size + 1, 2, none⟩ = some (.slice Ab nb cb))) (go_keep)
      (first
        | (go_at_call 16; (with_reducible refine (toM_any ra qa Aa na ca za _ (by first | exact Ha.out.into HB.out.drew | exact Ha.out.into (HB.out.alloc (by omega) _).drew) hna).mono ?_); rintro e w6 ⟨g6, rfl, hk6, hg6, hb6⟩; (first | (have U6 : Hid (Below w2.heap.size w2 w6) := Lib.hid (undrew hb6); have z6 : w2.heap.size ≤ w6.heap.size := U6.out.size; (try have Zb := Lib.hid (Zb.out.below U6.out (by omega))); (try have Zf := Lib.hid (Zf.out.below U6.out (by omega)))) | (have U6 : Hid (Below w2.heap.size w2 w6) := Lib.hid (on1 _ (undrew hb6)); have z6 : w2.heap.size < w6.heap.size := (by have := (undrew hb6).size; simp at this; omega); have Zb := Lib.hid ((BoxG.new w2 54 (.int .i64 0) (.slice none 0 0)).below (undrew hb6) (by simp)); have Zf := Lib.hid ((Free.new w2 54 #[.int .i64 0, .slice none 0 0]).below (undrew hb6) (by simp)))); have K6 := Lib.hid hk6; obtain ⟨e0, e1, e2⟩ := aa_2.out.below U6.out (by omega); obtain ⟨e3, e4, e5⟩ := ab_2.out.below U6.out (by omega); have y6 : w.heap.size < w6.heap.size := (by omega); have y6' : w.heap.size + 1 < w6.heap.size := (by omega); (try obtain ⟨j0, j1⟩ := Zb.out); (try have jf := Zf.out); (try unfold Free at jf); clear hk6 hb6 hg6)
        | (go_at_call 16; (with_reducible refine (toM_any rb qb Ab nb cb zb _ (by first | exact Hb.out.into (HB.out.trans (U6.out.mono (by omega))) | exact Hb.out.into ((HB.out.trans (U6.out.mono (by omega))).alloc (by omega) _)) hnb).mono ?_); rintro e w7 ⟨g7, rfl, hk7, hg7, hb7⟩; (first | (have U7 : Hid (Below w6.heap.size w6 w7) := Lib.hid hb7; have z7 : w6.heap.size ≤ w7.heap.size := U7.out.size; (try have Zb := Lib.hid (Zb.out.below U7.out (by omega))); (try have Zf := Lib.hid (Zf.out.below U7.out (by omega)))) | (have U7 : Hid (Below w6.heap.size w6 w7) := Lib.hid (on1 _ hb7); have z7 : w6.heap.size < w7.heap.size := (by have := hb7.size; simp at this; omega); have Zb := Lib.hid ((BoxG.new w6 54 (.int .i64 0) (.slice none 0 0)).below hb7 (by simp)); have Zf := Lib.hid ((Free.new w6 54 #[.int .i64 0, .slice none 0 0]).below hb7 (by simp)))); have K7 := Lib.hid hk7; obtain ⟨f0, f1, f2⟩ := (aa_2.out.below U6.out (by omega)).below U7.out (by omega); obtain ⟨f3, f4, f5⟩ := (ab_2.out.below U6.out (by omega)).below U7.out (by omega); have y7 : w.heap.size < w7.heap.size := (by omega); have y7' : w.heap.size + 1 < w7.heap.size := (by omega); (try clear j0 j1 jf); (try obtain ⟨j0, j1⟩ := Zb.out); (try have jf := Zf.out); (try unfold Free at jf); clear hk7 hb7 hg7)
        | (go_at_call 48; (first | with_reducible refine (HS.out _ _ _ _ _ (by exact (((K6.out.ints hla.out).below U7.out).more U7.out.size)) (by exact (K7.out.ints hlb.out))).mono ?_ | with_reducible refine (HS.out _ _ _ _ _ (by exact (((K6.out.ints hla.out).below U7.out).more U7.out.size).into (al1 _ _)) (by exact (K7.out.ints hlb.out).into (al1 _ _))).mono ?_); rintro e w3 ⟨R3, t3, rfl, hown, hb8⟩; (first | (have U8 : Hid (Below w7.heap.size w7 w3) := Lib.hid hb8; have z8 : w7.heap.size ≤ w3.heap.size := U8.out.size; (try have Zb := Lib.hid (Zb.out.below U8.out (by omega))); (try have Zf := Lib.hid (Zf.out.below U8.out (by omega)))) | (have U8 : Hid (Below w7.heap.size w7 w3) := Lib.hid (on1 _ hb8); have z8 : w7.heap.size < w3.heap.size := (by have := hb8.size; simp at this; omega); have Zb := Lib.hid ((BoxG.new w7 54 (.int .i64 0) (.slice none 0 0)).below hb8 (by simp)); have Zf := Lib.hid ((Free.new w7 54 #[.int .i64 0, .slice none 0 0]).below hb8 (by simp)))); have O8 := Lib.hid hown; have y8 : w.heap.size < w3.heap.size := (by omega); have y8' : w.heap.size + 1 < w3.heap.size := (by omega); have x8 : ¬ w3.heap.size = w.heap.size := (by omega); have x8' : ¬ w3.heap.size = w.heap.size + 1 := (by omega); have xa : ¬ w2.heap.size = w.heap.size := (by omega); have xb : ¬ w2.heap.size = w.heap.size + 1 := (by omega); have xc : ¬ w6.heap.size = w.heap.size := (by omega); have xd : ¬ w6.heap.size = w.heap.size + 1 := (by omega); have xe : ¬ w7.heap.size = w.heap.size := (by omega); have xf : ¬ w7.heap.size = w.heap.size + 1 := (by omega); obtain ⟨m0, m1, m2⟩ := ((aa_2.out.below U6.out (by omega)).below U7.out (by omega)).below U8.out (by omega); obtain ⟨m3, m4, m5⟩ := ((ab_2.out.below U6.out (by omega)).below U7.out (by omega)).below U8.out (by omega); (try clear j0 j1 jf); (try obtain ⟨j0, j1⟩ := Zb.out); (try have jf := Zf.out); (try unfold Free at jf); clear hown hb8))
    all_goals
      have UU := (U6.out.trans (U7.out.mono (by omega))).trans (U8.out.mono (by omega))
      have UH := Lib.hid UU
      clear UU
      clear e0 e1 e2 e3 e4 e5 f0 f1 f2 f3 f4 f5 m0 m1 m2 m3 m4 m5
      go_wp2_with fail
      go_meet
      first
        | exact CutG.new O8.out UH.out (by (try simp) <;> omega)
        | exact CutG.old O8.out Zb.out UH.out (by omega) (by (try simp) <;> omega) (by omega)
  obtain ⟨β3, R3, t3, rfl, rfl, hbx, hlo, hhi, hown, hb⟩ := hcut
  obtain ⟨w3, rfl⟩ : ∃ W : World, W = wc := ⟨_, rfl⟩
  clear aax aay aaz abx aby abz
  have Y3_3 := Lib.hid hown
  have bw_3 := Lib.hid hbx
  clear hown hbx
  have D3 := Lib.hid (hb)
  have s3 : w2.heap.size + 0 ≤ w3.heap.size := by have := hb.size; (try simp at this); omega
  have aa_3 := Lib.hid (aa_2.out.below D3.out (by omega))
  clear aa_2
  have ab_3 := Lib.hid (ab_2.out.below D3.out (by omega))
  clear ab_2
  have HB3 := Lib.hid (HB.out.trans (D3.out.mono (by omega)))
  clear HB
  have HB := HB3
  clear HB3 hb
  clear z_aa
  have z_aa : w.heap.size < w3.heap.size := by omega
  clear z_ab
  have z_ab : w.heap.size + 1 < w3.heap.size := by omega
  have z_bw : β3 < w3.heap.size := hhi
  as_aux_lemma =>
    obtain ⟨aax, aay, aaz⟩ := aa_3.out
    obtain ⟨abx, aby, abz⟩ := ab_3.out
    obtain ⟨bwx, bwy⟩ := bw_3.out
    go_wp2_with fail
    refine (toM_any ra qa Aa na ca za _ (Ha.out.into HB.out) hna).mono ?_
    rintro e w4 ⟨g4, rfl, hk, hg, hb⟩
    clear aax aay aaz abx aby abz bwx bwy
    have X4_4 := Lib.hid (Own.of_blk (lo := w3.heap.size) (hi := w4.heap.size) hk (by simpa using hg) hk.lt hla.out (by unfold maxLen; omega))
    clear hk hg
    have D4 := Lib.hid (hb)
    have s4 : w3.heap.size + 0 ≤ w4.heap.size := by have := hb.size; (try simp at this); omega
    have aa_4 := Lib.hid (aa_3.out.below D4.out (by omega))
    clear aa_3
    have ab_4 := Lib.hid (ab_3.out.below D4.out (by omega))
    clear ab_3
    have bw_4 := Lib.hid (bw_3.out.below D4.out (by omega))
    clear bw_3
    have Y3_4 := Lib.hid (Y3_3.out.below D4.out (by omega))
    clear Y3_3
    have HB4 := Lib.hid (HB.out.trans (D4.out.mono (by omega)))
    clear HB
    have HB := HB4
    clear HB4 hb
    clear z_aa
    have z_aa : w.heap.size < w4.heap.size := by omega
    clear z_ab
    have z_ab : w.heap.size + 1 < w4.heap.size := by omega
    clear z_bw
    have z_bw : β3 < w4.heap.size := by omega
    obtain ⟨aax, aay, aaz⟩ := aa_4.out
    obtain ⟨abx, aby, abz⟩ := ab_4.out
    obtain ⟨bwx, bwy⟩ := bw_4.out
    go_wp2_with fail
    refine (toM_any rb qb Ab nb cb zb _ (Hb.out.into (HB.out.trans (al1 _ _ |>.mono (by omega)))) hnb).mono ?_
    rintro e w5 ⟨g5, rfl, hk, hg, hb⟩
    clear aax aay aaz abx aby abz bwx bwy
    have X5_5 := Lib.hid (Own.of_blk (lo := w4.heap.size + 1) (hi := w5.heap.size) hk (by simpa using hg) hk.lt hlb.out (by unfold maxLen; omega))
    clear hk hg
    have D5 := Lib.hid (on1 _ hb)
    have s5 : w4.heap.size + 1 ≤ w5.heap.size := by have := hb.size; (try simp at this); omega
    have aa_5 := Lib.hid (aa_4.out.below D5.out (by omega))
    clear aa_4
    have ab_5 := Lib.hid (ab_4.out.below D5.out (by omega))
    clear ab_4
    have bw_5 := Lib.hid (bw_4.out.below D5.out (by omega))
    clear bw_4
    have bxa_5 := Lib.hid ((Box3.new w4 27 (.int .i64 ra) (.int .i64 qa) (.slice (some ⟨g4, 0, none⟩) na na)).below hb (by simp))
    have Y3_5 := Lib.hid (Y3_4.out.below D5.out (by omega))
    clear Y3_4
    have X4_5 := Lib.hid (X4_4.out.below D5.out (by omega))
    clear X4_4
    have HB5 := Lib.hid (HB.out.trans (D5.out.mono (by omega)))
    clear HB
    have HB := HB5
    clear HB5 hb
    clear z_aa
    have z_aa : w.heap.size < w5.heap.size := by omega
    clear z_ab
    have z_ab : w.heap.size + 1 < w5.heap.size := by omega
    clear z_bw
    have z_bw : β3 < w5.heap.size := by omega
    have z_bxa : w4.heap.size < w5.heap.size := by omega
    obtain ⟨aax, aay, aaz⟩ := aa_5.out
    obtain ⟨abx, aby, abz⟩ := ab_5.out
    obtain ⟨bwx, bwy⟩ := bw_5.out
    obtain ⟨bxax, bxay, bxaz⟩ := bxa_5.out
    go_wp2_with fail
    refine (HI.out _ _ _ _ _ ((X4_5.out.al (by omega) (al1 _ _)).ints.more (by (try simp) <;> omega)) ((X5_5.out.al (by omega) (al1 _ _)).ints.more (by (try simp) <;> omega))).mono ?_
    rintro e w6 ⟨R6, t6, rfl, hown, hb⟩
    clear aax aay aaz abx aby abz bwx bwy bxax bxay bxaz
    have Y6_6 := Lib.hid (hown.wide (lo' := w5.heap.size + 1) (hi' := w6.heap.size) (by simp) (Nat.le_refl _))
    clear hown
    have D6 := Lib.hid (on1 _ hb)
    have s6 : w5.heap.size + 1 ≤ w6.heap.size := by have := hb.size; (try simp at this); omega
    have aa_6 := Lib.hid (aa_5.out.below D6.out (by omega))
    clear aa_5
    have ab_6 := Lib.hid (ab_5.out.below D6.out (by omega))
    clear ab_5
    have bw_6 := Lib.hid (bw_5.out.below D6.out (by omega))
    clear bw_5
    have bxa_6 := Lib.hid (bxa_5.out.below D6.out (by omega))
    clear bxa_5
    have bxb_6 := Lib.hid ((Box3.new w5 27 (.int .i64 rb) (.int .i64 qb) (.slice (some ⟨g5, 0, none⟩) nb nb)).below hb (by simp))
    have Y3_6 := Lib.hid (Y3_5.out.below D6.out (by omega))
    clear Y3_5
    have X4_6 := Lib.hid (X4_5.out.below D6.out (by omega))
    clear X4_5
    have X5_6 := Lib.hid (X5_5.out.below D6.out (by omega))
    clear X5_5
    have HB6 := Lib.hid (HB.out.trans (D6.out.mono (by omega)))
    clear HB
    have HB := HB6
    clear HB6 hb
    clear z_aa
    have z_aa : w.heap.size < w6.heap.size := by omega
    clear z_ab
    have z_ab : w.heap.size + 1 < w6.heap.size := by omega
    clear z_bw
    have z_bw : β3 < w6.heap.size := by omega
    clear z_bxa
    have z_bxa : w4.heap.size < w6.heap.size := by omega
    have z_bxb : w5.heap.size < w6.heap.size := by omega
    obtain ⟨aax, aay, aaz⟩ := aa_6.out
    obtain ⟨abx, aby, abz⟩ := ab_6.out
    obtain ⟨bwx, bwy⟩ := bw_6.out
    obtain ⟨bxax, bxay, bxaz⟩ := bxa_6.out
    obtain ⟨bxbx, bxby, bxbz⟩ := bxb_6.out
    go_wp2_with fail
    refine (eqAbelianGroup_any _ _ _ _ _ _ ll w6.heap.size w3.heap.size _ (by (try simp) <;> omega) (by (try simp) <;> omega) (Y6_6.out.al (by omega) (al1 _ _)).ints (Y3_6.out.al (by omega) (al1 _ _)).ints hz).mono ?_
    rintro e w7 ⟨rfl, hb⟩
    clear aax aay aaz abx aby abz bwx bwy bxax bxay bxaz bxbx bxby bxbz
    have D7 := Lib.hid (on1 _ hb)
    have s7 : w6.heap.size + 1 ≤ w7.heap.size := by have := hb.size; (try simp at this); omega
    have aa_7 := Lib.hid (aa_6.out.below D7.out (by omega))
    clear aa_6
    have ab_7 := Lib.hid (ab_6.out.below D7.out (by omega))
    clear ab_6
    have bw_7 := Lib.hid (bw_6.out.below D7.out (by omega))
    clear bw_6
    have bxa_7 := Lib.hid (bxa_6.out.below D7.out (by omega))
    clear bxa_6
    have bxb_7 := Lib.hid (bxb_6.out.below D7.out (by omega))
    clear bxb_6
    have bg_7 := Lib.hid ((BoxG.new w6 54 (.int .i64 rk) (.slice R6 ll.length t6)).below hb (by simp))
    have Y3_7 := Lib.hid (Y3_6.out.below D7.out (by omega))
    clear Y3_6
    have X4_7 := Lib.hid (X4_6.out.below D7.out (by omega))
    clear X4_6
    have X5_7 := Lib.hid (X5_6.out.below D7.out (by omega))
    clear X5_6
    have Y6_7 := Lib.hid (Y6_6.out.below D7.out (by omega))
    clear Y6_6
    have HB7 := Lib.hid (HB.out.trans (D7.out.mono (by omega)))
    clear HB
    have HB := HB7
    clear HB7 hb
    clear z_aa
    have z_aa : w.heap.size < w7.heap.size := by omega
    clear z_ab
    have z_ab : w.heap.size + 1 < w7.heap.size := by omega
    clear z_bw
    have z_bw : β3 < w7.heap.size := by omega
    clear z_bxa
    have z_bxa : w4.heap.size < w7.heap.size := by omega
    clear z_bxb
    have z_bxb : w5.heap.size < w7.heap.size := by omega
    have z_bg : w6.heap.size < w7.heap.size := by omega
    as_aux_lemma =>
      obtain ⟨aax, aay, aaz⟩ := aa_7.out
      obtain ⟨abx, aby, abz⟩ := ab_7.out
      obtain ⟨bwx, bwy⟩ := bw_7.out
      obtain ⟨bxax, bxay, bxaz⟩ := bxa_7.out
      obtain ⟨bxbx, bxby, bxbz⟩ := bxb_7.out
      obtain ⟨bgx, bgy⟩ := bg_7.out
      go_wp2_with fail
      go_region_held3 (fun W => W.cell? ⟨w4.heap.size, 0, none⟩ = some (.int .i64 ra) ∧ W.cell? ⟨w4.heap.size, 1, none⟩ = some (.int .i64 qa) ∧ W.cell? ⟨w4.heap.size, 2, none⟩ = some (.slice (some ⟨g4, 0, none⟩) na na) ∧ W.cell? ⟨w.heap.size, 0, none⟩ = some (.int .i64 ra) ∧ W.cell? ⟨w.heap.size, 1, none⟩ = some (.int .i64 qa) ∧ W.cell? ⟨w.heap.size, 2, none⟩ = some (.slice Aa na ca)) (go_keep)
        (first
          | (go_at_call 16; refine (toM_any ra qa Aa na ca za _ (by exact Ha.out.into HB.out.drew) hna).mono ?_; rintro e w8 ⟨g8, rfl, hk6, hg6, hb6'⟩; have hb6 := undrew hb6'; have K6 := Lib.hid hk6; have B6 := Lib.hid hb6; obtain ⟨e0, e1, e2⟩ := aa_7.out.below hb6 (by omega); obtain ⟨f0, f1, f2⟩ := bxa_7.out.below hb6 (by omega); clear hk6 hb6 hb6')
          | (go_at_call 18; refine (eqM_any ra qa _ _ na _ _ za w4.heap.size _ _ (by have := B6.out.size; omega) (Nat.le_refl _) (by exact (X4_7.out.ints).below (B6.out.mono (by omega))) (by exact K6.out.ints hla.out) hna).mono ?_; rintro e w9 ⟨rfl, hb7⟩; have z6 := B6.out.size; obtain ⟨m0, m1, m2⟩ := (aa_7.out.below B6.out (by omega)).below hb7 (by omega); obtain ⟨y0, y1, y2⟩ := (bxa_7.out.below B6.out (by omega)).below hb7 (by omega)))
      clear e0 e1 e2 f0 f1 f2 m0 m1 m2 y0 y1 y2 K6
      clear aax aay aaz abx aby abz bwx bwy bxax bxay bxaz bxbx bxby bxbz bgx bgy
      have hb6 := B6.out
      clear B6
      have D8 := Lib.hid (hb6)
      have s8 : w7.heap.size + 0 ≤ w8.heap.size := by have := hb6.size; (try simp at this); omega
      have aa_8 := Lib.hid (aa_7.out.below D8.out (by omega))
      clear aa_7
      have ab_8 := Lib.hid (ab_7.out.below D8.out (by omega))
      clear ab_7
      have bw_8 := Lib.hid (bw_7.out.below D8.out (by omega))
      clear bw_7
      have bxa_8 := Lib.hid (bxa_7.out.below D8.out (by omega))
      clear bxa_7
      have bxb_8 := Lib.hid (bxb_7.out.below D8.out (by omega))
      clear bxb_7
      have bg_8 := Lib.hid (bg_7.out.below D8.out (by omega))
      clear bg_7
      have Y3_8 := Lib.hid (Y3_7.out.below D8.out (by omega))
      clear Y3_7
      have X4_8 := Lib.hid (X4_7.out.below D8.out (by omega))
      clear X4_7
      have X5_8 := Lib.hid (X5_7.out.below D8.out (by omega))
      clear X5_7
      have Y6_8 := Lib.hid (Y6_7.out.below D8.out (by omega))
      clear Y6_7
      have HB8 := Lib.hid (HB.out.trans (D8.out.mono (by omega)))
      clear HB
      have HB := HB8
      clear HB8 hb6
      clear z_aa
      have z_aa : w.heap.size < w8.heap.size := by omega
      clear z_ab
      have z_ab : w.heap.size + 1 < w8.heap.size := by omega
      clear z_bw
      have z_bw : β3 < w8.heap.size := by omega
      clear z_bxa
      have z_bxa : w4.heap.size < w8.heap.size := by omega
      clear z_bxb
      have z_bxb : w5.heap.size < w8.heap.size := by omega
      clear z_bg
      have z_bg : w6.heap.size < w8.heap.size := by omega
      have D9 := Lib.hid (hb7)
      have s9 : w8.heap.size + 0 ≤ w9.heap.size := by have := hb7.size; (try simp at this); omega
      have aa_9 := Lib.hid (aa_8.out.below D9.out (by omega))
      clear aa_8
      have ab_9 := Lib.hid (ab_8.out.below D9.out (by omega))
      clear ab_8
      have bw_9 := Lib.hid (bw_8.out.below D9.out (by omega))
      clear bw_8
      have bxa_9 := Lib.hid (bxa_8.out.below D9.out (by omega))
      clear bxa_8
      have bxb_9 := Lib.hid (bxb_8.out.below D9.out (by omega))
      clear bxb_8
      have bg_9 := Lib.hid (bg_8.out.below D9.out (by omega))
      clear bg_8
      have Y3_9 := Lib.hid (Y3_8.out.below D9.out (by omega))
      clear Y3_8
      have X4_9 := Lib.hid (X4_8.out.below D9.out (by omega))
      clear X4_8
      have X5_9 := Lib.hid (X5_8.out.below D9.out (by omega))
      clear X5_8
      have Y6_9 := Lib.hid (Y6_8.out.below D9.out (by omega))
      clear Y6_8
      have HB9 := Lib.hid (HB.out.trans (D9.out.mono (by omega)))
      clear HB
      have HB := HB9
      clear HB9 hb7
      clear z_aa
      have z_aa : w.heap.size < w9.heap.size := by omega
      clear z_ab
      have z_ab : w.heap.size + 1 < w9.heap.size := by omega
      clear z_bw
      have z_bw : β3 < w9.heap.size := by omega
      clear z_bxa
      have z_bxa : w4.heap.size < w9.heap.size := by omega
      clear z_bxb
      have z_bxb : w5.heap.size < w9.heap.size := by omega
      clear z_bg
      have z_bg : w6.heap.size < w9.heap.size := by omega
      obtain ⟨aax, aay, aaz⟩ := aa_9.out
      obtain ⟨abx, aby, abz⟩ := ab_9.out
      obtain ⟨bwx, bwy⟩ := bw_9.out
      obtain ⟨bxax, bxay, bxaz⟩ := bxa_9.out
      obtain ⟨bxbx, bxby, bxbz⟩ := bxb_9.out
      obtain ⟨bgx, bgy⟩ := bg_9.out
      go_wp2_with fail
      go_region_held3 (fun W => W.cell? ⟨w5.heap.size, 0, none⟩ = some (.int .i64 rb) ∧ W.cell? ⟨w5.heap.size, 1, none⟩ = some (.int .i64 qb) ∧ W.cell? ⟨w5.heap.size, 2, none⟩ = some (.slice (some ⟨g5, 0, none⟩) nb nb) ∧ W.cell? ⟨w.heap.size + 1, 0, none⟩ = some (.int .i64 rb) ∧ W.cell? ⟨w.heap.size + 1, 1, none⟩ = some (.int .i64 qb) ∧ W.cell? ⟨w.heap.size + 1, 2, none⟩ = some (.slice Ab nb cb)) (go_keep)
        (first
          | (go_at_call 16; refine (toM_any rb qb Ab nb cb zb _ (by exact Hb.out.into HB.out.drew) hnb).mono ?_; rintro e w10 ⟨g10, rfl, hk6, hg6, hb6'⟩; have hb6 := undrew hb6'; have K6 := Lib.hid hk6; have B6 := Lib.hid hb6; obtain ⟨e0, e1, e2⟩ := ab_9.out.below hb6 (by omega); obtain ⟨f0, f1, f2⟩ := bxb_9.out.below hb6 (by omega); clear hk6 hb6 hb6')
          | (go_at_call 18; refine (eqM_any rb qb _ _ nb _ _ zb w5.heap.size _ _ (by have := B6.out.size; omega) (Nat.le_refl _) (by exact (X5_9.out.ints).below (B6.out.mono (by omega))) (by exact K6.out.ints hlb.out) hnb).mono ?_; rintro e w11 ⟨rfl, hb7⟩; have z6 := B6.out.size; obtain ⟨m0, m1, m2⟩ := (ab_9.out.below B6.out (by omega)).below hb7 (by omega); obtain ⟨y0, y1, y2⟩ := (bxb_9.out.below B6.out (by omega)).below hb7 (by omega)))
      clear e0 e1 e2 f0 f1 f2 m0 m1 m2 y0 y1 y2 K6
      clear aax aay aaz abx aby abz bwx bwy bxax bxay bxaz bxbx bxby bxbz bgx bgy
      have hb6 := B6.out
      clear B6
      have D10 := Lib.hid (hb6)
      have s10 : w9.heap.size + 0 ≤ w10.heap.size := by have := hb6.size; (try simp at this); omega
      have aa_10 := Lib.hid (aa_9.out.below D10.out (by omega))
      clear aa_9
      have ab_10 := Lib.hid (ab_9.out.below D10.out (by omega))
      clear ab_9
      have bw_10 := Lib.hid (bw_9.out.below D10.out (by omega))
      clear bw_9
      have bxa_10 := Lib.hid (bxa_9.out.below D10.out (by omega))
      clear bxa_9
      have bxb_10 := Lib.hid (bxb_9.out.below D10.out (by omega))
      clear bxb_9
      have bg_10 := Lib.hid (bg_9.out.below D10.out (by omega))
      clear bg_9
      have Y3_10 := Lib.hid (Y3_9.out.below D10.out (by omega))
      clear Y3_9
      have X4_10 := Lib.hid (X4_9.out.below D10.out (by omega))
      clear X4_9
      have X5_10 := Lib.hid (X5_9.out.below D10.out (by omega))
      clear X5_9
      have Y6_10 := Lib.hid (Y6_9.out.below D10.out (by omega))
      clear Y6_9
      have HB10 := Lib.hid (HB.out.trans (D10.out.mono (by omega)))
      clear HB
      have HB := HB10
      clear HB10 hb6
      clear z_aa
      have z_aa : w.heap.size < w10.heap.size := by omega
      clear z_ab
      have z_ab : w.heap.size + 1 < w10.heap.size := by omega
      clear z_bw
      have z_bw : β3 < w10.heap.size := by omega
      clear z_bxa
      have z_bxa : w4.heap.size < w10.heap.size := by omega
      clear z_bxb
      have z_bxb : w5.heap.size < w10.heap.size := by omega
      clear z_bg
      have z_bg : w6.heap.size < w10.heap.size := by omega
      have D11 := Lib.hid (hb7)
      have s11 : w10.heap.size + 0 ≤ w11.heap.size := by have := hb7.size; (try simp at this); omega
      have aa_11 := Lib.hid (aa_10.out.below D11.out (by omega))
      clear aa_10
      have ab_11 := Lib.hid (ab_10.out.below D11.out (by omega))
      clear ab_10
      have bw_11 := Lib.hid (bw_10.out.below D11.out (by omega))
      clear bw_10
      have bxa_11 := Lib.hid (bxa_10.out.below D11.out (by omega))
      clear bxa_10
      have bxb_11 := Lib.hid (bxb_10.out.below D11.out (by omega))
      clear bxb_10
      have bg_11 := Lib.hid (bg_10.out.below D11.out (by omega))
      clear bg_10
      have Y3_11 := Lib.hid (Y3_10.out.below D11.out (by omega))
      clear Y3_10
      have X4_11 := Lib.hid (X4_10.out.below D11.out (by omega))
      clear X4_10
      have X5_11 := Lib.hid (X5_10.out.below D11.out (by omega))
      clear X5_10
      have Y6_11 := Lib.hid (Y6_10.out.below D11.out (by omega))
      clear Y6_10
      have HB11 := Lib.hid (HB.out.trans (D11.out.mono (by omega)))
      clear HB
      have HB := HB11
      clear HB11 hb7
      clear z_aa
      have z_aa : w.heap.size < w11.heap.size := by omega
      clear z_ab
      have z_ab : w.heap.size + 1 < w11.heap.size := by omega
      clear z_bw
      have z_bw : β3 < w11.heap.size := by omega
      clear z_bxa
      have z_bxa : w4.heap.size < w11.heap.size := by omega
      clear z_bxb
      have z_bxb : w5.heap.size < w11.heap.size := by omega
      clear z_bg
      have z_bg : w6.heap.size < w11.heap.size := by omega
      as_aux_lemma =>
        obtain ⟨aax, aay, aaz⟩ := aa_11.out
        obtain ⟨abx, aby, abz⟩ := ab_11.out
        obtain ⟨bwx, bwy⟩ := bw_11.out
        obtain ⟨bxax, bxay, bxaz⟩ := bxa_11.out
        obtain ⟨bxbx, bxby, bxbz⟩ := bxb_11.out
        obtain ⟨bgx, bgy⟩ := bg_11.out
        go_wp2_with fail
        refine (markM_any _ _ (some ⟨g4, 0, none⟩) na na (1) za (w3.heap.size) (w4.heap.size) _ X4_11.out (by omega) hna (by omega) (by omega)).mono ?_
        rintro e w12 ⟨rfl, hown, hk⟩
        clear aax aay aaz abx aby abz bwx bwy bxax bxay bxaz bxbx bxby bxbz bgx bgy
        have X4_12 := Lib.hid hown
        clear X4_11 hown
        have D12 := Lib.hid hk
        have s12 : w11.heap.size ≤ w12.heap.size := hk.size
        have aa_12 := Lib.hid (aa_11.out.kept D12.out (by omega) (by omega))
        clear aa_11
        have ab_12 := Lib.hid (ab_11.out.kept D12.out (by omega) (by omega))
        clear ab_11
        have bw_12 := Lib.hid (bw_11.out.kept D12.out (by omega) (by omega))
        clear bw_11
        have bxa_12 := Lib.hid (bxa_11.out.kept D12.out (by omega) (by omega))
        clear bxa_11
        have bxb_12 := Lib.hid (bxb_11.out.kept D12.out (by omega) (by omega))
        clear bxb_11
        have bg_12 := Lib.hid (bg_11.out.kept D12.out (by omega) (by omega))
        clear bg_11
        have Y3_12 := Lib.hid (Y3_11.out.kept D12.out (by omega) (by omega))
        clear Y3_11
        have X5_12 := Lib.hid (X5_11.out.kept D12.out (by omega) (by omega))
        clear X5_11
        have Y6_12 := Lib.hid (Y6_11.out.kept D12.out (by omega) (by omega))
        clear Y6_11
        have HB12 := Lib.hid (HB.out.trans (D12.out.below (by omega) (by omega)))
        clear HB
        have HB := HB12
        clear HB12 hk
        clear z_aa
        have z_aa : w.heap.size < w12.heap.size := by omega
        clear z_ab
        have z_ab : w.heap.size + 1 < w12.heap.size := by omega
        clear z_bw
        have z_bw : β3 < w12.heap.size := by omega
        clear z_bxa
        have z_bxa : w4.heap.size < w12.heap.size := by omega
        clear z_bxb
        have z_bxb : w5.heap.size < w12.heap.size := by omega
        clear z_bg
        have z_bg : w6.heap.size < w12.heap.size := by omega
        obtain ⟨aax, aay, aaz⟩ := aa_12.out
        obtain ⟨abx, aby, abz⟩ := ab_12.out
        obtain ⟨bwx, bwy⟩ := bw_12.out
        obtain ⟨bxax, bxay, bxaz⟩ := bxa_12.out
        obtain ⟨bxbx, bxby, bxbz⟩ := bxb_12.out
        obtain ⟨bgx, bgy⟩ := bg_12.out
        go_wp2_with fail
        refine (markM_any _ _ (some ⟨g5, 0, none⟩) nb nb (1 + (na : Int)) zb (w4.heap.size + 1) (w5.heap.size) _ X5_12.out (by omega) hnb (by omega) (by omega)).mono ?_
        rintro e w13 ⟨rfl, hown, hk⟩
        clear aax aay aaz abx aby abz bwx bwy bxax bxay bxaz bxbx bxby bxbz bgx bgy
        have X5_13 := Lib.hid hown
        clear X5_12 hown
        have D13 := Lib.hid hk
        have s13 : w12.heap.size ≤ w13.heap.size := hk.size
        have aa_13 := Lib.hid (aa_12.out.kept D13.out (by omega) (by omega))
        clear aa_12
        have ab_13 := Lib.hid (ab_12.out.kept D13.out (by omega) (by omega))
        clear ab_12
        have bw_13 := Lib.hid (bw_12.out.kept D13.out (by omega) (by omega))
        clear bw_12
        have bxa_13 := Lib.hid (bxa_12.out.kept D13.out (by omega) (by omega))
        clear bxa_12
        have bxb_13 := Lib.hid (bxb_12.out.kept D13.out (by omega) (by omega))
        clear bxb_12
        have bg_13 := Lib.hid (bg_12.out.kept D13.out (by omega) (by omega))
        clear bg_12
        have Y3_13 := Lib.hid (Y3_12.out.kept D13.out (by omega) (by omega))
        clear Y3_12
        have X4_13 := Lib.hid (X4_12.out.kept D13.out (by omega) (by omega))
        clear X4_12
        have Y6_13 := Lib.hid (Y6_12.out.kept D13.out (by omega) (by omega))
        clear Y6_12
        have HB13 := Lib.hid (HB.out.trans (D13.out.below (by omega) (by omega)))
        clear HB
        have HB := HB13
        clear HB13 hk
        clear z_aa
        have z_aa : w.heap.size < w13.heap.size := by omega
        clear z_ab
        have z_ab : w.heap.size + 1 < w13.heap.size := by omega
        clear z_bw
        have z_bw : β3 < w13.heap.size := by omega
        clear z_bxa
        have z_bxa : w4.heap.size < w13.heap.size := by omega
        clear z_bxb
        have z_bxb : w5.heap.size < w13.heap.size := by omega
        clear z_bg
        have z_bg : w6.heap.size < w13.heap.size := by omega
        obtain ⟨aax, aay, aaz⟩ := aa_13.out
        obtain ⟨abx, aby, abz⟩ := ab_13.out
        obtain ⟨bwx, bwy⟩ := bw_13.out
        obtain ⟨bxax, bxay, bxaz⟩ := bxa_13.out
        obtain ⟨bxbx, bxby, bxbz⟩ := bxb_13.out
        obtain ⟨bgx, bgy⟩ := bg_13.out
        go_wp2_with fail
        refine (eqAbelianGroup_any _ _ _ _ _ _ ll w6.heap.size w3.heap.size _ (by omega) (by omega) Y6_13.out.ints Y3_13.out.ints hz).mono ?_
        rintro e w14 ⟨rfl, hb⟩
        clear aax aay aaz abx aby abz bwx bwy bxax bxay bxaz bxbx bxby bxbz bgx bgy
        have D14 := Lib.hid (hb)
        have s14 : w13.heap.size + 0 ≤ w14.heap.size := by have := hb.size; (try simp at this); omega
        have aa_14 := Lib.hid (aa_13.out.below D14.out (by omega))
        clear aa_13
        have ab_14 := Lib.hid (ab_13.out.below D14.out (by omega))
        clear ab_13
        have bw_14 := Lib.hid (bw_13.out.below D14.out (by omega))
        clear bw_13
        have bxa_14 := Lib.hid (bxa_13.out.below D14.out (by omega))
        clear bxa_13
        have bxb_14 := Lib.hid (bxb_13.out.below D14.out (by omega))
        clear bxb_13
        have bg_14 := Lib.hid (bg_13.out.below D14.out (by omega))
        clear bg_13
        have Y3_14 := Lib.hid (Y3_13.out.below D14.out (by omega))
        clear Y3_13
        have X4_14 := Lib.hid (X4_13.out.below D14.out (by omega))
        clear X4_13
        have X5_14 := Lib.hid (X5_13.out.below D14.out (by omega))
        clear X5_13
        have Y6_14 := Lib.hid (Y6_13.out.below D14.out (by omega))
        clear Y6_13
        have HB14 := Lib.hid (HB.out.trans (D14.out.mono (by omega)))
        clear HB
        have HB := HB14
        clear HB14 hb
        clear z_aa
        have z_aa : w.heap.size < w14.heap.size := by omega
        clear z_ab
        have z_ab : w.heap.size + 1 < w14.heap.size := by omega
        clear z_bw
        have z_bw : β3 < w14.heap.size := by omega
        clear z_bxa
        have z_bxa : w4.heap.size < w14.heap.size := by omega
        clear z_bxb
        have z_bxb : w5.heap.size < w14.heap.size := by omega
        clear z_bg
        have z_bg : w6.heap.size < w14.heap.size := by omega
        as_aux_lemma =>
          obtain ⟨aax, aay, aaz⟩ := aa_14.out
          obtain ⟨abx, aby, abz⟩ := ab_14.out
          obtain ⟨bwx, bwy⟩ := bw_14.out
          obtain ⟨bxax, bxay, bxaz⟩ := bxa_14.out
          obtain ⟨bxbx, bxby, bxbz⟩ := bxb_14.out
          obtain ⟨bgx, bgy⟩ := bg_14.out
          go_wp2_with fail
          refine (markAbelianGroup_any _ R6 ll.length t6 1 ll (w5.heap.size + 1) (w6.heap.size) _ Y6_14.out (by omega) hz (by omega) (by omega)).mono ?_
          rintro e w15 ⟨rfl, hown, hk⟩
          clear aax aay aaz abx aby abz bwx bwy bxax bxay bxaz bxbx bxby bxbz bgx bgy
          have Y6_15 := Lib.hid hown
          clear Y6_14 hown
          have D15 := Lib.hid hk
          have s15 : w14.heap.size ≤ w15.heap.size := hk.size
          have aa_15 := Lib.hid (aa_14.out.kept D15.out (by omega) (by omega))
          clear aa_14
          have ab_15 := Lib.hid (ab_14.out.kept D15.out (by omega) (by omega))
          clear ab_14
          have bw_15 := Lib.hid (bw_14.out.kept D15.out (by omega) (by omega))
          clear bw_14
          have bxa_15 := Lib.hid (bxa_14.out.kept D15.out (by omega) (by omega))
          clear bxa_14
          have bxb_15 := Lib.hid (bxb_14.out.kept D15.out (by omega) (by omega))
          clear bxb_14
          have bg_15 := Lib.hid (bg_14.out.kept D15.out (by omega) (by omega))
          clear bg_14
          have Y3_15 := Lib.hid (Y3_14.out.kept D15.out (by omega) (by omega))
          clear Y3_14
          have X4_15 := Lib.hid (X4_14.out.kept D15.out (by omega) (by omega))
          clear X4_14
          have X5_15 := Lib.hid (X5_14.out.kept D15.out (by omega) (by omega))
          clear X5_14
          have HB15 := Lib.hid (HB.out.trans (D15.out.below (by omega) (by omega)))
          clear HB
          have HB := HB15
          clear HB15 hk
          clear z_aa
          have z_aa : w.heap.size < w15.heap.size := by omega
          clear z_ab
          have z_ab : w.heap.size + 1 < w15.heap.size := by omega
          clear z_bw
          have z_bw : β3 < w15.heap.size := by omega
          clear z_bxa
          have z_bxa : w4.heap.size < w15.heap.size := by omega
          clear z_bxb
          have z_bxb : w5.heap.size < w15.heap.size := by omega
          clear z_bg
          have z_bg : w6.heap.size < w15.heap.size := by omega
          have tq : decide ((1 : Int) + (ll.length : Int) < 0) = false := by simp; omega
          obtain ⟨aax, aay, aaz⟩ := aa_15.out
          obtain ⟨abx, aby, abz⟩ := ab_15.out
          obtain ⟨bwx, bwy⟩ := bw_15.out
          obtain ⟨bxax, bxay, bxaz⟩ := bxa_15.out
          obtain ⟨bxbx, bxby, bxbz⟩ := bxb_15.out
          obtain ⟨bgx, bgy⟩ := bg_15.out
          go_wp2_with fail
          refine (heldAbelianGroup_any _ R6 ll.length t6 1 (w6.heap.size) _ Y6_15.out.ints (by omega) hz (by omega) (by omega)).mono ?_
          rintro e w16 ⟨rfl, hb⟩
          clear aax aay aaz abx aby abz bwx bwy bxax bxay bxaz bxbx bxby bxbz bgx bgy
          have D16 := Lib.hid (hb)
          have s16 : w15.heap.size + 0 ≤ w16.heap.size := by have := hb.size; (try simp at this); omega
          have aa_16 := Lib.hid (aa_15.out.below D16.out (by omega))
          clear aa_15
          have ab_16 := Lib.hid (ab_15.out.below D16.out (by omega))
          clear ab_15
          have bw_16 := Lib.hid (bw_15.out.below D16.out (by omega))
          clear bw_15
          have bxa_16 := Lib.hid (bxa_15.out.below D16.out (by omega))
          clear bxa_15
          have bxb_16 := Lib.hid (bxb_15.out.below D16.out (by omega))
          clear bxb_15
          have bg_16 := Lib.hid (bg_15.out.below D16.out (by omega))
          clear bg_15
          have Y3_16 := Lib.hid (Y3_15.out.below D16.out (by omega))
          clear Y3_15
          have X4_16 := Lib.hid (X4_15.out.below D16.out (by omega))
          clear X4_15
          have X5_16 := Lib.hid (X5_15.out.below D16.out (by omega))
          clear X5_15
          have Y6_16 := Lib.hid (Y6_15.out.below D16.out (by omega))
          clear Y6_15
          have HB16 := Lib.hid (HB.out.trans (D16.out.mono (by omega)))
          clear HB
          have HB := HB16
          clear HB16 hb
          clear z_aa
          have z_aa : w.heap.size < w16.heap.size := by omega
          clear z_ab
          have z_ab : w.heap.size + 1 < w16.heap.size := by omega
          clear z_bw
          have z_bw : β3 < w16.heap.size := by omega
          clear z_bxa
          have z_bxa : w4.heap.size < w16.heap.size := by omega
          clear z_bxb
          have z_bxb : w5.heap.size < w16.heap.size := by omega
          clear z_bg
          have z_bg : w6.heap.size < w16.heap.size := by omega
          as_aux_lemma =>
            obtain ⟨aax, aay, aaz⟩ := aa_16.out
            obtain ⟨abx, aby, abz⟩ := ab_16.out
            obtain ⟨bwx, bwy⟩ := bw_16.out
            obtain ⟨bxax, bxay, bxaz⟩ := bxa_16.out
            obtain ⟨bxbx, bxby, bxbz⟩ := bxb_16.out
            obtain ⟨bgx, bgy⟩ := bg_16.out
            go_upto_region 31 with fail
            go_cut [15, 16] (fun p x W => CutG w16 rk ll (.int .i64 code) p x W)
            case first =>
              go_region_held3 (fun W => (W.cell? ⟨w.heap.size, 0, none⟩ = some (.int .i64 ra) ∧ W.cell? ⟨w.heap.size, 1, none⟩ = some (.int .i64 qa) ∧ W.cell? ⟨w.heap.size, 2, none⟩ = some (.slice Aa na ca)) ∧ (W.cell? ⟨w.heap.size + 1, 0, none⟩ = some (.int .i64 rb) ∧ W.cell? ⟨w.heap.size + 1, 1, none⟩ = some (.int .i64 qb) ∧ W.cell? ⟨w.heap.size + 1, 2, none⟩ = some (.slice Ab nb cb))) (go_keep)
                (first
                  | (go_at_call 16; (with_reducible refine (toM_any ra qa Aa na ca za _ (by first | exact Ha.out.into HB.out.drew | exact Ha.out.into (HB.out.alloc (by omega) _).drew) hna).mono ?_); rintro e w6 ⟨g6, rfl, hk6, hg6, hb6⟩; (first | (have U6 : Hid (Below w16.heap.size w16 w6) := Lib.hid (undrew hb6); have z6 : w16.heap.size ≤ w6.heap.size := U6.out.size; (try have Zb := Lib.hid (Zb.out.below U6.out (by omega))); (try have Zf := Lib.hid (Zf.out.below U6.out (by omega)))) | (have U6 : Hid (Below w16.heap.size w16 w6) := Lib.hid (on1 _ (undrew hb6)); have z6 : w16.heap.size < w6.heap.size := (by have := (undrew hb6).size; simp at this; omega); have Zb := Lib.hid ((BoxG.new w16 54 (.int .i64 0) (.slice none 0 0)).below (undrew hb6) (by simp)); have Zf := Lib.hid ((Free.new w16 54 #[.int .i64 0, .slice none 0 0]).below (undrew hb6) (by simp)))); have K6 := Lib.hid hk6; obtain ⟨e0, e1, e2⟩ := aa_16.out.below U6.out (by omega); obtain ⟨e3, e4, e5⟩ := ab_16.out.below U6.out (by omega); have y6 : w.heap.size < w6.heap.size := (by omega); have y6' : w.heap.size + 1 < w6.heap.size := (by omega); (try obtain ⟨j0, j1⟩ := Zb.out); (try have jf := Zf.out); (try unfold Free at jf); clear hk6 hb6 hg6)
                  | (go_at_call 16; (with_reducible refine (toM_any rb qb Ab nb cb zb _ (by first | exact Hb.out.into (HB.out.trans (U6.out.mono (by omega))) | exact Hb.out.into ((HB.out.trans (U6.out.mono (by omega))).alloc (by omega) _)) hnb).mono ?_); rintro e w7 ⟨g7, rfl, hk7, hg7, hb7⟩; (first | (have U7 : Hid (Below w6.heap.size w6 w7) := Lib.hid hb7; have z7 : w6.heap.size ≤ w7.heap.size := U7.out.size; (try have Zb := Lib.hid (Zb.out.below U7.out (by omega))); (try have Zf := Lib.hid (Zf.out.below U7.out (by omega)))) | (have U7 : Hid (Below w6.heap.size w6 w7) := Lib.hid (on1 _ hb7); have z7 : w6.heap.size < w7.heap.size := (by have := hb7.size; simp at this; omega); have Zb := Lib.hid ((BoxG.new w6 54 (.int .i64 0) (.slice none 0 0)).below hb7 (by simp)); have Zf := Lib.hid ((Free.new w6 54 #[.int .i64 0, .slice none 0 0]).below hb7 (by simp)))); have K7 := Lib.hid hk7; obtain ⟨f0, f1, f2⟩ := (aa_16.out.below U6.out (by omega)).below U7.out (by omega); obtain ⟨f3, f4, f5⟩ := (ab_16.out.below U6.out (by omega)).below U7.out (by omega); have y7 : w.heap.size < w7.heap.size := (by omega); have y7' : w.heap.size + 1 < w7.heap.size := (by omega); (try clear j0 j1 jf); (try obtain ⟨j0, j1⟩ := Zb.out); (try have jf := Zf.out); (try unfold Free at jf); clear hk7 hb7 hg7)
                  | (go_at_call 49; (first | with_reducible refine (HI.out _ _ _ _ _ (by exact (((K6.out.ints hla.out).below U7.out).more U7.out.size)) (by exact (K7.out.ints hlb.out))).mono ?_ | with_reducible refine (HI.out _ _ _ _ _ (by exact (((K6.out.ints hla.out).below U7.out).more U7.out.size).into (al1 _ _)) (by exact (K7.out.ints hlb.out).into (al1 _ _))).mono ?_); rintro e w17 ⟨R17, t17, rfl, hown, hb8⟩; (first | (have U8 : Hid (Below w7.heap.size w7 w17) := Lib.hid hb8; have z8 : w7.heap.size ≤ w17.heap.size := U8.out.size; (try have Zb := Lib.hid (Zb.out.below U8.out (by omega))); (try have Zf := Lib.hid (Zf.out.below U8.out (by omega)))) | (have U8 : Hid (Below w7.heap.size w7 w17) := Lib.hid (on1 _ hb8); have z8 : w7.heap.size < w17.heap.size := (by have := hb8.size; simp at this; omega); have Zb := Lib.hid ((BoxG.new w7 54 (.int .i64 0) (.slice none 0 0)).below hb8 (by simp)); have Zf := Lib.hid ((Free.new w7 54 #[.int .i64 0, .slice none 0 0]).below hb8 (by simp)))); have O8 := Lib.hid hown; have y8 : w.heap.size < w17.heap.size := (by omega); have y8' : w.heap.size + 1 < w17.heap.size := (by omega); have x8 : ¬ w17.heap.size = w.heap.size := (by omega); have x8' : ¬ w17.heap.size = w.heap.size + 1 := (by omega); have xa : ¬ w16.heap.size = w.heap.size := (by omega); have xb : ¬ w16.heap.size = w.heap.size + 1 := (by omega); have xc : ¬ w6.heap.size = w.heap.size := (by omega); have xd : ¬ w6.heap.size = w.heap.size + 1 := (by omega); have xe : ¬ w7.heap.size = w.heap.size := (by omega); have xf : ¬ w7.heap.size = w.heap.size + 1 := (by omega); obtain ⟨m0, m1, m2⟩ := ((aa_16.out.below U6.out (by omega)).below U7.out (by omega)).below U8.out (by omega); obtain ⟨m3, m4, m5⟩ := ((ab_16.out.below U6.out (by omega)).below U7.out (by omega)).below U8.out (by omega); (try clear j0 j1 jf); (try obtain ⟨j0, j1⟩ := Zb.out); (try have jf := Zf.out); (try unfold Free at jf); clear hown hb8))
              all_goals
                have UU := (U6.out.trans (U7.out.mono (by omega))).trans (U8.out.mono (by omega))
                have UH := Lib.hid UU
                clear UU
                clear e0 e1 e2 e3 e4 e5 f0 f1 f2 f3 f4 f5 m0 m1 m2 m3 m4 m5
                go_wp2_with fail
                go_meet
                first
                  | exact CutG.new O8.out UH.out (by (try simp) <;> omega)
                  | exact CutG.old O8.out Zb.out UH.out (by omega) (by (try simp) <;> omega) (by omega)
            obtain ⟨β17, R17, t17, rfl, rfl, hbx, hlo, hhi, hown, hb⟩ := hcut
            obtain ⟨w17, rfl⟩ : ∃ W : World, W = wc := ⟨_, rfl⟩
            clear aax aay aaz abx aby abz bwx bwy bxax bxay bxaz bxbx bxby bxbz bgx bgy
            have Y17_17 := Lib.hid hown
            have bh_17 := Lib.hid hbx
            clear hown hbx
            have D17 := Lib.hid (hb)
            have s17 : w16.heap.size + 0 ≤ w17.heap.size := by have := hb.size; (try simp at this); omega
            have aa_17 := Lib.hid (aa_16.out.below D17.out (by omega))
            clear aa_16
            have ab_17 := Lib.hid (ab_16.out.below D17.out (by omega))
            clear ab_16
            have bw_17 := Lib.hid (bw_16.out.below D17.out (by omega))
            clear bw_16
            have bxa_17 := Lib.hid (bxa_16.out.below D17.out (by omega))
            clear bxa_16
            have bxb_17 := Lib.hid (bxb_16.out.below D17.out (by omega))
            clear bxb_16
            have bg_17 := Lib.hid (bg_16.out.below D17.out (by omega))
            clear bg_16
            have Y3_17 := Lib.hid (Y3_16.out.below D17.out (by omega))
            clear Y3_16
            have X4_17 := Lib.hid (X4_16.out.below D17.out (by omega))
            clear X4_16
            have X5_17 := Lib.hid (X5_16.out.below D17.out (by omega))
            clear X5_16
            have Y6_17 := Lib.hid (Y6_16.out.below D17.out (by omega))
            clear Y6_16
            have HB17 := Lib.hid (HB.out.trans (D17.out.mono (by omega)))
            clear HB
            have HB := HB17
            clear HB17 hb
            clear z_aa
            have z_aa : w.heap.size < w17.heap.size := by omega
            clear z_ab
            have z_ab : w.heap.size + 1 < w17.heap.size := by omega
            clear z_bw
            have z_bw : β3 < w17.heap.size := by omega
            clear z_bxa
            have z_bxa : w4.heap.size < w17.heap.size := by omega
            clear z_bxb
            have z_bxb : w5.heap.size < w17.heap.size := by omega
            clear z_bg
            have z_bg : w6.heap.size < w17.heap.size := by omega
            have z_bh : β17 < w17.heap.size := hhi
            as_aux_lemma =>
              obtain ⟨aax, aay, aaz⟩ := aa_17.out
              obtain ⟨abx, aby, abz⟩ := ab_17.out
              obtain ⟨bwx, bwy⟩ := bw_17.out
              obtain ⟨bxax, bxay, bxaz⟩ := bxa_17.out
              obtain ⟨bxbx, bxby, bxbz⟩ := bxb_17.out
              obtain ⟨bgx, bgy⟩ := bg_17.out
              obtain ⟨bhx, bhy⟩ := bh_17.out
              go_wp2_with fail
              refine (eqAbelianGroup_any _ _ _ _ _ _ ll w17.heap.size w3.heap.size _ (by omega) (by omega) Y17_17.out.ints Y3_17.out.ints hz).mono ?_
              rintro e w18 ⟨rfl, hb⟩
              clear aax aay aaz abx aby abz bwx bwy bxax bxay bxaz bxbx bxby bxbz bgx bgy bhx bhy
              have D18 := Lib.hid (hb)
              have s18 : w17.heap.size + 0 ≤ w18.heap.size := by have := hb.size; (try simp at this); omega
              have aa_18 := Lib.hid (aa_17.out.below D18.out (by omega))
              clear aa_17
              have ab_18 := Lib.hid (ab_17.out.below D18.out (by omega))
              clear ab_17
              have bw_18 := Lib.hid (bw_17.out.below D18.out (by omega))
              clear bw_17
              have bxa_18 := Lib.hid (bxa_17.out.below D18.out (by omega))
              clear bxa_17
              have bxb_18 := Lib.hid (bxb_17.out.below D18.out (by omega))
              clear bxb_17
              have bg_18 := Lib.hid (bg_17.out.below D18.out (by omega))
              clear bg_17
              have bh_18 := Lib.hid (bh_17.out.below D18.out (by omega))
              clear bh_17
              have Y3_18 := Lib.hid (Y3_17.out.below D18.out (by omega))
              clear Y3_17
              have X4_18 := Lib.hid (X4_17.out.below D18.out (by omega))
              clear X4_17
              have X5_18 := Lib.hid (X5_17.out.below D18.out (by omega))
              clear X5_17
              have Y6_18 := Lib.hid (Y6_17.out.below D18.out (by omega))
              clear Y6_17
              have Y17_18 := Lib.hid (Y17_17.out.below D18.out (by omega))
              clear Y17_17
              have HB18 := Lib.hid (HB.out.trans (D18.out.mono (by omega)))
              clear HB
              have HB := HB18
              clear HB18 hb
              clear z_aa
              have z_aa : w.heap.size < w18.heap.size := by omega
              clear z_ab
              have z_ab : w.heap.size + 1 < w18.heap.size := by omega
              clear z_bw
              have z_bw : β3 < w18.heap.size := by omega
              clear z_bxa
              have z_bxa : w4.heap.size < w18.heap.size := by omega
              clear z_bxb
              have z_bxb : w5.heap.size < w18.heap.size := by omega
              clear z_bg
              have z_bg : w6.heap.size < w18.heap.size := by omega
              clear z_bh
              have z_bh : β17 < w18.heap.size := by omega
              obtain ⟨aax, aay, aaz⟩ := aa_18.out
              obtain ⟨abx, aby, abz⟩ := ab_18.out
              obtain ⟨bwx, bwy⟩ := bw_18.out
              obtain ⟨bxax, bxay, bxaz⟩ := bxa_18.out
              obtain ⟨bxbx, bxby, bxbz⟩ := bxb_18.out
              obtain ⟨bgx, bgy⟩ := bg_18.out
              obtain ⟨bhx, bhy⟩ := bh_18.out
              go_wp2_with fail
              refine (heldAbelianGroup_any _ R6 ll.length t6 1 (w6.heap.size) _ Y6_18.out.ints (by omega) hz (by omega) (by omega)).mono ?_
              rintro e w19 ⟨rfl, hb⟩
              clear aax aay aaz abx aby abz bwx bwy bxax bxay bxaz bxbx bxby bxbz bgx bgy bhx bhy
              have D19 := Lib.hid (hb)
              have s19 : w18.heap.size + 0 ≤ w19.heap.size := by have := hb.size; (try simp at this); omega
              have aa_19 := Lib.hid (aa_18.out.below D19.out (by omega))
              clear aa_18
              have ab_19 := Lib.hid (ab_18.out.below D19.out (by omega))
              clear ab_18
              have bw_19 := Lib.hid (bw_18.out.below D19.out (by omega))
              clear bw_18
              have bxa_19 := Lib.hid (bxa_18.out.below D19.out (by omega))
              clear bxa_18
              have bxb_19 := Lib.hid (bxb_18.out.below D19.out (by omega))
              clear bxb_18
              have bg_19 := Lib.hid (bg_18.out.below D19.out (by omega))
              clear bg_18
              have bh_19 := Lib.hid (bh_18.out.below D19.out (by omega))
              clear bh_18
              have Y3_19 := Lib.hid (Y3_18.out.below D19.out (by omega))
              clear Y3_18
              have X4_19 := Lib.hid (X4_18.out.below D19.out (by omega))
              clear X4_18
              have X5_19 := Lib.hid (X5_18.out.below D19.out (by omega))
              clear X5_18
              have Y6_19 := Lib.hid (Y6_18.out.below D19.out (by omega))
              clear Y6_18
              have Y17_19 := Lib.hid (Y17_18.out.below D19.out (by omega))
              clear Y17_18
              have HB19 := Lib.hid (HB.out.trans (D19.out.mono (by omega)))
              clear HB
              have HB := HB19
              clear HB19 hb
              clear z_aa
              have z_aa : w.heap.size < w19.heap.size := by omega
              clear z_ab
              have z_ab : w.heap.size + 1 < w19.heap.size := by omega
              clear z_bw
              have z_bw : β3 < w19.heap.size := by omega
              clear z_bxa
              have z_bxa : w4.heap.size < w19.heap.size := by omega
              clear z_bxb
              have z_bxb : w5.heap.size < w19.heap.size := by omega
              clear z_bg
              have z_bg : w6.heap.size < w19.heap.size := by omega
              clear z_bh
              have z_bh : β17 < w19.heap.size := by omega
              go_wp2
              go_ret
              exact ⟨rfl, HB.out⟩

set_option maxHeartbeats 1000000 in
theorem bigHomA (r1 q1 r2 q2 : Int) (A1 A2 : Option Addr) (n1 c1 n2 c2 : Nat) (w : World) (hm : n1 ≤ maxLen) (hn : ¬ n1 ≤ 1048576) :
    Calls Try.prog 13 #[.agg #[.int .i64 r1, .int .i64 q1, .slice A1 n1 c1], .agg #[.int .i64 r2, .int .i64 q2, .slice A2 n2 c2]] w fun e w' => e = .returned (.bool true) ∧ Below w.heap.size w w' := by
  have hm' := hm
  unfold maxLen at hm'
  go_enter Try.func13, Try.ntmps13
  go_wp2_with fail
  refine (szM_any r1 q1 A1 n1 c1 _ _ hm (by omega) (by omega)).mono ?_
  rintro e w1 ⟨rfl, hb⟩
  rw [if_pos (by omega)]
  go_wp2
  go_ret
  exact ⟨rfl, on2 _ _ hb⟩

set_option maxHeartbeats 1000000 in
theorem bigHomB (r1 q1 r2 q2 : Int) (A1 A2 : Option Addr) (n1 c1 n2 c2 : Nat) (w : World) (hm : n1 ≤ maxLen) (hn : n1 ≤ 1048576) (hm2 : n2 ≤ maxLen) (hs : ¬ n1 + n2 ≤ 1048576) :
    Calls Try.prog 13 #[.agg #[.int .i64 r1, .int .i64 q1, .slice A1 n1 c1], .agg #[.int .i64 r2, .int .i64 q2, .slice A2 n2 c2]] w fun e w' => e = .returned (.bool true) ∧ Below w.heap.size w w' := by
  have hm' := hm2
  unfold maxLen at hm'
  have K2 := Lib.hid (Box3.new (w.alloc (Obj.cells #[.int .i64 r1, .int .i64 q1, .slice A1 n1 c1] 24)) 24 (.int .i64 r2) (.int .i64 q2) (.slice A2 n2 c2))
  go_enter Try.func13, Try.ntmps13
  go_wp2_with fail
  refine (szM_any r1 q1 A1 n1 c1 _ _ hm (by omega) (by omega)).mono ?_
  rintro e w1 ⟨rfl, hb⟩
  rw [if_neg (by omega)]
  have K2' := K2.out.below hb (by simp)
  have HB1 := Lib.hid (on2 _ _ hb)
  clear hb K2
  simp only [World.size_alloc] at K2'
  obtain ⟨l0, l1, l2⟩ := K2'
  go_wp2_with fail
  refine (szM_any r2 q2 A2 n2 c2 _ _ hm2 (by omega) (by omega)).mono ?_
  rintro e w2 ⟨rfl, hb⟩
  rw [if_pos (by omega)]
  go_wp2
  go_ret
  exact ⟨rfl, HB1.out.trans (hb.mono HB1.out.size)⟩

set_option maxHeartbeats 1000000 in
theorem rank_impl (r q : Int) (A : Option Addr) (n c : Nat) (l : List Int) (code : Int) (w : World) (hI : Calls Try.prog 37 #[.agg #[.int .i64 r, .int .i64 q, .slice A n c]] (w.alloc (Obj.cells #[.int .i64 r, .int .i64 q, .slice A n c] 27)) (ResL (w.alloc (Obj.cells #[.int .i64 r, .int .i64 q, .slice A n c] 27)) l code)) :
    Calls Try.prog 42 #[.agg #[.int .i64 r, .int .i64 q, .slice A n c]] w fun e w' => e = .returned (.tuple #[.int .i64 (l.length : Int), .int .i64 code]) ∧ Below w.heap.size w w' := by
  have H := Lib.hid hI
  clear hI
  go_enter Try.func42, Try.ntmps42
  go_wp2_with fail
  refine H.out.mono ?_
  rintro e w1 ⟨A2, c2, rfl, _, hb⟩
  go_wp2
  go_ret2
  exact ⟨rfl, on1 _ hb⟩

theorem allHomologyOf (r1 q1 : Int) (A1 : Option Addr) (n1 c1 : Nat) (zs : List Int) (r2 q2 : Int) (A2 : Option Addr) (n2 c2 : Nat) (ys : List Int) (w : World) (h1 : Ints w w.heap.size A1 n1 zs) (m1 : n1 ≤ maxLen) (h2 : Ints w w.heap.size A2 n2 ys) (m2 : n2 ≤ maxLen) :
    Calls Try.prog 13 #[.agg #[.int .i64 r1, .int .i64 q1, .slice A1 n1 c1], .agg #[.int .i64 r2, .int .i64 q2, .slice A2 n2 c2]] w fun e w' => e = .returned (.bool true) ∧ Below w.heap.size w w' := by
  by_cases hn : n1 ≤ 1048576
  case neg => exact bigHomA r1 q1 r2 q2 A1 A2 n1 c1 n2 c2 w m1 hn
  by_cases hs : n1 + n2 ≤ 1048576
  case neg => exact bigHomB r1 q1 r2 q2 A1 A2 n1 c1 n2 c2 w m1 hn m2 hs
  have hn2 : n2 ≤ 1048576 := by omega
  by_cases P1 : MOk r1 q1 zs
  case neg =>
    by_cases P2 : MOk r2 q2 ys
    · exact exactHomologyOf r1 q1 A1 n1 c1 zs r2 q2 A2 n2 c2 ys 0 [] 1 w h1 m1 h2 m2 (by simp) (fun W A c A' c' h h' => hom_spec_badA r1 q1 r2 q2 A A' n1 c n2 c' W zs ys h h' hn hn2 P1)
        (fun W A c A' c' h h' => hom_impl_mul r1 q1 r2 q2 A A' n1 c n2 c' W 1 (by decide) (mul_impl_badB r2 q2 r1 q1 A' A n2 c' n1 c ys zs _ (h'.into (al3 _ _ _ _)) (h.into (al3 _ _ _ _)) hn2 hn P2 P1)) hn hn2 hs
    · exact exactHomologyOf r1 q1 A1 n1 c1 zs r2 q2 A2 n2 c2 ys 0 [] 1 w h1 m1 h2 m2 (by simp) (fun W A c A' c' h h' => hom_spec_badA r1 q1 r2 q2 A A' n1 c n2 c' W zs ys h h' hn hn2 P1)
        (fun W A c A' c' h h' => hom_impl_mul r1 q1 r2 q2 A A' n1 c n2 c' W 1 (by decide) (mul_impl_badA r2 q2 r1 q1 A' A n2 c' n1 c ys zs _ (h'.into (al3 _ _ _ _)) (h.into (al3 _ _ _ _)) hn2 hn P2)) hn hn2 hs
  by_cases P2 : MOk r2 q2 ys
  case neg =>
    exact exactHomologyOf r1 q1 A1 n1 c1 zs r2 q2 A2 n2 c2 ys 0 [] 1 w h1 m1 h2 m2 (by simp) (fun W A c A' c' h h' => hom_spec_badB r1 q1 r2 q2 A A' n1 c n2 c' W zs ys h h' hn hn2 P1 P2)
        (fun W A c A' c' h h' => hom_impl_mul r1 q1 r2 q2 A A' n1 c n2 c' W 1 (by decide) (mul_impl_badA r2 q2 r1 q1 A' A n2 c' n1 c ys zs _ (h'.into (al3 _ _ _ _)) (h.into (al3 _ _ _ _)) hn2 hn P2)) hn hn2 hs
  by_cases hq : q2 = r1
  case neg =>
    exact exactHomologyOf r1 q1 A1 n1 c1 zs r2 q2 A2 n2 c2 ys 0 [] 2 w h1 m1 h2 m2 (by simp) (fun W A c A' c' h h' => hom_spec_unfit r1 q1 r2 q2 A A' n1 c n2 c' W zs ys h h' hn hn2 P1 P2 hq)
        (fun W A c A' c' h h' => hom_impl_mul r1 q1 r2 q2 A A' n1 c n2 c' W 2 (by decide) (mul_impl_unfit r2 q2 r1 q1 A' A n2 c' n1 c ys zs _ (h'.into (al3 _ _ _ _)) (h.into (al3 _ _ _ _)) hn2 hn P2 P1 hq)) hn hn2 hs
  subst hq
  obtain ⟨R1, rfl⟩ := Int.eq_ofNat_of_zero_le P1.1
  obtain ⟨C1, rfl⟩ := Int.eq_ofNat_of_zero_le P1.2.2.1
  obtain ⟨R2, rfl⟩ := Int.eq_ofNat_of_zero_le P2.1
  have hR1 : R1 ≤ 48 := by have := P1.2.1; omega
  have hC1 : C1 ≤ 48 := by have := P1.2.2.2.1; omega
  have hR2 : R2 ≤ 48 := by have := P2.2.1; omega
  have hz := rc_le hR2 hC1
  by_cases hf : Fits R1 C1 ys zs (R2 * C1)
  case neg =>
    exact exactHomologyOf R1 C1 A1 n1 c1 zs R2 R1 A2 n2 c2 ys 0 [] 3 w h1 m1 h2 m2 (by simp) (fun W A c A' c' h h' => hom_spec_large R1 C1 R2 A A' n1 c n2 c' W zs ys h h' hn hn2 hR1 hC1 hR2 P1 P2 hf)
        (fun W A c A' c' h h' => hom_impl_mul R1 C1 R2 R1 A A' n1 c n2 c' W 3 (by decide) ((mul_impl_yes R2 R1 C1 A' A n2 c' n1 c ys zs _ (h'.into (al3 _ _ _ _)) (h.into (al3 _ _ _ _)) hn2 hn hR2 hR1 hC1 P2 P1).mono fun e w' hh => hh.2 hf)) hn hn2 hs
  have hpl : (pl R1 C1 ys zs (R2 * C1) (R2 * C1)).length ≤ 2304 := by rw [pl_len]; omega
  have hM : ∀ (W : World) (A A' : Option Addr) (c c' : Nat), Ints W W.heap.size A n1 zs → Ints W W.heap.size A' n2 ys → Calls Try.prog 28 #[.agg #[.int .i64 R2, .int .i64 R1, .slice A' n2 c'], .agg #[.int .i64 R1, .int .i64 C1, .slice A n1 c]] W (ResM W R2 C1 (pl R1 C1 ys zs (R2 * C1) (R2 * C1)) (.int .i64 0)) :=
    fun W A A' c c' h h' => (mul_impl_yes R2 R1 C1 A' A n2 c' n1 c ys zs W h' h hn2 hn hR2 hR1 hC1 P2 P1).mono fun e w' hh => hh.1 hf
  by_cases hzero : ∀ i, i < (pl R1 C1 ys zs (R2 * C1) (R2 * C1)).length → (pl R1 C1 ys zs (R2 * C1) (R2 * C1)).getD i 0 = 0
  case neg =>
    exact exactHomologyOf R1 C1 A1 n1 c1 zs R2 R1 A2 n2 c2 ys 0 [] 5 w h1 m1 h2 m2 (by simp) (fun W A c A' c' h h' => hom_spec_state R1 C1 R2 A A' n1 c n2 c' W zs ys h h' hn hn2 hR1 hC1 hR2 P1 P2 hf hzero)
        (fun W A c A' c' h h' => hom_impl_state R1 C1 R2 R1 A A' n1 c n2 c' W R2 C1 _ hpl hzero (hM _ A A' c c' (h.into (al3 _ _ _ _)) (h'.into (al3 _ _ _ _)))) hn hn2 hs
  have e1 : n1 = R1 * C1 := by have h1' := P1.2.2.2.2.1; rw [h1.1, castM] at h1'; exact_mod_cast h1'
  have e2 : n2 = R2 * R1 := by have h1' := P2.2.2.2.2.1; rw [h2.1, castM] at h1'; exact_mod_cast h1'
  obtain ⟨o1, ho1, hg1⟩ := Sm.outcome_end (R := R1) (C := C1) (min R1 C1) 0 (start R1 C1 zs) (by omega) (by omega) (start_good P1) (start_ck _ _ _)
  have ho1' := ho1.two (min R1 C1) 0 (start R1 C1 zs) o1 (by omega) (by omega) (start_good P1) (start_ck _ _ _)
  obtain ⟨o2, ho2, hg2⟩ := Sm.outcome_end (R := R2) (C := R1) (min R2 R1) 0 (start R2 R1 ys) (by omega) (by omega) (start_good P2) (start_ck _ _ _)
  have ho2' := ho2.two (min R2 R1) 0 (start R2 R1 ys) o2 (by omega) (by omega) (start_good P2) (start_ck _ _ _)
  have hA : ∀ (W : World) (A : Option Addr) (c : Nat), Ints W W.heap.size A n1 zs → ∀ V : World, Below W.heap.size W V → Calls Try.prog 72 #[.agg #[.int .i64 R1, .int .i64 C1, .slice A n1 c]] V (ResF V (facOut R1 C1 o1).1 (facOut R1 C1 o1).2) :=
    fun W A c h V hb => factors_spec R1 C1 A n1 c zs o1 V (h.into hb) e1 hR1 hC1 P1 ho1 hg1
  have hB : ∀ (W : World) (A : Option Addr) (c : Nat), Ints W W.heap.size A n2 ys → ∀ V : World, Below W.heap.size W V → Calls Try.prog 72 #[.agg #[.int .i64 R2, .int .i64 R1, .slice A n2 c]] V (ResF V (facOut R2 R1 o2).1 (facOut R2 R1 o2).2) :=
    fun W A c h V hb => factors_spec R2 R1 A n2 c ys o2 V (h.into hb) e2 hR2 hR1 P2 ho2 hg2
  have hRK : ∀ (W : World) (A : Option Addr) (c : Nat), Ints W W.heap.size A n2 ys → ∀ V : World, Below W.heap.size W V → Calls Try.prog 42 #[.agg #[.int .i64 R2, .int .i64 R1, .slice A n2 c]] V fun e w' => e = .returned (.tuple #[.int .i64 ((invOut R2 R1 o2).1.length : Int), .int .i64 (invOut R2 R1 o2).2]) ∧ Below V.heap.size V w' :=
    fun W A c h V hb => rank_impl _ _ A n2 c _ _ V (inv_impl_yes R2 R1 A n2 c ys o2 _ ((h.into hb).into (al1 _ _)) hR2 hR1 P2 ho2' hg2)
  cases o1 with
  | none =>
    exact exactHomologyOf R1 C1 A1 n1 c1 zs R2 R1 A2 n2 c2 ys 0 [] 3 w h1 m1 h2 m2 (by simp) (fun W A c A' c' h h' => hom_spec_limit R1 C1 R2 A A' n1 c n2 c' W zs ys h h' hn hn2 hR1 hC1 hR2 P1 P2 hf hzero [] _ false _ (.inl rfl) (hA W A c h) (hB W A' c' h'))
        (fun W A c A' c' h h' => hom_impl_cok R1 C1 R2 R1 A A' n1 c n2 c' W R2 C1 _ hpl 3 (by decide) hzero (hM _ A A' c c' (h.into (al3 _ _ _ _)) (h'.into (al3 _ _ _ _))) (fun V hb => cok_impl_err _ _ A n1 c [] 3 V (inv_impl_yes R1 C1 A n1 c zs none _ ((h.into hb).into (al2 _ _ _)) hR1 hC1 P1 ho1' hg1) (by decide))) hn hn2 hs
  | some s1 =>
    have hl1 : (nz (diag C1 s1.d (min R1 C1))).length ≤ 48 := by have := nz_diag_len C1 s1.d (min R1 C1); omega
    have hCK : ∀ (W : World) (A : Option Addr) (c : Nat), Ints W W.heap.size A n1 zs → ∀ V : World, Below W.heap.size W V → Calls Try.prog 44 #[.agg #[.int .i64 R1, .int .i64 C1, .slice A n1 c]] V (ResGC V ((R1 : Int) - ((nz (diag C1 s1.d (min R1 C1))).length : Int)) (tors (nz (diag C1 s1.d (min R1 C1)))) 0) :=
      fun W A c h V hb => cok_impl_ok _ _ A n1 c (nz (diag C1 s1.d (min R1 C1))) V (inv_impl_yes R1 C1 A n1 c zs (some s1) _ ((h.into hb).into (al2 _ _ _)) hR1 hC1 P1 ho1' hg1) hl1 (by omega) (by omega)
    cases o2 with
    | none =>
      exact exactHomologyOf R1 C1 A1 n1 c1 zs R2 R1 A2 n2 c2 ys 0 [] 3 w h1 m1 h2 m2 (by simp) (fun W A c A' c' h h' => hom_spec_limit R1 C1 R2 A A' n1 c n2 c' W zs ys h h' hn hn2 hR1 hC1 hR2 P1 P2 hf hzero _ [] true false (.inr (by simp)) (hA W A c h) (hB W A' c' h'))
        (fun W A c A' c' h h' => hom_impl_rank R1 C1 R2 R1 A A' n1 c n2 c' W R2 C1 _ hpl _ _ _ 3 (by decide) hzero (hM _ A A' c c' (h.into (al3 _ _ _ _)) (h'.into (al3 _ _ _ _))) (hCK W A c h) (hRK W A' c' h')) hn hn2 hs
    | some s2 =>
      have hl2 : (nz (diag R1 s2.d (min R2 R1))).length ≤ 48 := by have := nz_diag_len R1 s2.d (min R2 R1); omega
      have ht := tors_len (nz (diag C1 s1.d (min R1 C1)))
      exact exactHomologyOf R1 C1 A1 n1 c1 zs R2 R1 A2 n2 c2 ys _ (tors (nz (diag C1 s1.d (min R1 C1)))) 0 w h1 m1 h2 m2 (by omega) (fun W A c A' c' h h' => hom_spec_ok R1 C1 R2 A A' n1 c n2 c' W zs ys h h' hn hn2 hR1 hC1 hR2 P1 P2 hf hzero _ _ hl1 hl2 (hA W A c h) (hB W A' c' h'))
        (fun W A c A' c' h h' => hom_impl_ok R1 C1 R2 R1 A A' n1 c n2 c' W R2 C1 _ hpl _ _ _ (by first | omega | (simp only [invOut]; omega)) (by first | omega | (simp only [invOut]; omega)) hzero (hM _ A A' c c' (h.into (al3 _ _ _ _)) (h'.into (al3 _ _ _ _))) (hCK W A c h) (hRK W A' c' h')) hn hn2 hs

set_option maxRecDepth 100000 in
theorem exactHomologyOf_lifted (os : Os) (started : os.Started) (H : Type) (enc : TypeId × Value → H) :
    ReturnsInHanded {} Try.checked os 13 .any (Rows.fnExactHomologyOfSpec.pre6 enc Try.prog Try.f13 Rows.fnExactHomologyOfRow.domain false) (Rows.fnExactHomologyOfSpec.post enc Try.prog Try.f13 false true false false) := by
  refine returnsInHanded_of_change (C := Try.checked) own started (by kernel_rfl) Try.func13
    (ChangeSpec.witness6 (enc := enc) (C := Try.checked) false ⟨#[], #[.agg #[.int .i64 0, .int .i64 0, .slice none 0 0], .agg #[.int .i64 0, .int .i64 0, .slice none 0 0]], []⟩ 8 (by kernel_rfl) (by kernel_rfl) (by kernel_rfl) (by kernel_rfl)) ?_
  intro W base args ds gs before hval0 hW _ _
  have hval : ∀ (j : Nat) t v, Try.f13.params[j]? = some t → args[j]? = some v → Value.okWide Try.prog W .any base t v := hval0
  have hW' := hW
  obtain ⟨p, q, hA0, hV, rfl, hfz, hnd⟩ := hW
  have hA : DataW.TrodAll enc Try.prog W 0 (fun _ => true) true Try.f13.params.toList args.toList ds p := hA0
  rw [Try.params13] at hA hval
  obtain ⟨v0, vs0, d0, ds0, p0, q0, hargs, rfl, rfl, h0, r0⟩ := trodAll_cons hA
  obtain ⟨v1, vs1, d1, ds1, p1, q1, rfl, rfl, rfl, h1, r1⟩ := trodAll_cons r0
  obtain ⟨rfl, rfl, rfl⟩ := trodAll_nil r1
  obtain rfl : args = #[v0, v1] := by cases args; simp_all
  obtain ⟨rfl, rfl⟩ := trodVars_none hV
  have k0 := h0
  have lt0 : ∀ x ∈ p0, x.block < W.heap.size := by obtain ⟨m, hm⟩ := k0; exact DataW.trod_lt m _ _ _ hm
  obtain ⟨ra0, qa0, A0, n0, c0, zs0, rfl, hi0, hm0, _, _⟩ := openM (hval 0 24 v0 rfl rfl) h0
  have k1 := h1
  have lt1 : ∀ x ∈ p1, x.block < W.heap.size := by obtain ⟨m, hm⟩ := k1; exact DataW.trod_lt m _ _ _ hm
  obtain ⟨ra1, qa1, A1, n1, c1, zs1, rfl, hi1, hm1, _, _⟩ := openM (hval 1 24 v1 rfl rfl) h1
  clear hA0 hval0
  refine (allHomologyOf ra0 qa0 A0 n0 c0 zs0 ra1 qa1 A1 n1 c1 zs1 W hi0 hm0 hi1 hm1).mono fun e W' ⟨he, bel⟩ => ?_
  subst he
  exact ⟨_, rfl, _, _, _, [], _, [], hW', trodAll_mk1 (shut_bool Try.underlying4 _), (trodAll_cons_mk (Below.trod laidOut (by kernel_rfl) (of_decide_eq_true (by kernel_rfl)) k0 bel lt0) (trodAll_cons_mk (Below.trod laidOut (by kernel_rfl) (of_decide_eq_true (by kernel_rfl)) k1 bel lt1) trodAll_mk0)), rfl, bel.frame _, fun h => by cases h⟩

theorem exactHomologyOf_holds : Rows.FnExactHomologyOfSaid :=
  OpenClaim.holds_of_wide 13 Try.f13 rfl rfl rfl rfl rfl rfl rfl ⟨rfl, rfl, rfl, rfl, rfl⟩ rfl rfl rfl rfl rfl (by kernel_rfl) Try.func13 (by kernel_rfl)
    (of_decide_eq_true (by kernel_rfl)) (by unfold Func.isWrapper; first | (rw [if_pos (by decide +kernel)]; kernel_rfl) | (rw [if_neg (by decide +kernel)]; exact ⟨rfl, rfl⟩))
    (fun os started H enc _ => exactHomologyOf_lifted os started H enc)

#print axioms exactHomologyOf_holds

end Go.Proofs.Ytdbljeglnhefmaa
