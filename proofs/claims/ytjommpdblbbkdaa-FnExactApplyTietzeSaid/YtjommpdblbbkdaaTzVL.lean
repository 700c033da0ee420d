/- The walk of the law FnExactApplyTietze, from contracts of both functions: it returns true and changes no memory that was there. No condition. -/
import Derived.Test.YtjommpdblbbkdaaLiftP
import Derived.Test.YtjommpdblbbkdaaLiftT
import Derived.Test.YtjommpdblbbkdaaMvA
import Derived.Test.YtjommpdblbbkdaaTzV
import Derived.Deep.RegionHeld3
namespace Go.Proofs.Ytjommpdblbbkdaa
open Go.ChangeShapes Go.WideShapes Go.ChangeAt Go.RowKit

theorem rows_of {rs qs : List Rw} (h : vals rs = vals qs) (hq : ∀ r ∈ qs, r.zs.length ≤ 1048576) : ∀ r ∈ rs, r.zs.length ≤ 1048576 := fun r hr => by
  have h1 : r.zs ∈ vals qs := by rw [← h]; exact List.mem_map_of_mem hr
  obtain ⟨q, hq1, hq2⟩ := List.mem_map.1 h1
  rw [← hq2]
  exact hq q hq1

theorem len_of_ {rs qs : List Rw} (h : vals rs = vals qs) : rs.length = qs.length := by rw [← vals_len, ← vals_len, h]
theorem sized_nil : Sized ([] : List (List Int)) := by unfold Sized; simp
theorem sized_isP {r : Int} {zss : List (List Int)} (h : Wd.isP r zss = true) : Sized zss := by
  obtain ⟨_, _, h48, hz⟩ := Wd.isP_iff.1 h
  have key : ∀ l : List (List Int), (∀ z ∈ l, z.length ≤ 120) → (l.map List.length).sum ≤ 120 * l.length := fun l => by
    induction l with
    | nil => intro _; simp
    | cons x l ih => intro hh; have h1 := hh x (List.mem_cons_self ..); have h2 := ih (fun z hz => hh z (List.mem_cons_of_mem _ hz)); simp; omega
  have := key zss (fun z hz' => (Wd.isW_fit (Wd.isR_iff.1 (hz z hz')).1).1)
  unfold Sized
  omega


/-- A presentation and a code behind a call, the presentation in its box. -/
def CutR (wj : World) (pr : Int) (pz : List (List Int)) (v p x : Value) (W : World) : Prop :=
  ∃ β R t rs, p = .pointer (some ⟨β, 0, none⟩) ∧ x = v ∧ BoxG W β (.int .i64 pr) (.slice R rs.length t) ∧ wj.heap.size ≤ β ∧ β < W.heap.size ∧ OwnS W wj.heap.size W.heap.size R t rs ∧ vals rs = pz ∧ Below wj.heap.size wj W
theorem CutR.new {wj W : World} {pr : Int} {pz : List (List Int)} {v : Value} {lo : Nat} {R : Option Addr} {t : Nat} {rs : List Rw} {T : TypeId} (ho : OwnS W lo W.heap.size R t rs) (hv : vals rs = pz) (hb : Below wj.heap.size wj W) (hl : wj.heap.size ≤ lo) :
    CutR wj pr pz v (.pointer (some ⟨W.heap.size, 0, none⟩)) v (W.alloc (Obj.cells #[.int .i64 pr, .slice R rs.length t] T)) :=
  ⟨W.heap.size, R, t, rs, rfl, rfl, BoxG.new _ _ _ _, hb.size, by simp, (ho.below (al1 _ _) (Nat.le_refl _)).wide hl (by simp), hv, hb.alloc hb.size _⟩
theorem CutR.old {wj W : World} {pr : Int} {pz : List (List Int)} {v : Value} {lo b : Nat} {R : Option Addr} {t : Nat} {rs : List Rw} {x y : Value} (ho : OwnS W lo W.heap.size R t rs) (hv : vals rs = pz) (hx : BoxG W b x y) (hb : Below wj.heap.size wj W) (hl : wj.heap.size ≤ b) (hlo : b < lo) (hh : b < W.heap.size) :
    CutR wj pr pz v (.pointer (some ⟨b, 0, none⟩)) v ((W.setCell ⟨b, 0, none⟩ (.int .i64 pr)).setCell ⟨b, 1, none⟩ (.slice R rs.length t)) :=
  ⟨b, R, t, rs, rfl, rfl, (hx.set0_).set1_, hl, by simpa [World.setCell] using hh, (((ho.far (p := ⟨b, 0, none⟩) (.inl hlo) _).far (p := ⟨b, 1, none⟩) (.inl hlo) _).wide (by omega) (by simp [World.setCell])), hv, (hb.setCell hl _).setCell hl _⟩

set_option maxRecDepth 100000 in
set_option maxHeartbeats 16000000 in
theorem exactApplyTietze (ra : Int) (Aa : Option Addr) (ca : Nat) (rsa : List Rw) (K I J : Int) (Aw : Option Addr) (nw cw : Nat) (zw : List Int) (pr : Int) (pz : List (List Int)) (code : Int) (w : World) (ha : RdS w w.heap.size Aa rsa) (hw : Ints w w.heap.size Aw nw zw) (hna : rsa.length + tot rsa + nw ≤ 1048576) (hz : Sized pz)
    (hs : ∀ (W : World) (A A2 : Option Addr) (c c2 : Nat) (rs : List Rw), RdS W W.heap.size A rs → vals rs = vals rsa → Ints W W.heap.size A2 nw zw → Calls Try.prog 10 #[.agg #[.int .i64 ra, .slice A rs.length c], .agg #[.int .i64 K, .int .i64 I, .int .i64 J, .slice A2 nw c2]] W (ResP W pr pz code))
    (hi : ∀ (W : World) (A A2 : Option Addr) (c c2 : Nat) (rs : List Rw), RdS W W.heap.size A rs → vals rs = vals rsa → Ints W W.heap.size A2 nw zw → Calls Try.prog 16 #[.agg #[.int .i64 ra, .slice A rs.length c], .agg #[.int .i64 K, .int .i64 I, .int .i64 J, .slice A2 nw c2]] W (ResP W pr pz code)) :
    Calls Try.prog 4 #[.agg #[.int .i64 ra, .slice Aa rsa.length ca], .agg #[.int .i64 K, .int .i64 I, .int .i64 J, .slice Aw nw cw]] w fun e w' => e = .returned (.bool true) ∧ Below w.heap.size w w' := by
  have HS := Lib.hid hs
  have HI := Lib.hid hi
  clear hs hi
  have HB := Lib.hid (Below.refl w.heap.size w)
  have Ha := Lib.hid ha
  have Hw := Lib.hid hw
  have hlw := Lib.hid hw.1
  clear ha hw
  have hnl : rsa.length ≤ 1048576 := by omega
  have hml : rsa.length ≤ maxLen := Nat.le_trans hnl (by unfold maxLen; omega)
  have hnw : nw ≤ 1048576 := by omega
  have hmw : nw ≤ maxLen := Nat.le_trans hnw (by unfold maxLen; omega)
  have ROW := Lib.hid (show ∀ r ∈ rsa, r.zs.length ≤ 1048576 from fun r hr => by have := row_le_tot hr; omega)
  have HZ := Lib.hid hz
  clear hz
  have tl0 : decide ((1048576 : Int) - (rsa.length : Int) - (tot rsa : Int) < 0) = false := by simp; omega
  have tl1 : decide ((1048576 : Int) - (rsa.length : Int) - (tot rsa : Int) - (nw : Int) < 0) = false := by simp; omega
  obtain ⟨V, hV⟩ : ∃ V, V = ((w.alloc (Obj.cells #[.int .i64 ra, .slice Aa rsa.length ca] 38)).alloc (Obj.cells #[.int .i64 K, .int .i64 I, .int .i64 J, .slice Aw nw cw] 39)) := ⟨_, rfl⟩
  have sV : w.heap.size + 1 < V.heap.size := by rw [hV]; simp
  have ba_0 := Lib.hid (show BoxG V w.heap.size (.int .i64 ra) (.slice Aa rsa.length ca) from by rw [hV]; exact (BoxG.new w _ _ _).below (al1 _ _) (by simp))
  have bm_0 := Lib.hid (show BoxT V (w.heap.size + 1) (.int .i64 K) (.int .i64 I) (.int .i64 J) (.slice Aw nw cw) from by rw [hV]; simpa using BoxT.new (w.alloc (Obj.cells #[.int .i64 ra, .slice Aa rsa.length ca] 38)) 39 (.int .i64 K) (.int .i64 I) (.int .i64 J) (.slice Aw nw cw))
  have HBV := Lib.hid (show Below w.heap.size w V from by rw [hV]; exact al2 _ _ _)
  clear HB
  have HB := HBV
  clear HBV
  go_enter Try.func4, Try.ntmps4
  have vz0 : w.heap.size < V.heap.size := by omega
  go_upto_region 2 with fail
  rw [← hV]
  clear hV
  obtain ⟨qba0, qba1⟩ := ba_0.out
  obtain ⟨qbm0, qbm1, qbm2, qbm3⟩ := bm_0.out
  go_wp2_with fail
  refine (szP_any ra Aa ca rsa _ _ (Ha.out.into HB.out) hml (by omega) (by omega)).mono ?_
  rintro e w1 ⟨rfl, hb⟩
  rw [if_neg (by omega)]
  clear qba0 qba1 qbm0 qbm1 qbm2 qbm3
  have D1 := Lib.hid (hb)
  have s1 : V.heap.size + 0 ≤ w1.heap.size := by have := hb.size; (try simp at this); omega
  have ba_1 := Lib.hid (ba_0.out.below D1.out (by omega))
  clear ba_0
  have bm_1 := Lib.hid (bm_0.out.below D1.out (by omega))
  clear bm_0
  have HB1 := Lib.hid (HB.out.trans (D1.out.mono (by omega)))
  clear HB
  have HB := HB1
  clear HB1 hb
  have z_ba : w.heap.size < w1.heap.size := by omega
  have z_bm : (w.heap.size + 1) < w1.heap.size := by omega
  obtain ⟨qba0, qba1⟩ := ba_1.out
  obtain ⟨qbm0, qbm1, qbm2, qbm3⟩ := bm_1.out
  go_wp2_with fail
  refine (szM_any K I J Aw nw cw _ _ hmw (by omega) (by omega)).mono ?_
  rintro e w2 ⟨rfl, hb⟩
  rw [if_neg (by omega)]
  clear qba0 qba1 qbm0 qbm1 qbm2 qbm3
  have D2 := Lib.hid (hb)
  have s2 : w1.heap.size + 0 ≤ w2.heap.size := by have := hb.size; (try simp at this); omega
  have ba_2 := Lib.hid (ba_1.out.below D2.out (by omega))
  clear ba_1
  have bm_2 := Lib.hid (bm_1.out.below D2.out (by omega))
  clear bm_1
  have HB2 := Lib.hid (HB.out.trans (D2.out.mono (by omega)))
  clear HB
  have HB := HB2
  clear HB2 hb
  clear z_ba
  have z_ba : w.heap.size < w2.heap.size := by omega
  clear z_bm
  have z_bm : (w.heap.size + 1) < w2.heap.size := by omega
  obtain ⟨qba0, qba1⟩ := ba_2.out
  obtain ⟨qbm0, qbm1, qbm2, qbm3⟩ := bm_2.out
  go_upto_region 8 with fail
  go_cut [6, 7] (fun p x W => CutR w2 pr pz (.int .i64 code) p x W)
  case first =>
    go_region_held3 (fun W => (W.cell? ⟨w.heap.size, 0, none⟩ = some (.int .i64 ra)) ∧ (W.cell? ⟨w.heap.size, 1, none⟩ = some (.slice Aa rsa.length ca)) ∧ (W.cell? ⟨(w.heap.size + 1), 0, none⟩ = some (.int .i64 K)) ∧ (W.cell? ⟨(w.heap.size + 1), 1, none⟩ = some (.int .i64 I)) ∧ (W.cell? ⟨(w.heap.size + 1), 2, none⟩ = some (.int .i64 J)) ∧ (W.cell? ⟨(w.heap.size + 1), 3, none⟩ = some (.slice Aw nw cw))) (go_keep)
      (first
        | (go_at_call 14; (with_reducible refine (toP_any ra Aa ca rsa _ (by first | exact Ha.out.into HB.out.drew | exact Ha.out.into (HB.out.alloc (by omega) _).drew) hnl ROW.out).mono ?_); rintro e w6 ⟨g6, c6, rs6, rfl, hk6, hv6, hb6⟩; (first | (have U6 : Hid (Below w2.heap.size w2 w6) := Lib.hid (undrew hb6); have z6 : w2.heap.size ≤ w6.heap.size := U6.out.size; (try have Zb := Lib.hid (Zb.out.below U6.out (by omega))); (try have Zf := Lib.hid (Zf.out.below U6.out (by omega)))) | (have U6 : Hid (Below w2.heap.size w2 w6) := Lib.hid (on1 _ (undrew hb6)); have z6 : w2.heap.size < w6.heap.size := (by have := (undrew hb6).size; simp at this; omega); have Zb := Lib.hid ((BoxG.new w2 26 (.int .i64 0) (.slice none 0 0)).below (undrew hb6) (by simp)); have Zf := Lib.hid ((Free.new w2 26 #[.int .i64 0, .slice none 0 0]).below (undrew hb6) (by simp)))); have K6 := Lib.hid hk6; have V6 := Lib.hid hv6; obtain ⟨e0, e1⟩ := ba_2.out.below U6.out (by omega); obtain ⟨e2, e3, e4, e5⟩ := bm_2.out.below U6.out (by omega); have y6 : w.heap.size < w6.heap.size := (by omega); have y6_ : (w.heap.size + 1) < w6.heap.size := (by omega); (try clear j0 j1 jf); (try obtain ⟨j0, j1⟩ := Zb.out); (try have jf := Zf.out); (try unfold Free at jf); clear hk6 hv6 hb6)
        | (go_at_call 15; (with_reducible refine (toM_any K I J Aw nw cw zw _ (by first | exact Hw.out.into (HB.out.trans (U6.out.mono (by omega))) | exact Hw.out.into ((HB.out.trans (U6.out.mono (by omega))).alloc (by omega) _)) hnw).mono ?_); rintro e w7 ⟨g7, rfl, hk7, hg7, hb7⟩; (first | (have U7 : Hid (Below w6.heap.size w6 w7) := Lib.hid hb7; have z7 : w6.heap.size ≤ w7.heap.size := U7.out.size; (try have Zb := Lib.hid (Zb.out.below U7.out (by omega))); (try have Zf := Lib.hid (Zf.out.below U7.out (by omega)))) | (have U7 : Hid (Below w6.heap.size w6 w7) := Lib.hid (on1 _ hb7); have z7 : w6.heap.size < w7.heap.size := (by have := hb7.size; simp at this; omega); have Zb := Lib.hid ((BoxG.new w6 26 (.int .i64 0) (.slice none 0 0)).below hb7 (by simp)); have Zf := Lib.hid ((Free.new w6 26 #[.int .i64 0, .slice none 0 0]).below hb7 (by simp)))); have K7 := Lib.hid hk7; obtain ⟨f0, f1⟩ := (ba_2.out.below U6.out (by omega)).below U7.out (by omega); obtain ⟨f2, f3, f4, f5⟩ := (bm_2.out.below U6.out (by omega)).below U7.out (by omega); have y7 : w.heap.size < w7.heap.size := (by omega); have y7_ : (w.heap.size + 1) < w7.heap.size := (by omega); (try clear j0 j1 jf); (try obtain ⟨j0, j1⟩ := Zb.out); (try have jf := Zf.out); (try unfold Free at jf); clear hk7 hb7 hg7)
        | (go_at_call 10; (first | with_reducible refine (HS.out _ _ _ _ _ _ (by exact (((K6.out.rd).below U7.out).more U7.out.size)) V6.out (by exact (K7.out.ints hlw.out))).mono ?_ | with_reducible refine (HS.out _ _ _ _ _ _ (by exact (((K6.out.rd).below U7.out).more U7.out.size).into (al1 _ _)) V6.out (by exact (K7.out.ints hlw.out).into (al1 _ _))).mono ?_); rintro e w3 ⟨R3, t3, rs3, rfl, hown, hv8, hb8⟩; (first | (have U8 : Hid (Below w7.heap.size w7 w3) := Lib.hid hb8; have z8 : w7.heap.size ≤ w3.heap.size := U8.out.size; (try have Zb := Lib.hid (Zb.out.below U8.out (by omega))); (try have Zf := Lib.hid (Zf.out.below U8.out (by omega)))) | (have U8 : Hid (Below w7.heap.size w7 w3) := Lib.hid (on1 _ hb8); have z8 : w7.heap.size < w3.heap.size := (by have := hb8.size; simp at this; omega); have Zb := Lib.hid ((BoxG.new w7 26 (.int .i64 0) (.slice none 0 0)).below hb8 (by simp)); have Zf := Lib.hid ((Free.new w7 26 #[.int .i64 0, .slice none 0 0]).below hb8 (by simp)))); have O8 := Lib.hid hown; have W8 := Lib.hid hv8; have y8 : w.heap.size < w3.heap.size := (by omega); have y8_ : (w.heap.size + 1) < w3.heap.size := (by omega); have x8 : ¬ w3.heap.size = w.heap.size := (by omega); have x8_ : ¬ w3.heap.size = (w.heap.size + 1) := (by omega); have xa : ¬ w2.heap.size = w.heap.size := (by omega); have xb : ¬ w2.heap.size = (w.heap.size + 1) := (by omega); have xc : ¬ w6.heap.size = w.heap.size := (by omega); have xd : ¬ w6.heap.size = (w.heap.size + 1) := (by omega); have xe : ¬ w7.heap.size = w.heap.size := (by omega); have xf : ¬ w7.heap.size = (w.heap.size + 1) := (by omega); obtain ⟨m0, m1⟩ := ((ba_2.out.below U6.out (by omega)).below U7.out (by omega)).below U8.out (by omega); obtain ⟨m2, m3, m4, m5⟩ := ((bm_2.out.below U6.out (by omega)).below U7.out (by omega)).below U8.out (by omega); (try clear j0 j1 jf); (try obtain ⟨j0, j1⟩ := Zb.out); (try have jf := Zf.out); (try unfold Free at jf); clear hown hv8 hb8))
    all_goals
      have UU := (U6.out.trans (U7.out.mono (by omega))).trans (U8.out.mono (by omega))
      have UH := Lib.hid UU
      clear UU
      clear e0 e1 e2 e3 e4 e5 f0 f1 f2 f3 f4 f5 m0 m1 m2 m3 m4 m5
      go_wp2_with fail
      go_meet
      first
        | exact CutR.new O8.out W8.out UH.out (by (try simp) <;> omega)
        | exact CutR.old O8.out W8.out Zb.out UH.out (by omega) (by (try simp) <;> omega) (by omega)
  obtain ⟨β3, R3, t3, rs3, rfl, rfl, hbx, hlo, hhi, hown, hv, hb⟩ := hcut
  obtain ⟨w3, rfl⟩ : ∃ W : World, W = wc := ⟨_, rfl⟩
  clear qba0 qba1 qbm0 qbm1 qbm2 qbm3
  have Y3_3 := Lib.hid hown
  have bw_3 := Lib.hid hbx
  have V3 := Lib.hid hv
  clear hown hbx hv
  have ht3 := HZ.out.tot V3.out
  have D3 := Lib.hid (hb)
  have s3 : w2.heap.size + 0 ≤ w3.heap.size := by have := hb.size; (try simp at this); omega
  have ba_3 := Lib.hid (ba_2.out.below D3.out (by omega))
  clear ba_2
  have bm_3 := Lib.hid (bm_2.out.below D3.out (by omega))
  clear bm_2
  have HB3 := Lib.hid (HB.out.trans (D3.out.mono (by omega)))
  clear HB
  have HB := HB3
  clear HB3 hb
  clear z_ba
  have z_ba : w.heap.size < w3.heap.size := by omega
  clear z_bm
  have z_bm : (w.heap.size + 1) < w3.heap.size := by omega
  have z_bw : β3 < w3.heap.size := hhi
  as_aux_lemma =>
    obtain ⟨qba0, qba1⟩ := ba_3.out
    obtain ⟨qbm0, qbm1, qbm2, qbm3⟩ := bm_3.out
    obtain ⟨qbw0, qbw1⟩ := bw_3.out
    go_wp2_with fail
    refine (toP_any ra Aa ca rsa _ (Ha.out.into HB.out) hnl ROW.out).mono ?_
    rintro e w4 ⟨g4, c4, rs4, rfl, hk, hv, hb⟩
    clear qba0 qba1 qbm0 qbm1 qbm2 qbm3 qbw0 qbw1
    have X4_4 := Lib.hid (hk.wide (lo' := w3.heap.size) (hi' := w4.heap.size) (by simp) (Nat.le_refl _))
    have V4 := Lib.hid hv
    clear hk hv
    have D4 := Lib.hid (hb)
    have s4 : w3.heap.size + 0 ≤ w4.heap.size := by have := hb.size; (try simp at this); omega
    have ba_4 := Lib.hid (ba_3.out.below D4.out (by omega))
    clear ba_3
    have bm_4 := Lib.hid (bm_3.out.below D4.out (by omega))
    clear bm_3
    have bw_4 := Lib.hid (bw_3.out.below D4.out (by omega))
    clear bw_3
    have Y3_4 := Lib.hid (Y3_3.out.below D4.out (by omega))
    clear Y3_3
    have HB4 := Lib.hid (HB.out.trans (D4.out.mono (by omega)))
    clear HB
    have HB := HB4
    clear HB4 hb
    clear z_ba
    have z_ba : w.heap.size < w4.heap.size := by omega
    clear z_bm
    have z_bm : (w.heap.size + 1) < w4.heap.size := by omega
    clear z_bw
    have z_bw : β3 < w4.heap.size := by omega
    obtain ⟨qba0, qba1⟩ := ba_4.out
    obtain ⟨qbm0, qbm1, qbm2, qbm3⟩ := bm_4.out
    obtain ⟨qbw0, qbw1⟩ := bw_4.out
    go_wp2_with fail
    refine (toM_any K I J Aw nw cw zw _ (Hw.out.into (HB.out.trans ((al1 _ _).mono (by omega)))) hnw).mono ?_
    rintro e w5 ⟨g5, rfl, hk, hg, hb⟩
    clear qba0 qba1 qbm0 qbm1 qbm2 qbm3 qbw0 qbw1
    have X5_5 := Lib.hid (Own.of_blk (lo := w4.heap.size + 1) (hi := w5.heap.size) hk (by simpa using hg) hk.lt hlw.out hmw)
    clear hk hg
    have D5 := Lib.hid (on1 _ hb)
    have s5 : w4.heap.size + 1 ≤ w5.heap.size := by have := hb.size; (try simp at this); omega
    have ba_5 := Lib.hid (ba_4.out.below D5.out (by omega))
    clear ba_4
    have bm_5 := Lib.hid (bm_4.out.below D5.out (by omega))
    clear bm_4
    have bw_5 := Lib.hid (bw_4.out.below D5.out (by omega))
    clear bw_4
    have bx_5 := Lib.hid ((BoxG.new w4 26 (.int .i64 ra) (.slice (some ⟨g4, 0, none⟩) rs4.length c4)).below hb (by simp))
    have Y3_5 := Lib.hid (Y3_4.out.below D5.out (by omega))
    clear Y3_4
    have X4_5 := Lib.hid (X4_4.out.below D5.out (by omega))
    clear X4_4
    have HB5 := Lib.hid (HB.out.trans (D5.out.mono (by omega)))
    clear HB
    have HB := HB5
    clear HB5 hb
    clear z_ba
    have z_ba : w.heap.size < w5.heap.size := by omega
    clear z_bm
    have z_bm : (w.heap.size + 1) < w5.heap.size := by omega
    clear z_bw
    have z_bw : β3 < w5.heap.size := by omega
    have z_bx : w4.heap.size < w5.heap.size := by omega
    as_aux_lemma =>
      obtain ⟨qba0, qba1⟩ := ba_5.out
      obtain ⟨qbm0, qbm1, qbm2, qbm3⟩ := bm_5.out
      obtain ⟨qbw0, qbw1⟩ := bw_5.out
      obtain ⟨qbx0, qbx1⟩ := bx_5.out
      go_wp2_with fail
      refine (HI.out _ _ _ _ _ _ ((X4_5.out.al (by omega) (al1 _ _)).rd.more (by (try simp) <;> omega)) V4.out ((X5_5.out.al (by omega) (al1 _ _)).ints.more (by (try simp) <;> omega))).mono ?_
      rintro e w6 ⟨R6, t6, rs6, rfl, hown, hv, hb⟩
      clear qba0 qba1 qbm0 qbm1 qbm2 qbm3 qbw0 qbw1 qbx0 qbx1
      have Y6_6 := Lib.hid (hown.wide (lo' := w5.heap.size + 1) (hi' := w6.heap.size) (by simp) (Nat.le_refl _))
      have V6 := Lib.hid hv
      clear hown hv
      have ht6 := HZ.out.tot V6.out
      have D6 := Lib.hid (on1 _ hb)
      have s6 : w5.heap.size + 1 ≤ w6.heap.size := by have := hb.size; (try simp at this); omega
      have ba_6 := Lib.hid (ba_5.out.below D6.out (by omega))
      clear ba_5
      have bm_6 := Lib.hid (bm_5.out.below D6.out (by omega))
      clear bm_5
      have bw_6 := Lib.hid (bw_5.out.below D6.out (by omega))
      clear bw_5
      have bx_6 := Lib.hid (bx_5.out.below D6.out (by omega))
      clear bx_5
      have bn_6 := Lib.hid ((BoxT.new w5 36 (.int .i64 K) (.int .i64 I) (.int .i64 J) (.slice (some ⟨g5, 0, none⟩) nw nw)).below hb (by simp))
      have Y3_6 := Lib.hid (Y3_5.out.below D6.out (by omega))
      clear Y3_5
      have X4_6 := Lib.hid (X4_5.out.below D6.out (by omega))
      clear X4_5
      have X5_6 := Lib.hid (X5_5.out.below D6.out (by omega))
      clear X5_5
      have HB6 := Lib.hid (HB.out.trans (D6.out.mono (by omega)))
      clear HB
      have HB := HB6
      clear HB6 hb
      clear z_ba
      have z_ba : w.heap.size < w6.heap.size := by omega
      clear z_bm
      have z_bm : (w.heap.size + 1) < w6.heap.size := by omega
      clear z_bw
      have z_bw : β3 < w6.heap.size := by omega
      clear z_bx
      have z_bx : w4.heap.size < w6.heap.size := by omega
      have z_bn : w5.heap.size < w6.heap.size := by omega
      obtain ⟨qba0, qba1⟩ := ba_6.out
      obtain ⟨qbm0, qbm1, qbm2, qbm3⟩ := bm_6.out
      obtain ⟨qbw0, qbw1⟩ := bw_6.out
      obtain ⟨qbx0, qbx1⟩ := bx_6.out
      obtain ⟨qbn0, qbn1, qbn2, qbn3⟩ := bn_6.out
      go_wp2_with fail
      refine (eqP_any pr _ _ _ _ rs6 rs3 (w6.heap.size) (w3.heap.size) _ (Y6_6.out.al (by omega) (al1 _ _)).rd (Y3_6.out.al (by omega) (al1 _ _)).rd (V6.out.trans V3.out.symm) (by (try simp) <;> omega) (by (try simp) <;> omega) (by omega) (HZ.out.row V6.out)).mono ?_
      rintro e w7 ⟨rfl, hb⟩
      clear qba0 qba1 qbm0 qbm1 qbm2 qbm3 qbw0 qbw1 qbx0 qbx1 qbn0 qbn1 qbn2 qbn3
      have D7 := Lib.hid (on1 _ hb)
      have s7 : w6.heap.size + 1 ≤ w7.heap.size := by have := hb.size; (try simp at this); omega
      have ba_7 := Lib.hid (ba_6.out.below D7.out (by omega))
      clear ba_6
      have bm_7 := Lib.hid (bm_6.out.below D7.out (by omega))
      clear bm_6
      have bw_7 := Lib.hid (bw_6.out.below D7.out (by omega))
      clear bw_6
      have bx_7 := Lib.hid (bx_6.out.below D7.out (by omega))
      clear bx_6
      have bn_7 := Lib.hid (bn_6.out.below D7.out (by omega))
      clear bn_6
      have bg_7 := Lib.hid ((BoxG.new w6 26 (.int .i64 pr) (.slice R6 rs6.length t6)).below hb (by simp))
      have Y3_7 := Lib.hid (Y3_6.out.below D7.out (by omega))
      clear Y3_6
      have X4_7 := Lib.hid (X4_6.out.below D7.out (by omega))
      clear X4_6
      have X5_7 := Lib.hid (X5_6.out.below D7.out (by omega))
      clear X5_6
      have Y6_7 := Lib.hid (Y6_6.out.below D7.out (by omega))
      clear Y6_6
      have HB7 := Lib.hid (HB.out.trans (D7.out.mono (by omega)))
      clear HB
      have HB := HB7
      clear HB7 hb
      clear z_ba
      have z_ba : w.heap.size < w7.heap.size := by omega
      clear z_bm
      have z_bm : (w.heap.size + 1) < w7.heap.size := by omega
      clear z_bw
      have z_bw : β3 < w7.heap.size := by omega
      clear z_bx
      have z_bx : w4.heap.size < w7.heap.size := by omega
      clear z_bn
      have z_bn : w5.heap.size < w7.heap.size := by omega
      have z_bg : w6.heap.size < w7.heap.size := by omega
      as_aux_lemma =>
        obtain ⟨qba0, qba1⟩ := ba_7.out
        obtain ⟨qbm0, qbm1, qbm2, qbm3⟩ := bm_7.out
        obtain ⟨qbw0, qbw1⟩ := bw_7.out
        obtain ⟨qbx0, qbx1⟩ := bx_7.out
        obtain ⟨qbn0, qbn1, qbn2, qbn3⟩ := bn_7.out
        obtain ⟨qbg0, qbg1⟩ := bg_7.out
        go_wp2_with fail
        go_region_held3 (fun W => (W.cell? ⟨w4.heap.size, 0, none⟩ = some (.int .i64 ra) ∧ W.cell? ⟨w4.heap.size, 1, none⟩ = some (.slice (some ⟨g4, 0, none⟩) rs4.length c4)) ∧ (W.cell? ⟨w.heap.size, 0, none⟩ = some (.int .i64 ra) ∧ W.cell? ⟨w.heap.size, 1, none⟩ = some (.slice Aa rsa.length ca))) (go_keep)
          (first
            | (go_at_call 14; (with_reducible refine (toP_any ra Aa ca rsa _ (by exact Ha.out.into HB.out.drew) hnl ROW.out).mono ?_); rintro e w8 ⟨g8, c8, rs8, rfl, hk6, hv6, hb6'⟩; have hb6 := undrew hb6'; have K6 := Lib.hid hk6; have B6 := Lib.hid hb6; have V6 := Lib.hid hv6; have z6 := hb6.size; obtain ⟨e0, e1⟩ := bx_7.out.below hb6 (by omega); obtain ⟨f0, f1⟩ := ba_7.out.below hb6 (by omega); clear hk6 hv6 hb6 hb6')
            | (go_at_call 17; (with_reducible refine (eqP_any ra _ _ _ _ rs4 _ w4.heap.size _ _ (by exact X4_7.out.rd.below (B6.out.mono (by omega))) (by exact K6.out.rd) (V4.out.trans V6.out.symm) (by have := B6.out.size; omega) (Nat.le_refl _) (by have h1 := congrArg List.length V4.out; rw [vals_len, vals_len] at h1; omega) (rows_of V4.out ROW.out)).mono ?_); rintro e w9 ⟨rfl, hb7⟩; obtain ⟨m0, m1⟩ := (bx_7.out.below B6.out (by omega)).below hb7 (by omega); obtain ⟨y0, y1⟩ := (ba_7.out.below B6.out (by omega)).below hb7 (by omega)))
        clear e0 e1 f0 f1 m0 m1 y0 y1 K6 V6
        clear qba0 qba1 qbm0 qbm1 qbm2 qbm3 qbw0 qbw1 qbx0 qbx1 qbn0 qbn1 qbn2 qbn3 qbg0 qbg1
        have hb6 := B6.out
        clear B6
        have D8 := Lib.hid (hb6)
        have s8 : w7.heap.size + 0 ≤ w8.heap.size := by have := hb6.size; (try simp at this); omega
        have ba_8 := Lib.hid (ba_7.out.below D8.out (by omega))
        clear ba_7
        have bm_8 := Lib.hid (bm_7.out.below D8.out (by omega))
        clear bm_7
        have bw_8 := Lib.hid (bw_7.out.below D8.out (by omega))
        clear bw_7
        have bx_8 := Lib.hid (bx_7.out.below D8.out (by omega))
        clear bx_7
        have bn_8 := Lib.hid (bn_7.out.below D8.out (by omega))
        clear bn_7
        have bg_8 := Lib.hid (bg_7.out.below D8.out (by omega))
        clear bg_7
        have Y3_8 := Lib.hid (Y3_7.out.below D8.out (by omega))
        clear Y3_7
        have X4_8 := Lib.hid (X4_7.out.below D8.out (by omega))
        clear X4_7
        have X5_8 := Lib.hid (X5_7.out.below D8.out (by omega))
        clear X5_7
        have Y6_8 := Lib.hid (Y6_7.out.below D8.out (by omega))
        clear Y6_7
        have HB8 := Lib.hid (HB.out.trans (D8.out.mono (by omega)))
        clear HB
        have HB := HB8
        clear HB8 hb6
        clear z_ba
        have z_ba : w.heap.size < w8.heap.size := by omega
        clear z_bm
        have z_bm : (w.heap.size + 1) < w8.heap.size := by omega
        clear z_bw
        have z_bw : β3 < w8.heap.size := by omega
        clear z_bx
        have z_bx : w4.heap.size < w8.heap.size := by omega
        clear z_bn
        have z_bn : w5.heap.size < w8.heap.size := by omega
        clear z_bg
        have z_bg : w6.heap.size < w8.heap.size := by omega
        have D9 := Lib.hid (hb7)
        have s9 : w8.heap.size + 0 ≤ w9.heap.size := by have := hb7.size; (try simp at this); omega
        have ba_9 := Lib.hid (ba_8.out.below D9.out (by omega))
        clear ba_8
        have bm_9 := Lib.hid (bm_8.out.below D9.out (by omega))
        clear bm_8
        have bw_9 := Lib.hid (bw_8.out.below D9.out (by omega))
        clear bw_8
        have bx_9 := Lib.hid (bx_8.out.below D9.out (by omega))
        clear bx_8
        have bn_9 := Lib.hid (bn_8.out.below D9.out (by omega))
        clear bn_8
        have bg_9 := Lib.hid (bg_8.out.below D9.out (by omega))
        clear bg_8
        have Y3_9 := Lib.hid (Y3_8.out.below D9.out (by omega))
        clear Y3_8
        have X4_9 := Lib.hid (X4_8.out.below D9.out (by omega))
        clear X4_8
        have X5_9 := Lib.hid (X5_8.out.below D9.out (by omega))
        clear X5_8
        have Y6_9 := Lib.hid (Y6_8.out.below D9.out (by omega))
        clear Y6_8
        have HB9 := Lib.hid (HB.out.trans (D9.out.mono (by omega)))
        clear HB
        have HB := HB9
        clear HB9 hb7
        clear z_ba
        have z_ba : w.heap.size < w9.heap.size := by omega
        clear z_bm
        have z_bm : (w.heap.size + 1) < w9.heap.size := by omega
        clear z_bw
        have z_bw : β3 < w9.heap.size := by omega
        clear z_bx
        have z_bx : w4.heap.size < w9.heap.size := by omega
        clear z_bn
        have z_bn : w5.heap.size < w9.heap.size := by omega
        clear z_bg
        have z_bg : w6.heap.size < w9.heap.size := by omega
        as_aux_lemma =>
          obtain ⟨qba0, qba1⟩ := ba_9.out
          obtain ⟨qbm0, qbm1, qbm2, qbm3⟩ := bm_9.out
          obtain ⟨qbw0, qbw1⟩ := bw_9.out
          obtain ⟨qbx0, qbx1⟩ := bx_9.out
          obtain ⟨qbn0, qbn1, qbn2, qbn3⟩ := bn_9.out
          obtain ⟨qbg0, qbg1⟩ := bg_9.out
          go_wp2_with fail
          go_region_held3 (fun W => (W.cell? ⟨w5.heap.size, 0, none⟩ = some (.int .i64 K) ∧ W.cell? ⟨w5.heap.size, 1, none⟩ = some (.int .i64 I) ∧ W.cell? ⟨w5.heap.size, 2, none⟩ = some (.int .i64 J) ∧ W.cell? ⟨w5.heap.size, 3, none⟩ = some (.slice (some ⟨g5, 0, none⟩) nw nw)) ∧ (W.cell? ⟨(w.heap.size + 1), 0, none⟩ = some (.int .i64 K) ∧ W.cell? ⟨(w.heap.size + 1), 1, none⟩ = some (.int .i64 I) ∧ W.cell? ⟨(w.heap.size + 1), 2, none⟩ = some (.int .i64 J) ∧ W.cell? ⟨(w.heap.size + 1), 3, none⟩ = some (.slice Aw nw cw))) (go_keep)
            (first
              | (go_at_call 15; (with_reducible refine (toM_any K I J Aw nw cw zw _ (by exact Hw.out.into HB.out.drew) hnw).mono ?_); rintro e w10 ⟨g10, rfl, hk6, hg6, hb6'⟩; have hb6 := undrew hb6'; have K6 := Lib.hid hk6; have B6 := Lib.hid hb6; have z6 := hb6.size; obtain ⟨e0, e1, e2, e3⟩ := bn_9.out.below hb6 (by omega); obtain ⟨f0, f1, f2, f3⟩ := bm_9.out.below hb6 (by omega); clear hk6 hg6 hb6 hb6')
              | (go_at_call 18; (with_reducible refine (eqM_any K I J _ _ nw _ _ zw w5.heap.size _ _ (by have := B6.out.size; omega) (Nat.le_refl _) (by exact X5_9.out.ints.below (B6.out.mono (by omega))) (by exact K6.out.ints hlw.out) hnw).mono ?_); rintro e w11 ⟨rfl, hb7⟩; obtain ⟨m0, m1, m2, m3⟩ := (bn_9.out.below B6.out (by omega)).below hb7 (by omega); obtain ⟨y0, y1, y2, y3⟩ := (bm_9.out.below B6.out (by omega)).below hb7 (by omega)))
          clear e0 e1 e2 e3 f0 f1 f2 f3 m0 m1 m2 m3 y0 y1 y2 y3 K6
          clear qba0 qba1 qbm0 qbm1 qbm2 qbm3 qbw0 qbw1 qbx0 qbx1 qbn0 qbn1 qbn2 qbn3 qbg0 qbg1
          have hb6 := B6.out
          clear B6
          have D10 := Lib.hid (hb6)
          have s10 : w9.heap.size + 0 ≤ w10.heap.size := by have := hb6.size; (try simp at this); omega
          have ba_10 := Lib.hid (ba_9.out.below D10.out (by omega))
          clear ba_9
          have bm_10 := Lib.hid (bm_9.out.below D10.out (by omega))
          clear bm_9
          have bw_10 := Lib.hid (bw_9.out.below D10.out (by omega))
          clear bw_9
          have bx_10 := Lib.hid (bx_9.out.below D10.out (by omega))
          clear bx_9
          have bn_10 := Lib.hid (bn_9.out.below D10.out (by omega))
          clear bn_9
          have bg_10 := Lib.hid (bg_9.out.below D10.out (by omega))
          clear bg_9
          have Y3_10 := Lib.hid (Y3_9.out.below D10.out (by omega))
          clear Y3_9
          have X4_10 := Lib.hid (X4_9.out.below D10.out (by omega))
          clear X4_9
          have X5_10 := Lib.hid (X5_9.out.below D10.out (by omega))
          clear X5_9
          have Y6_10 := Lib.hid (Y6_9.out.below D10.out (by omega))
          clear Y6_9
          have HB10 := Lib.hid (HB.out.trans (D10.out.mono (by omega)))
          clear HB
          have HB := HB10
          clear HB10 hb6
          clear z_ba
          have z_ba : w.heap.size < w10.heap.size := by omega
          clear z_bm
          have z_bm : (w.heap.size + 1) < w10.heap.size := by omega
          clear z_bw
          have z_bw : β3 < w10.heap.size := by omega
          clear z_bx
          have z_bx : w4.heap.size < w10.heap.size := by omega
          clear z_bn
          have z_bn : w5.heap.size < w10.heap.size := by omega
          clear z_bg
          have z_bg : w6.heap.size < w10.heap.size := by omega
          have D11 := Lib.hid (hb7)
          have s11 : w10.heap.size + 0 ≤ w11.heap.size := by have := hb7.size; (try simp at this); omega
          have ba_11 := Lib.hid (ba_10.out.below D11.out (by omega))
          clear ba_10
          have bm_11 := Lib.hid (bm_10.out.below D11.out (by omega))
          clear bm_10
          have bw_11 := Lib.hid (bw_10.out.below D11.out (by omega))
          clear bw_10
          have bx_11 := Lib.hid (bx_10.out.below D11.out (by omega))
          clear bx_10
          have bn_11 := Lib.hid (bn_10.out.below D11.out (by omega))
          clear bn_10
          have bg_11 := Lib.hid (bg_10.out.below D11.out (by omega))
          clear bg_10
          have Y3_11 := Lib.hid (Y3_10.out.below D11.out (by omega))
          clear Y3_10
          have X4_11 := Lib.hid (X4_10.out.below D11.out (by omega))
          clear X4_10
          have X5_11 := Lib.hid (X5_10.out.below D11.out (by omega))
          clear X5_10
          have Y6_11 := Lib.hid (Y6_10.out.below D11.out (by omega))
          clear Y6_10
          have HB11 := Lib.hid (HB.out.trans (D11.out.mono (by omega)))
          clear HB
          have HB := HB11
          clear HB11 hb7
          clear z_ba
          have z_ba : w.heap.size < w11.heap.size := by omega
          clear z_bm
          have z_bm : (w.heap.size + 1) < w11.heap.size := by omega
          clear z_bw
          have z_bw : β3 < w11.heap.size := by omega
          clear z_bx
          have z_bx : w4.heap.size < w11.heap.size := by omega
          clear z_bn
          have z_bn : w5.heap.size < w11.heap.size := by omega
          clear z_bg
          have z_bg : w6.heap.size < w11.heap.size := by omega
          as_aux_lemma =>
            obtain ⟨qba0, qba1⟩ := ba_11.out
            obtain ⟨qbm0, qbm1, qbm2, qbm3⟩ := bm_11.out
            obtain ⟨qbw0, qbw1⟩ := bw_11.out
            obtain ⟨qbx0, qbx1⟩ := bx_11.out
            obtain ⟨qbn0, qbn1, qbn2, qbn3⟩ := bn_11.out
            obtain ⟨qbg0, qbg1⟩ := bg_11.out
            go_wp2_with fail
            have tx := tot_vals V4.out
            have lx : rs4.length = rsa.length := by have h1 := congrArg List.length V4.out; rw [vals_len, vals_len] at h1; exact h1
            refine (markP_any _ (some ⟨g4, 0, none⟩) c4 1 rs4 (w3.heap.size) (w4.heap.size) _ X4_11.out (by omega) (by omega) (by omega) (by omega)).mono ?_
            rintro e w12 ⟨rfl, hown, hk⟩
            clear qba0 qba1 qbm0 qbm1 qbm2 qbm3 qbw0 qbw1 qbx0 qbx1 qbn0 qbn1 qbn2 qbn3 qbg0 qbg1
            clear X4_11 hown lx
            have TX := Lib.hid tx
            clear tx
            have D12 := Lib.hid (hk)
            have s12 : w11.heap.size ≤ w12.heap.size := hk.size
            have ba_12 := Lib.hid (ba_11.out.kept D12.out (by omega) (by omega))
            clear ba_11
            have bm_12 := Lib.hid (bm_11.out.kept D12.out (by omega) (by omega))
            clear bm_11
            have bw_12 := Lib.hid (bw_11.out.kept D12.out (by omega) (by omega))
            clear bw_11
            have bx_12 := Lib.hid (bx_11.out.kept D12.out (by omega) (by omega))
            clear bx_11
            have bn_12 := Lib.hid (bn_11.out.kept D12.out (by omega) (by omega))
            clear bn_11
            have bg_12 := Lib.hid (bg_11.out.kept D12.out (by omega) (by omega))
            clear bg_11
            have Y3_12 := Lib.hid (Y3_11.out.kept D12.out (by omega) (by omega))
            clear Y3_11
            have X5_12 := Lib.hid (X5_11.out.kept D12.out (by omega) (by omega))
            clear X5_11
            have Y6_12 := Lib.hid (Y6_11.out.kept D12.out (by omega) (by omega))
            clear Y6_11
            have HB12 := Lib.hid (HB.out.trans (D12.out.below (by omega) (by omega)))
            clear HB
            have HB := HB12
            clear HB12 hk
            clear z_ba
            have z_ba : w.heap.size < w12.heap.size := by omega
            clear z_bm
            have z_bm : (w.heap.size + 1) < w12.heap.size := by omega
            clear z_bw
            have z_bw : β3 < w12.heap.size := by omega
            clear z_bx
            have z_bx : w4.heap.size < w12.heap.size := by omega
            clear z_bn
            have z_bn : w5.heap.size < w12.heap.size := by omega
            clear z_bg
            have z_bg : w6.heap.size < w12.heap.size := by omega
            have tx0 : (0 : Int) ≤ 1 + (tot rs4 : Int) := by omega
            have tx9 := TX.out
            obtain ⟨qba0, qba1⟩ := ba_12.out
            obtain ⟨qbm0, qbm1, qbm2, qbm3⟩ := bm_12.out
            obtain ⟨qbw0, qbw1⟩ := bw_12.out
            obtain ⟨qbx0, qbx1⟩ := bx_12.out
            obtain ⟨qbn0, qbn1, qbn2, qbn3⟩ := bn_12.out
            obtain ⟨qbg0, qbg1⟩ := bg_12.out
            go_wp2_with fail
            refine (markM_any _ _ _ (some ⟨g5, 0, none⟩) nw nw _ zw (w4.heap.size + 1) (w5.heap.size) _ X5_12.out (by omega) hnw (by omega) (by omega)).mono ?_
            rintro e w13 ⟨rfl, hown, hk⟩
            clear qba0 qba1 qbm0 qbm1 qbm2 qbm3 qbw0 qbw1 qbx0 qbx1 qbn0 qbn1 qbn2 qbn3 qbg0 qbg1
            clear X5_12 hown
            have D13 := Lib.hid (hk)
            have s13 : w12.heap.size ≤ w13.heap.size := hk.size
            have ba_13 := Lib.hid (ba_12.out.kept D13.out (by omega) (by omega))
            clear ba_12
            have bm_13 := Lib.hid (bm_12.out.kept D13.out (by omega) (by omega))
            clear bm_12
            have bw_13 := Lib.hid (bw_12.out.kept D13.out (by omega) (by omega))
            clear bw_12
            have bx_13 := Lib.hid (bx_12.out.kept D13.out (by omega) (by omega))
            clear bx_12
            have bn_13 := Lib.hid (bn_12.out.kept D13.out (by omega) (by omega))
            clear bn_12
            have bg_13 := Lib.hid (bg_12.out.kept D13.out (by omega) (by omega))
            clear bg_12
            have Y3_13 := Lib.hid (Y3_12.out.kept D13.out (by omega) (by omega))
            clear Y3_12
            have Y6_13 := Lib.hid (Y6_12.out.kept D13.out (by omega) (by omega))
            clear Y6_12
            have HB13 := Lib.hid (HB.out.trans (D13.out.below (by omega) (by omega)))
            clear HB
            have HB := HB13
            clear HB13 hk
            clear z_ba
            have z_ba : w.heap.size < w13.heap.size := by omega
            clear z_bm
            have z_bm : (w.heap.size + 1) < w13.heap.size := by omega
            clear z_bw
            have z_bw : β3 < w13.heap.size := by omega
            clear z_bx
            have z_bx : w4.heap.size < w13.heap.size := by omega
            clear z_bn
            have z_bn : w5.heap.size < w13.heap.size := by omega
            clear z_bg
            have z_bg : w6.heap.size < w13.heap.size := by omega
            have tx1 : decide ((1 : Int) + (tot rs4 : Int) + (nw : Int) < 0) = false := by simp; omega
            clear tx9
            as_aux_lemma =>
              obtain ⟨qba0, qba1⟩ := ba_13.out
              obtain ⟨qbm0, qbm1, qbm2, qbm3⟩ := bm_13.out
              obtain ⟨qbw0, qbw1⟩ := bw_13.out
              obtain ⟨qbx0, qbx1⟩ := bx_13.out
              obtain ⟨qbn0, qbn1, qbn2, qbn3⟩ := bn_13.out
              obtain ⟨qbg0, qbg1⟩ := bg_13.out
              go_wp2_with fail
              refine (eqP_any pr _ _ _ _ rs6 rs3 (w6.heap.size) (w3.heap.size) _ Y6_13.out.rd Y3_13.out.rd (V6.out.trans V3.out.symm) (by (try simp) <;> omega) (by (try simp) <;> omega) (by omega) (HZ.out.row V6.out)).mono ?_
              rintro e w14 ⟨rfl, hb⟩
              clear qba0 qba1 qbm0 qbm1 qbm2 qbm3 qbw0 qbw1 qbx0 qbx1 qbn0 qbn1 qbn2 qbn3 qbg0 qbg1
              have D14 := Lib.hid (hb)
              have s14 : w13.heap.size + 0 ≤ w14.heap.size := by have := hb.size; (try simp at this); omega
              have ba_14 := Lib.hid (ba_13.out.below D14.out (by omega))
              clear ba_13
              have bm_14 := Lib.hid (bm_13.out.below D14.out (by omega))
              clear bm_13
              have bw_14 := Lib.hid (bw_13.out.below D14.out (by omega))
              clear bw_13
              have bx_14 := Lib.hid (bx_13.out.below D14.out (by omega))
              clear bx_13
              have bn_14 := Lib.hid (bn_13.out.below D14.out (by omega))
              clear bn_13
              have bg_14 := Lib.hid (bg_13.out.below D14.out (by omega))
              clear bg_13
              have Y3_14 := Lib.hid (Y3_13.out.below D14.out (by omega))
              clear Y3_13
              have Y6_14 := Lib.hid (Y6_13.out.below D14.out (by omega))
              clear Y6_13
              have HB14 := Lib.hid (HB.out.trans (D14.out.mono (by omega)))
              clear HB
              have HB := HB14
              clear HB14 hb
              clear z_ba
              have z_ba : w.heap.size < w14.heap.size := by omega
              clear z_bm
              have z_bm : (w.heap.size + 1) < w14.heap.size := by omega
              clear z_bw
              have z_bw : β3 < w14.heap.size := by omega
              clear z_bx
              have z_bx : w4.heap.size < w14.heap.size := by omega
              clear z_bn
              have z_bn : w5.heap.size < w14.heap.size := by omega
              clear z_bg
              have z_bg : w6.heap.size < w14.heap.size := by omega
              as_aux_lemma =>
                obtain ⟨qba0, qba1⟩ := ba_14.out
                obtain ⟨qbm0, qbm1, qbm2, qbm3⟩ := bm_14.out
                obtain ⟨qbw0, qbw1⟩ := bw_14.out
                obtain ⟨qbx0, qbx1⟩ := bx_14.out
                obtain ⟨qbn0, qbn1, qbn2, qbn3⟩ := bn_14.out
                obtain ⟨qbg0, qbg1⟩ := bg_14.out
                go_wp2_with fail
                refine (markP_any _ R6 t6 1 rs6 (w5.heap.size + 1) (w6.heap.size) _ Y6_14.out (by omega) ht6 (by omega) (by omega)).mono ?_
                rintro e w15 ⟨rfl, hown, hk⟩
                clear qba0 qba1 qbm0 qbm1 qbm2 qbm3 qbw0 qbw1 qbx0 qbx1 qbn0 qbn1 qbn2 qbn3 qbg0 qbg1
                have Y6_15 := Lib.hid hown
                clear Y6_14 hown
                have D15 := Lib.hid (hk)
                have s15 : w14.heap.size ≤ w15.heap.size := hk.size
                have ba_15 := Lib.hid (ba_14.out.kept D15.out (by omega) (by omega))
                clear ba_14
                have bm_15 := Lib.hid (bm_14.out.kept D15.out (by omega) (by omega))
                clear bm_14
                have bw_15 := Lib.hid (bw_14.out.kept D15.out (by omega) (by omega))
                clear bw_14
                have bx_15 := Lib.hid (bx_14.out.kept D15.out (by omega) (by omega))
                clear bx_14
                have bn_15 := Lib.hid (bn_14.out.kept D15.out (by omega) (by omega))
                clear bn_14
                have bg_15 := Lib.hid (bg_14.out.kept D15.out (by omega) (by omega))
                clear bg_14
                have Y3_15 := Lib.hid (Y3_14.out.kept D15.out (by omega) (by omega))
                clear Y3_14
                have HB15 := Lib.hid (HB.out.trans (D15.out.below (by omega) (by omega)))
                clear HB
                have HB := HB15
                clear HB15 hk
                clear z_ba
                have z_ba : w.heap.size < w15.heap.size := by omega
                clear z_bm
                have z_bm : (w.heap.size + 1) < w15.heap.size := by omega
                clear z_bw
                have z_bw : β3 < w15.heap.size := by omega
                clear z_bx
                have z_bx : w4.heap.size < w15.heap.size := by omega
                clear z_bn
                have z_bn : w5.heap.size < w15.heap.size := by omega
                clear z_bg
                have z_bg : w6.heap.size < w15.heap.size := by omega
                have tq : decide ((1 : Int) + (tot rs6 : Int) < 0) = false := by simp; omega
                obtain ⟨qba0, qba1⟩ := ba_15.out
                obtain ⟨qbm0, qbm1, qbm2, qbm3⟩ := bm_15.out
                obtain ⟨qbw0, qbw1⟩ := bw_15.out
                obtain ⟨qbx0, qbx1⟩ := bx_15.out
                obtain ⟨qbn0, qbn1, qbn2, qbn3⟩ := bn_15.out
                obtain ⟨qbg0, qbg1⟩ := bg_15.out
                go_wp2_with fail
                refine (heldP_any _ R6 t6 1 rs6 (w6.heap.size) _ Y6_15.out.rd (by omega) ht6 (by omega) (by omega)).mono ?_
                rintro e w16 ⟨rfl, hb⟩
                clear qba0 qba1 qbm0 qbm1 qbm2 qbm3 qbw0 qbw1 qbx0 qbx1 qbn0 qbn1 qbn2 qbn3 qbg0 qbg1
                have D16 := Lib.hid (hb)
                have s16 : w15.heap.size + 0 ≤ w16.heap.size := by have := hb.size; (try simp at this); omega
                have ba_16 := Lib.hid (ba_15.out.below D16.out (by omega))
                clear ba_15
                have bm_16 := Lib.hid (bm_15.out.below D16.out (by omega))
                clear bm_15
                have bw_16 := Lib.hid (bw_15.out.below D16.out (by omega))
                clear bw_15
                have bx_16 := Lib.hid (bx_15.out.below D16.out (by omega))
                clear bx_15
                have bn_16 := Lib.hid (bn_15.out.below D16.out (by omega))
                clear bn_15
                have bg_16 := Lib.hid (bg_15.out.below D16.out (by omega))
                clear bg_15
                have Y3_16 := Lib.hid (Y3_15.out.below D16.out (by omega))
                clear Y3_15
                have Y6_16 := Lib.hid (Y6_15.out.below D16.out (by omega))
                clear Y6_15
                have HB16 := Lib.hid (HB.out.trans (D16.out.mono (by omega)))
                clear HB
                have HB := HB16
                clear HB16 hb
                clear z_ba
                have z_ba : w.heap.size < w16.heap.size := by omega
                clear z_bm
                have z_bm : (w.heap.size + 1) < w16.heap.size := by omega
                clear z_bw
                have z_bw : β3 < w16.heap.size := by omega
                clear z_bx
                have z_bx : w4.heap.size < w16.heap.size := by omega
                clear z_bn
                have z_bn : w5.heap.size < w16.heap.size := by omega
                clear z_bg
                have z_bg : w6.heap.size < w16.heap.size := by omega
                as_aux_lemma =>
                  obtain ⟨qba0, qba1⟩ := ba_16.out
                  obtain ⟨qbm0, qbm1, qbm2, qbm3⟩ := bm_16.out
                  obtain ⟨qbw0, qbw1⟩ := bw_16.out
                  obtain ⟨qbx0, qbx1⟩ := bx_16.out
                  obtain ⟨qbn0, qbn1, qbn2, qbn3⟩ := bn_16.out
                  obtain ⟨qbg0, qbg1⟩ := bg_16.out
                  go_upto_region 31 with fail
                  go_cut [15, 16] (fun p x W => CutR w16 pr pz (.int .i64 code) p x W)
                  case first =>
                    go_region_held3 (fun W => (W.cell? ⟨w.heap.size, 0, none⟩ = some (.int .i64 ra)) ∧ (W.cell? ⟨w.heap.size, 1, none⟩ = some (.slice Aa rsa.length ca)) ∧ (W.cell? ⟨(w.heap.size + 1), 0, none⟩ = some (.int .i64 K)) ∧ (W.cell? ⟨(w.heap.size + 1), 1, none⟩ = some (.int .i64 I)) ∧ (W.cell? ⟨(w.heap.size + 1), 2, none⟩ = some (.int .i64 J)) ∧ (W.cell? ⟨(w.heap.size + 1), 3, none⟩ = some (.slice Aw nw cw))) (go_keep)
                      (first
                        | (go_at_call 14; (with_reducible refine (toP_any ra Aa ca rsa _ (by first | exact Ha.out.into HB.out.drew | exact Ha.out.into (HB.out.alloc (by omega) _).drew) hnl ROW.out).mono ?_); rintro e w6 ⟨g6, c6, rs6, rfl, hk6, hv6, hb6⟩; (first | (have U6 : Hid (Below w16.heap.size w16 w6) := Lib.hid (undrew hb6); have z6 : w16.heap.size ≤ w6.heap.size := U6.out.size; (try have Zb := Lib.hid (Zb.out.below U6.out (by omega))); (try have Zf := Lib.hid (Zf.out.below U6.out (by omega)))) | (have U6 : Hid (Below w16.heap.size w16 w6) := Lib.hid (on1 _ (undrew hb6)); have z6 : w16.heap.size < w6.heap.size := (by have := (undrew hb6).size; simp at this; omega); have Zb := Lib.hid ((BoxG.new w16 26 (.int .i64 0) (.slice none 0 0)).below (undrew hb6) (by simp)); have Zf := Lib.hid ((Free.new w16 26 #[.int .i64 0, .slice none 0 0]).below (undrew hb6) (by simp)))); have K6 := Lib.hid hk6; have V6 := Lib.hid hv6; obtain ⟨e0, e1⟩ := ba_16.out.below U6.out (by omega); obtain ⟨e2, e3, e4, e5⟩ := bm_16.out.below U6.out (by omega); have y6 : w.heap.size < w6.heap.size := (by omega); have y6_ : (w.heap.size + 1) < w6.heap.size := (by omega); (try clear j0 j1 jf); (try obtain ⟨j0, j1⟩ := Zb.out); (try have jf := Zf.out); (try unfold Free at jf); clear hk6 hv6 hb6)
                        | (go_at_call 15; (with_reducible refine (toM_any K I J Aw nw cw zw _ (by first | exact Hw.out.into (HB.out.trans (U6.out.mono (by omega))) | exact Hw.out.into ((HB.out.trans (U6.out.mono (by omega))).alloc (by omega) _)) hnw).mono ?_); rintro e w7 ⟨g7, rfl, hk7, hg7, hb7⟩; (first | (have U7 : Hid (Below w6.heap.size w6 w7) := Lib.hid hb7; have z7 : w6.heap.size ≤ w7.heap.size := U7.out.size; (try have Zb := Lib.hid (Zb.out.below U7.out (by omega))); (try have Zf := Lib.hid (Zf.out.below U7.out (by omega)))) | (have U7 : Hid (Below w6.heap.size w6 w7) := Lib.hid (on1 _ hb7); have z7 : w6.heap.size < w7.heap.size := (by have := hb7.size; simp at this; omega); have Zb := Lib.hid ((BoxG.new w6 26 (.int .i64 0) (.slice none 0 0)).below hb7 (by simp)); have Zf := Lib.hid ((Free.new w6 26 #[.int .i64 0, .slice none 0 0]).below hb7 (by simp)))); have K7 := Lib.hid hk7; obtain ⟨f0, f1⟩ := (ba_16.out.below U6.out (by omega)).below U7.out (by omega); obtain ⟨f2, f3, f4, f5⟩ := (bm_16.out.below U6.out (by omega)).below U7.out (by omega); have y7 : w.heap.size < w7.heap.size := (by omega); have y7_ : (w.heap.size + 1) < w7.heap.size := (by omega); (try clear j0 j1 jf); (try obtain ⟨j0, j1⟩ := Zb.out); (try have jf := Zf.out); (try unfold Free at jf); clear hk7 hb7 hg7)
                        | (go_at_call 16; (first | with_reducible refine (HI.out _ _ _ _ _ _ (by exact (((K6.out.rd).below U7.out).more U7.out.size)) V6.out (by exact (K7.out.ints hlw.out))).mono ?_ | with_reducible refine (HI.out _ _ _ _ _ _ (by exact (((K6.out.rd).below U7.out).more U7.out.size).into (al1 _ _)) V6.out (by exact (K7.out.ints hlw.out).into (al1 _ _))).mono ?_); rintro e w17 ⟨R17, t17, rs17, rfl, hown, hv8, hb8⟩; (first | (have U8 : Hid (Below w7.heap.size w7 w17) := Lib.hid hb8; have z8 : w7.heap.size ≤ w17.heap.size := U8.out.size; (try have Zb := Lib.hid (Zb.out.below U8.out (by omega))); (try have Zf := Lib.hid (Zf.out.below U8.out (by omega)))) | (have U8 : Hid (Below w7.heap.size w7 w17) := Lib.hid (on1 _ hb8); have z8 : w7.heap.size < w17.heap.size := (by have := hb8.size; simp at this; omega); have Zb := Lib.hid ((BoxG.new w7 26 (.int .i64 0) (.slice none 0 0)).below hb8 (by simp)); have Zf := Lib.hid ((Free.new w7 26 #[.int .i64 0, .slice none 0 0]).below hb8 (by simp)))); have O8 := Lib.hid hown; have W8 := Lib.hid hv8; have y8 : w.heap.size < w17.heap.size := (by omega); have y8_ : (w.heap.size + 1) < w17.heap.size := (by omega); have x8 : ¬ w17.heap.size = w.heap.size := (by omega); have x8_ : ¬ w17.heap.size = (w.heap.size + 1) := (by omega); have xa : ¬ w16.heap.size = w.heap.size := (by omega); have xb : ¬ w16.heap.size = (w.heap.size + 1) := (by omega); have xc : ¬ w6.heap.size = w.heap.size := (by omega); have xd : ¬ w6.heap.size = (w.heap.size + 1) := (by omega); have xe : ¬ w7.heap.size = w.heap.size := (by omega); have xf : ¬ w7.heap.size = (w.heap.size + 1) := (by omega); obtain ⟨m0, m1⟩ := ((ba_16.out.below U6.out (by omega)).below U7.out (by omega)).below U8.out (by omega); obtain ⟨m2, m3, m4, m5⟩ := ((bm_16.out.below U6.out (by omega)).below U7.out (by omega)).below U8.out (by omega); (try clear j0 j1 jf); (try obtain ⟨j0, j1⟩ := Zb.out); (try have jf := Zf.out); (try unfold Free at jf); clear hown hv8 hb8))
                    all_goals
                      have UU := (U6.out.trans (U7.out.mono (by omega))).trans (U8.out.mono (by omega))
                      have UH := Lib.hid UU
                      clear UU
                      clear e0 e1 e2 e3 e4 e5 f0 f1 f2 f3 f4 f5 m0 m1 m2 m3 m4 m5
                      go_wp2_with fail
                      go_meet
                      first
                        | exact CutR.new O8.out W8.out UH.out (by (try simp) <;> omega)
                        | exact CutR.old O8.out W8.out Zb.out UH.out (by omega) (by (try simp) <;> omega) (by omega)
                  obtain ⟨β17, R17, t17, rs17, rfl, rfl, hbx, hlo, hhi, hown, hv, hb⟩ := hcut
                  obtain ⟨w17, rfl⟩ : ∃ W : World, W = wc := ⟨_, rfl⟩
                  clear qba0 qba1 qbm0 qbm1 qbm2 qbm3 qbw0 qbw1 qbx0 qbx1 qbn0 qbn1 qbn2 qbn3 qbg0 qbg1
                  have Y17_17 := Lib.hid hown
                  have bh_17 := Lib.hid hbx
                  have V17 := Lib.hid hv
                  clear hown hbx hv
                  have ht17 := HZ.out.tot V17.out
                  have D17 := Lib.hid (hb)
                  have s17 : w16.heap.size + 0 ≤ w17.heap.size := by have := hb.size; (try simp at this); omega
                  have ba_17 := Lib.hid (ba_16.out.below D17.out (by omega))
                  clear ba_16
                  have bm_17 := Lib.hid (bm_16.out.below D17.out (by omega))
                  clear bm_16
                  have bw_17 := Lib.hid (bw_16.out.below D17.out (by omega))
                  clear bw_16
                  have bx_17 := Lib.hid (bx_16.out.below D17.out (by omega))
                  clear bx_16
                  have bn_17 := Lib.hid (bn_16.out.below D17.out (by omega))
                  clear bn_16
                  have bg_17 := Lib.hid (bg_16.out.below D17.out (by omega))
                  clear bg_16
                  have Y3_17 := Lib.hid (Y3_16.out.below D17.out (by omega))
                  clear Y3_16
                  have Y6_17 := Lib.hid (Y6_16.out.below D17.out (by omega))
                  clear Y6_16
                  have HB17 := Lib.hid (HB.out.trans (D17.out.mono (by omega)))
                  clear HB
                  have HB := HB17
                  clear HB17 hb
                  clear z_ba
                  have z_ba : w.heap.size < w17.heap.size := by omega
                  clear z_bm
                  have z_bm : (w.heap.size + 1) < w17.heap.size := by omega
                  clear z_bw
                  have z_bw : β3 < w17.heap.size := by omega
                  clear z_bx
                  have z_bx : w4.heap.size < w17.heap.size := by omega
                  clear z_bn
                  have z_bn : w5.heap.size < w17.heap.size := by omega
                  clear z_bg
                  have z_bg : w6.heap.size < w17.heap.size := by omega
                  have z_bh : β17 < w17.heap.size := hhi
                  obtain ⟨qba0, qba1⟩ := ba_17.out
                  obtain ⟨qbm0, qbm1, qbm2, qbm3⟩ := bm_17.out
                  obtain ⟨qbw0, qbw1⟩ := bw_17.out
                  obtain ⟨qbx0, qbx1⟩ := bx_17.out
                  obtain ⟨qbn0, qbn1, qbn2, qbn3⟩ := bn_17.out
                  obtain ⟨qbg0, qbg1⟩ := bg_17.out
                  obtain ⟨qbh0, qbh1⟩ := bh_17.out
                  go_wp2_with fail
                  refine (eqP_any pr _ _ _ _ rs17 rs3 (w17.heap.size) (w3.heap.size) _ Y17_17.out.rd Y3_17.out.rd (V17.out.trans V3.out.symm) (by (try simp) <;> omega) (by (try simp) <;> omega) (by omega) (HZ.out.row V17.out)).mono ?_
                  rintro e w18 ⟨rfl, hb⟩
                  clear qba0 qba1 qbm0 qbm1 qbm2 qbm3 qbw0 qbw1 qbx0 qbx1 qbn0 qbn1 qbn2 qbn3 qbg0 qbg1 qbh0 qbh1
                  have D18 := Lib.hid (hb)
                  have s18 : w17.heap.size + 0 ≤ w18.heap.size := by have := hb.size; (try simp at this); omega
                  have ba_18 := Lib.hid (ba_17.out.below D18.out (by omega))
                  clear ba_17
                  have bm_18 := Lib.hid (bm_17.out.below D18.out (by omega))
                  clear bm_17
                  have bw_18 := Lib.hid (bw_17.out.below D18.out (by omega))
                  clear bw_17
                  have bx_18 := Lib.hid (bx_17.out.below D18.out (by omega))
                  clear bx_17
                  have bn_18 := Lib.hid (bn_17.out.below D18.out (by omega))
                  clear bn_17
                  have bg_18 := Lib.hid (bg_17.out.below D18.out (by omega))
                  clear bg_17
                  have bh_18 := Lib.hid (bh_17.out.below D18.out (by omega))
                  clear bh_17
                  have Y3_18 := Lib.hid (Y3_17.out.below D18.out (by omega))
                  clear Y3_17
                  have Y6_18 := Lib.hid (Y6_17.out.below D18.out (by omega))
                  clear Y6_17
                  have Y17_18 := Lib.hid (Y17_17.out.below D18.out (by omega))
                  clear Y17_17
                  have HB18 := Lib.hid (HB.out.trans (D18.out.mono (by omega)))
                  clear HB
                  have HB := HB18
                  clear HB18 hb
                  clear z_ba
                  have z_ba : w.heap.size < w18.heap.size := by omega
                  clear z_bm
                  have z_bm : (w.heap.size + 1) < w18.heap.size := by omega
                  clear z_bw
                  have z_bw : β3 < w18.heap.size := by omega
                  clear z_bx
                  have z_bx : w4.heap.size < w18.heap.size := by omega
                  clear z_bn
                  have z_bn : w5.heap.size < w18.heap.size := by omega
                  clear z_bg
                  have z_bg : w6.heap.size < w18.heap.size := by omega
                  clear z_bh
                  have z_bh : β17 < w18.heap.size := by omega
                  as_aux_lemma =>
                    obtain ⟨qba0, qba1⟩ := ba_18.out
                    obtain ⟨qbm0, qbm1, qbm2, qbm3⟩ := bm_18.out
                    obtain ⟨qbw0, qbw1⟩ := bw_18.out
                    obtain ⟨qbx0, qbx1⟩ := bx_18.out
                    obtain ⟨qbn0, qbn1, qbn2, qbn3⟩ := bn_18.out
                    obtain ⟨qbg0, qbg1⟩ := bg_18.out
                    obtain ⟨qbh0, qbh1⟩ := bh_18.out
                    go_wp2_with fail
                    refine (heldP_any _ R6 t6 1 rs6 (w6.heap.size) _ Y6_18.out.rd (by omega) ht6 (by omega) (by omega)).mono ?_
                    rintro e w19 ⟨rfl, hb⟩
                    clear qba0 qba1 qbm0 qbm1 qbm2 qbm3 qbw0 qbw1 qbx0 qbx1 qbn0 qbn1 qbn2 qbn3 qbg0 qbg1 qbh0 qbh1
                    have D19 := Lib.hid (hb)
                    have s19 : w18.heap.size + 0 ≤ w19.heap.size := by have := hb.size; (try simp at this); omega
                    have ba_19 := Lib.hid (ba_18.out.below D19.out (by omega))
                    clear ba_18
                    have bm_19 := Lib.hid (bm_18.out.below D19.out (by omega))
                    clear bm_18
                    have bw_19 := Lib.hid (bw_18.out.below D19.out (by omega))
                    clear bw_18
                    have bx_19 := Lib.hid (bx_18.out.below D19.out (by omega))
                    clear bx_18
                    have bn_19 := Lib.hid (bn_18.out.below D19.out (by omega))
                    clear bn_18
                    have bg_19 := Lib.hid (bg_18.out.below D19.out (by omega))
                    clear bg_18
                    have bh_19 := Lib.hid (bh_18.out.below D19.out (by omega))
                    clear bh_18
                    have Y3_19 := Lib.hid (Y3_18.out.below D19.out (by omega))
                    clear Y3_18
                    have Y6_19 := Lib.hid (Y6_18.out.below D19.out (by omega))
                    clear Y6_18
                    have Y17_19 := Lib.hid (Y17_18.out.below D19.out (by omega))
                    clear Y17_18
                    have HB19 := Lib.hid (HB.out.trans (D19.out.mono (by omega)))
                    clear HB
                    have HB := HB19
                    clear HB19 hb
                    clear z_ba
                    have z_ba : w.heap.size < w19.heap.size := by omega
                    clear z_bm
                    have z_bm : (w.heap.size + 1) < w19.heap.size := by omega
                    clear z_bw
                    have z_bw : β3 < w19.heap.size := by omega
                    clear z_bx
                    have z_bx : w4.heap.size < w19.heap.size := by omega
                    clear z_bn
                    have z_bn : w5.heap.size < w19.heap.size := by omega
                    clear z_bg
                    have z_bg : w6.heap.size < w19.heap.size := by omega
                    clear z_bh
                    have z_bh : β17 < w19.heap.size := by omega
                    go_wp2
                    go_ret
                    exact ⟨rfl, HB.out⟩


end Go.Proofs.Ytjommpdblbbkdaa
