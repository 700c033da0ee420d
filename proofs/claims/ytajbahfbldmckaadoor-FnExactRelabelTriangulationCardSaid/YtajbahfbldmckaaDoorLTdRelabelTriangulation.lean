/- The walk of the law FnExactRelabelTriangulation, from contracts of both functions. No condition but those that each theorem names. -/
import Derived.Test.YtajbahfbldmckaaDoorLTa
import Derived.Deep.RegionHeld3
import Derived.Outline
import Derived.Deep.DeepCutAuto
import Derived.Test.YtajbahfbldmckaaDoorGrpL
namespace Go.Proofs.YtajbahfbldmckaaDoor
open Go Go.ChangeShapes Go.WideShapes Go.ChangeAt Go.RowKit

/-- A triangulation and a code behind a call, the triangulation in its box. -/
def CutT (wj : World) (tz : List (List Int)) (v p x : Value) (W : World) : Prop :=
  ∃ β R t rs, p = .pointer (some ⟨β, 0, none⟩) ∧ x = v ∧ Box1 W β (.slice R rs.length t) ∧ wj.heap.size ≤ β ∧ β < W.heap.size ∧ Fc.OwnS W wj.heap.size W.heap.size R t rs ∧ Fc.vals rs = tz ∧ Below wj.heap.size wj W
theorem CutT.new {wj W : World} {tz : List (List Int)} {v : Value} {lo : Nat} {R : Option Addr} {t : Nat} {rs : List Fc.Rw} {T : TypeId} (ho : Fc.OwnS W lo W.heap.size R t rs) (hv : Fc.vals rs = tz) (hb : Below wj.heap.size wj W) (hl : wj.heap.size ≤ lo) :
    CutT wj tz v (.pointer (some ⟨W.heap.size, 0, none⟩)) v (W.alloc (Obj.cells #[.slice R rs.length t] T)) :=
  ⟨W.heap.size, R, t, rs, rfl, rfl, Box1.new _ _ _, hb.size, by simp, (ho.below (al1 _ _) (Nat.le_refl _)).wide hl (by simp), hv, hb.alloc hb.size _⟩
theorem CutT.old {wj W : World} {tz : List (List Int)} {v : Value} {lo b : Nat} {R : Option Addr} {t : Nat} {rs : List Fc.Rw} {x : Value} (ho : Fc.OwnS W lo W.heap.size R t rs) (hv : Fc.vals rs = tz) (hx : Box1 W b x) (hb : Below wj.heap.size wj W) (hl : wj.heap.size ≤ b) (hlo : b < lo) (hh : b < W.heap.size) :
    CutT wj tz v (.pointer (some ⟨b, 0, none⟩)) v (W.setCell ⟨b, 0, none⟩ (.slice R rs.length t)) :=
  ⟨b, R, t, rs, rfl, rfl, hx.set_, hl, by simpa [World.setCell] using hh, ((ho.far (p := ⟨b, 0, none⟩) (.inl hlo) _).wide (by omega) (by simp [World.setCell])), hv, hb.setCell hl _⟩

theorem toI_any (A : Option Addr) (n c : Nat) (zs : List Int) (w : World) (h : Ints w w.heap.size A n zs) (hn : n ≤ 1048576) :
    Calls Tryd.prog 32 #[.slice A n c] w fun e w' => ∃ g, e = .returned (.slice (some ⟨g, 0, none⟩) n n) ∧ Mine w' w.heap.size w'.heap.size (some ⟨g, 0, none⟩) n zs ∧ Below w.heap.size w w' :=
  (toInts_any A n c zs w h hn).mono fun _ _ ⟨h1, h2, h3⟩ => ⟨_, h1, Mine.of_blk h2 (Nat.le_refl _) h2.lt h.1, h3⟩
theorem eqI_any (A A' : Option Addr) (n c c' : Nat) (zs : List Int) (B B' : Nat) (w : World) (h : Ints w B A n zs) (h' : Ints w B' A' n zs) (hn : n ≤ 1048576) :
    Calls Tryd.prog 26 #[.slice A n c, .slice A' n c'] w fun e w' => e = .returned (.bool true) ∧ Below w.heap.size w w' :=
  (eqInts_any A A' n c c' zs B B' w h h' hn).mono fun _ _ ⟨h1, m, h2⟩ => ⟨h1, by rw [h2]; exact Go.Joins.below_draws _ _ _⟩

set_option maxRecDepth 100000 in
set_option maxHeartbeats 16000000 in
theorem exactRelabelTriangulation (Aa : Option Addr) (ca : Nat) (rsa : List Fc.Rw) (Ax : Option Addr) (nx cx : Nat) (zx : List Int) (Ay : Option Addr) (ny cy : Nat) (zy : List Int) (tz : List (List Int)) (code : Int) (w : World) (ha : Fc.RdS w w.heap.size Aa rsa) (h1 : Ints w w.heap.size Ax nx zx) (h2 : Ints w w.heap.size Ay ny zy) (hnx : nx ≤ 1048576) (hny : ny ≤ 1048576) (hna : rsa.length + Fc.cnt rsa ≤ 1048576) (hz : Fc.Szd tz)
    (hs : ∀ (W : World) (A Ax Ay : Option Addr) (c cx cy : Nat) (qs : List Fc.Rw), Fc.RdS W W.heap.size A qs → Fc.vals qs = Fc.vals rsa → Ints W W.heap.size Ax nx zx → Ints W W.heap.size Ay ny zy → Below w.heap.size w W → Calls Tryd.prog 31 #[.agg #[.slice A qs.length c], .slice Ax nx cx, .slice Ay ny cy] W (Fc.ResTC W tz code))
    (hi : ∀ (W : World) (A Ax Ay : Option Addr) (c cx cy : Nat) (qs : List Fc.Rw), Fc.RdS W W.heap.size A qs → Fc.vals qs = Fc.vals rsa → Ints W W.heap.size Ax nx zx → Ints W W.heap.size Ay ny zy → Below w.heap.size w W → Calls Tryd.prog 33 #[.agg #[.slice A qs.length c], .slice Ax nx cx, .slice Ay ny cy] W (Fc.ResTC W tz code)) :
    Calls Tryd.prog 8 #[.agg #[.slice Aa rsa.length ca], .slice Ax nx cx, .slice Ay ny cy] w fun e w' => e = .returned (.bool true) ∧ Below w.heap.size w w' := by
  have HS := Lib.hid hs
  have HI := Lib.hid hi
  clear hs hi
  have HB := Lib.hid (Below.refl w.heap.size w)
  have Ha := Lib.hid ha
  have Hx := Lib.hid h1
  have Hy := Lib.hid h2
  have HZ := Lib.hid hz
  have Lx := Lib.hid h1.1
  have Ly := Lib.hid h2.1
  clear ha h1 h2 hz
  have hnl : rsa.length ≤ 1048576 := by omega
  have hml : rsa.length ≤ maxLen := Nat.le_trans hnl (by unfold maxLen; omega)
  have ROW := Lib.hid (show ∀ r ∈ rsa, r.zs.length / 2 ≤ 1048576 from fun r hr => by have := Fc.row_le_cnt hr; omega)
  have TT := Lib.hid (show Fc.tot rsa = 2 * Fc.cnt rsa from Fc.tot_cnt (fun r hr => (Ha.out.1 r hr).le.2))
  have tl0 : decide ((1048576 : Int) - (rsa.length : Int) - (Fc.cnt rsa : Int) < 0) = false := by simp; omega
  have tix : ¬ (1048576 : Int) < (nx : Int) := by omega
  have tiy : ¬ (1048576 : Int) < (ny : Int) := by omega
  go_enter Tryd.func8, Tryd.ntmps8
  go_wp2_with fail
  refine (Fc.szT_any Aa ca rsa _ _ (Ha.out.into (al1 _ _)) hml (by omega) (by omega)).mono ?_
  rintro e w1 ⟨rfl, hb⟩
  rw [if_neg (by omega)]
  have D1 := Lib.hid (on1 _ hb)
  have s1 : w.heap.size + 1 ≤ w1.heap.size := by have := hb.size; (try simp at this); omega
  have ba_1 := Lib.hid ((Box1.new w 24 (.slice Aa rsa.length ca)).below hb (by simp))
  have HB1 := Lib.hid (HB.out.trans (D1.out.mono (by omega)))
  clear HB
  have HB := HB1
  clear HB1 hb
  have z_ba : w.heap.size < w1.heap.size := by omega
  obtain ⟨qba0⟩ := ba_1.out
  go_wp2_with fail
  refine (Fc.toT_any Aa ca rsa _ (Ha.out.into HB.out) hnl ROW.out).mono ?_
  rintro e w2 ⟨g2, c2, rs2, rfl, hk, hv, hb⟩
  clear qba0
  have X2_2 := Lib.hid (hk.wide (lo' := w1.heap.size) (hi' := w2.heap.size) (by simp) (Nat.le_refl _))
  have V2 := Lib.hid hv
  clear hk hv
  have D2 := Lib.hid (hb)
  have s2 : w1.heap.size + 0 ≤ w2.heap.size := by have := hb.size; (try simp at this); omega
  have ba_2 := Lib.hid (ba_1.out.below D2.out (by omega))
  clear ba_1
  have HB2 := Lib.hid (HB.out.trans (D2.out.mono (by omega)))
  clear HB
  have HB := HB2
  clear HB2 hb
  clear z_ba
  have z_ba : w.heap.size < w2.heap.size := by omega
  obtain ⟨qba0⟩ := ba_2.out
  go_wp2_with fail
  refine (toI_any Ax nx cx zx _ (Hx.out.into HB.out) hnx).mono ?_
  rintro e w3 ⟨g3, rfl, hk, hb⟩
  clear qba0
  have J3_3 := Lib.hid (hk.wide (lo' := w2.heap.size) (hi' := w3.heap.size) (by simp) (Nat.le_refl _))
  clear hk
  have D3 := Lib.hid (hb)
  have s3 : w2.heap.size + 0 ≤ w3.heap.size := by have := hb.size; (try simp at this); omega
  have ba_3 := Lib.hid (ba_2.out.below D3.out (by omega))
  clear ba_2
  have X2_3 := Lib.hid (X2_2.out.below D3.out (by omega))
  clear X2_2
  have HB3 := Lib.hid (HB.out.trans (D3.out.mono (by omega)))
  clear HB
  have HB := HB3
  clear HB3 hb
  clear z_ba
  have z_ba : w.heap.size < w3.heap.size := by omega
  obtain ⟨qba0⟩ := ba_3.out
  go_wp2_with fail
  refine (toI_any Ay ny cy zy _ (Hy.out.into HB.out) hny).mono ?_
  rintro e w4 ⟨g4, rfl, hk, hb⟩
  clear qba0
  have J4_4 := Lib.hid (hk.wide (lo' := w3.heap.size) (hi' := w4.heap.size) (by simp) (Nat.le_refl _))
  clear hk
  have D4 := Lib.hid (hb)
  have s4 : w3.heap.size + 0 ≤ w4.heap.size := by have := hb.size; (try simp at this); omega
  have ba_4 := Lib.hid (ba_3.out.below D4.out (by omega))
  clear ba_3
  have X2_4 := Lib.hid (X2_3.out.below D4.out (by omega))
  clear X2_3
  have J3_4 := Lib.hid (J3_3.out.below D4.out (by omega))
  clear J3_3
  have HB4 := Lib.hid (HB.out.trans (D4.out.mono (by omega)))
  clear HB
  have HB := HB4
  clear HB4 hb
  clear z_ba
  have z_ba : w.heap.size < w4.heap.size := by omega
  obtain ⟨qba0⟩ := ba_4.out
  go_wp2_with fail
  refine (HS.out _ _ _ _ _ _ _ _ (X2_4.out.rd.more (by (try simp) <;> omega)) V2.out (J3_4.out.ints.more (by (try simp) <;> omega)) (J4_4.out.ints.more (by (try simp) <;> omega)) HB.out).mono ?_
  rintro e w5 ⟨R5, t5, rs5, rfl, hown, hv, hb⟩
  clear qba0
  have Y5_5 := Lib.hid (hown.wide (lo' := w4.heap.size) (hi' := w5.heap.size) (by simp) (Nat.le_refl _))
  have V5 := Lib.hid hv
  clear hown hv
  have D5 := Lib.hid (hb)
  have s5 : w4.heap.size + 0 ≤ w5.heap.size := by have := hb.size; (try simp at this); omega
  have ba_5 := Lib.hid (ba_4.out.below D5.out (by omega))
  clear ba_4
  have X2_5 := Lib.hid (X2_4.out.below D5.out (by omega))
  clear X2_4
  have J3_5 := Lib.hid (J3_4.out.below D5.out (by omega))
  clear J3_4
  have J4_5 := Lib.hid (J4_4.out.below D5.out (by omega))
  clear J4_4
  have HB5 := Lib.hid (HB.out.trans (D5.out.mono (by omega)))
  clear HB
  have HB := HB5
  clear HB5 hb
  clear z_ba
  have z_ba : w.heap.size < w5.heap.size := by omega
  clear X2_5
  clear J3_5
  clear J4_5
  as_aux_lemma =>
    obtain ⟨qba0⟩ := ba_5.out
    go_wp2_with fail
    refine (Fc.toT_any Aa ca rsa _ (Ha.out.into (HB.out.trans ((al1 _ _).mono (by omega)))) hnl ROW.out).mono ?_
    rintro e w6 ⟨g6, c6, rs6, rfl, hk, hv, hb⟩
    clear qba0
    have X6_6 := Lib.hid (hk.wide (lo' := w5.heap.size + 1) (hi' := w6.heap.size) (by simp) (Nat.le_refl _))
    have V6 := Lib.hid hv
    clear hk hv
    have D6 := Lib.hid (on1 _ hb)
    have s6 : w5.heap.size + 1 ≤ w6.heap.size := by have := hb.size; (try simp at this); omega
    have ba_6 := Lib.hid (ba_5.out.below D6.out (by omega))
    clear ba_5
    have bw_6 := Lib.hid ((Box1.new w5 28 (.slice R5 rs5.length t5)).below hb (by simp))
    have Y5_6 := Lib.hid (Y5_5.out.below D6.out (by omega))
    clear Y5_5
    have HB6 := Lib.hid (HB.out.trans (D6.out.mono (by omega)))
    clear HB
    have HB := HB6
    clear HB6 hb
    clear z_ba
    have z_ba : w.heap.size < w6.heap.size := by omega
    have z_bw : w5.heap.size < w6.heap.size := by omega
    obtain ⟨qba0⟩ := ba_6.out
    obtain ⟨qbw0⟩ := bw_6.out
    go_wp2_with fail
    refine (toI_any Ax nx cx zx _ (Hx.out.into (HB.out.trans ((al1 _ _).mono (by omega)))) hnx).mono ?_
    rintro e w7 ⟨g7, rfl, hk, hb⟩
    clear qba0 qbw0
    have J7_7 := Lib.hid (hk.wide (lo' := w6.heap.size + 1) (hi' := w7.heap.size) (by simp) (Nat.le_refl _))
    clear hk
    have D7 := Lib.hid (on1 _ hb)
    have s7 : w6.heap.size + 1 ≤ w7.heap.size := by have := hb.size; (try simp at this); omega
    have ba_7 := Lib.hid (ba_6.out.below D7.out (by omega))
    clear ba_6
    have bw_7 := Lib.hid (bw_6.out.below D7.out (by omega))
    clear bw_6
    have bx_7 := Lib.hid ((Box1.new w6 28 (.slice (some ⟨g6, 0, none⟩) rs6.length c6)).below hb (by simp))
    have Y5_7 := Lib.hid (Y5_6.out.below D7.out (by omega))
    clear Y5_6
    have X6_7 := Lib.hid (X6_6.out.below D7.out (by omega))
    clear X6_6
    have HB7 := Lib.hid (HB.out.trans (D7.out.mono (by omega)))
    clear HB
    have HB := HB7
    clear HB7 hb
    clear z_ba
    have z_ba : w.heap.size < w7.heap.size := by omega
    clear z_bw
    have z_bw : w5.heap.size < w7.heap.size := by omega
    have z_bx : w6.heap.size < w7.heap.size := by omega
    obtain ⟨qba0⟩ := ba_7.out
    obtain ⟨qbw0⟩ := bw_7.out
    obtain ⟨qbx0⟩ := bx_7.out
    go_wp2_with fail
    refine (toI_any Ay ny cy zy _ (Hy.out.into HB.out) hny).mono ?_
    rintro e w8 ⟨g8, rfl, hk, hb⟩
    clear qba0 qbw0 qbx0
    have J8_8 := Lib.hid (hk.wide (lo' := w7.heap.size) (hi' := w8.heap.size) (by simp) (Nat.le_refl _))
    clear hk
    have D8 := Lib.hid (hb)
    have s8 : w7.heap.size + 0 ≤ w8.heap.size := by have := hb.size; (try simp at this); omega
    have ba_8 := Lib.hid (ba_7.out.below D8.out (by omega))
    clear ba_7
    have bw_8 := Lib.hid (bw_7.out.below D8.out (by omega))
    clear bw_7
    have bx_8 := Lib.hid (bx_7.out.below D8.out (by omega))
    clear bx_7
    have Y5_8 := Lib.hid (Y5_7.out.below D8.out (by omega))
    clear Y5_7
    have X6_8 := Lib.hid (X6_7.out.below D8.out (by omega))
    clear X6_7
    have J7_8 := Lib.hid (J7_7.out.below D8.out (by omega))
    clear J7_7
    have HB8 := Lib.hid (HB.out.trans (D8.out.mono (by omega)))
    clear HB
    have HB := HB8
    clear HB8 hb
    clear z_ba
    have z_ba : w.heap.size < w8.heap.size := by omega
    clear z_bw
    have z_bw : w5.heap.size < w8.heap.size := by omega
    clear z_bx
    have z_bx : w6.heap.size < w8.heap.size := by omega
    obtain ⟨qba0⟩ := ba_8.out
    obtain ⟨qbw0⟩ := bw_8.out
    obtain ⟨qbx0⟩ := bx_8.out
    go_wp2_with fail
    refine (HI.out _ _ _ _ _ _ _ _ (X6_8.out.rd.more (by (try simp) <;> omega)) V6.out (J7_8.out.ints.more (by (try simp) <;> omega)) (J8_8.out.ints.more (by (try simp) <;> omega)) HB.out).mono ?_
    rintro e w9 ⟨R9, t9, rs9, rfl, hown, hv, hb⟩
    clear qba0 qbw0 qbx0
    have Y9_9 := Lib.hid (hown.wide (lo' := w8.heap.size) (hi' := w9.heap.size) (by simp) (Nat.le_refl _))
    have V9 := Lib.hid hv
    clear hown hv
    have D9 := Lib.hid (hb)
    have s9 : w8.heap.size + 0 ≤ w9.heap.size := by have := hb.size; (try simp at this); omega
    have ba_9 := Lib.hid (ba_8.out.below D9.out (by omega))
    clear ba_8
    have bw_9 := Lib.hid (bw_8.out.below D9.out (by omega))
    clear bw_8
    have bx_9 := Lib.hid (bx_8.out.below D9.out (by omega))
    clear bx_8
    have Y5_9 := Lib.hid (Y5_8.out.below D9.out (by omega))
    clear Y5_8
    have X6_9 := Lib.hid (X6_8.out.below D9.out (by omega))
    clear X6_8
    have J7_9 := Lib.hid (J7_8.out.below D9.out (by omega))
    clear J7_8
    have J8_9 := Lib.hid (J8_8.out.below D9.out (by omega))
    clear J8_8
    have HB9 := Lib.hid (HB.out.trans (D9.out.mono (by omega)))
    clear HB
    have HB := HB9
    clear HB9 hb
    clear z_ba
    have z_ba : w.heap.size < w9.heap.size := by omega
    clear z_bw
    have z_bw : w5.heap.size < w9.heap.size := by omega
    clear z_bx
    have z_bx : w6.heap.size < w9.heap.size := by omega
    obtain ⟨qba0⟩ := ba_9.out
    obtain ⟨qbw0⟩ := bw_9.out
    obtain ⟨qbx0⟩ := bx_9.out
    go_wp2_with fail
    refine (Fc.eqT_any _ _ _ _ rs9 rs5 (w9.heap.size) (w5.heap.size) _ (Y9_9.out.al (by omega) (al1 _ _)).rd (Y5_9.out.al (by omega) (al1 _ _)).rd (V9.out.trans V5.out.symm) (by (try simp) <;> omega) (by (try simp) <;> omega) (HZ.out.len V9.out) (HZ.out.row V9.out)).mono ?_
    rintro e w10 ⟨rfl, hb⟩
    clear qba0 qbw0 qbx0
    have D10 := Lib.hid (on1 _ hb)
    have s10 : w9.heap.size + 1 ≤ w10.heap.size := by have := hb.size; (try simp at this); omega
    have ba_10 := Lib.hid (ba_9.out.below D10.out (by omega))
    clear ba_9
    have bw_10 := Lib.hid (bw_9.out.below D10.out (by omega))
    clear bw_9
    have bx_10 := Lib.hid (bx_9.out.below D10.out (by omega))
    clear bx_9
    have bg_10 := Lib.hid ((Box1.new w9 28 (.slice R9 rs9.length t9)).below hb (by simp))
    have Y5_10 := Lib.hid (Y5_9.out.below D10.out (by omega))
    clear Y5_9
    have X6_10 := Lib.hid (X6_9.out.below D10.out (by omega))
    clear X6_9
    have J7_10 := Lib.hid (J7_9.out.below D10.out (by omega))
    clear J7_9
    have J8_10 := Lib.hid (J8_9.out.below D10.out (by omega))
    clear J8_9
    have Y9_10 := Lib.hid (Y9_9.out.below D10.out (by omega))
    clear Y9_9
    have HB10 := Lib.hid (HB.out.trans (D10.out.mono (by omega)))
    clear HB
    have HB := HB10
    clear HB10 hb
    clear z_ba
    have z_ba : w.heap.size < w10.heap.size := by omega
    clear z_bw
    have z_bw : w5.heap.size < w10.heap.size := by omega
    clear z_bx
    have z_bx : w6.heap.size < w10.heap.size := by omega
    have z_bg : w9.heap.size < w10.heap.size := by omega
    as_aux_lemma =>
      obtain ⟨qba0⟩ := ba_10.out
      obtain ⟨qbw0⟩ := bw_10.out
      obtain ⟨qbx0⟩ := bx_10.out
      obtain ⟨qbg0⟩ := bg_10.out
      go_wp2_with fail
      go_region_held3 (fun W => (W.cell? ⟨w6.heap.size, 0, none⟩ = some (.slice (some ⟨g6, 0, none⟩) rs6.length c6)) ∧ (W.cell? ⟨w.heap.size, 0, none⟩ = some (.slice Aa rsa.length ca))) (go_keep)
        (first
          | (go_at_call 15; (with_reducible refine (Fc.toT_any Aa ca rsa _ (by exact Ha.out.into HB.out.drew) hnl ROW.out).mono ?_); rintro e w11 ⟨g11, c11, rs11, rfl, hk6, hv6, hb6'⟩; have hb6 := undrew hb6'; have KQ := Lib.hid hk6; have BQ := Lib.hid hb6; have VQ := Lib.hid hv6; have z6 := hb6.size; have e0 := (hb6.cell (p := ⟨w6.heap.size, 0, none⟩) (by dsimp only; omega)).trans bx_10.out.c; have f0 := (hb6.cell (p := ⟨w.heap.size, 0, none⟩) (by dsimp only; omega)).trans ba_10.out.c; clear hk6 hv6 hb6 hb6')
          | (go_at_call 17; (with_reducible refine (Fc.eqT_any _ _ _ _ rs6 _ (w6.heap.size) _ _ (by exact X6_10.out.rd.below (BQ.out.mono (by omega))) (by exact KQ.out.rd) (V6.out.trans VQ.out.symm) (by have := BQ.out.size; omega) (Nat.le_refl _) (by have := Fc.vals_same V6.out; omega) (Fc.rows_same V6.out ROW.out)).mono ?_); rintro e w12 ⟨rfl, hb7⟩; have m0 := (hb7.cell (p := ⟨w6.heap.size, 0, none⟩) (by dsimp only; omega)).trans e0; have y0 := (hb7.cell (p := ⟨w.heap.size, 0, none⟩) (by dsimp only; omega)).trans f0))
      clear e0 f0 m0 y0 KQ VQ
      clear qba0 qbw0 qbx0 qbg0
      have hb6 := BQ.out
      clear BQ
      have D11 := Lib.hid (hb6)
      have s11 : w10.heap.size + 0 ≤ w11.heap.size := by have := hb6.size; (try simp at this); omega
      have ba_11 := Lib.hid (ba_10.out.below D11.out (by omega))
      clear ba_10
      have bw_11 := Lib.hid (bw_10.out.below D11.out (by omega))
      clear bw_10
      have bx_11 := Lib.hid (bx_10.out.below D11.out (by omega))
      clear bx_10
      have bg_11 := Lib.hid (bg_10.out.below D11.out (by omega))
      clear bg_10
      have Y5_11 := Lib.hid (Y5_10.out.below D11.out (by omega))
      clear Y5_10
      have X6_11 := Lib.hid (X6_10.out.below D11.out (by omega))
      clear X6_10
      have J7_11 := Lib.hid (J7_10.out.below D11.out (by omega))
      clear J7_10
      have J8_11 := Lib.hid (J8_10.out.below D11.out (by omega))
      clear J8_10
      have Y9_11 := Lib.hid (Y9_10.out.below D11.out (by omega))
      clear Y9_10
      have HB11 := Lib.hid (HB.out.trans (D11.out.mono (by omega)))
      clear HB
      have HB := HB11
      clear HB11 hb6
      clear z_ba
      have z_ba : w.heap.size < w11.heap.size := by omega
      clear z_bw
      have z_bw : w5.heap.size < w11.heap.size := by omega
      clear z_bx
      have z_bx : w6.heap.size < w11.heap.size := by omega
      clear z_bg
      have z_bg : w9.heap.size < w11.heap.size := by omega
      have D12 := Lib.hid (hb7)
      have s12 : w11.heap.size + 0 ≤ w12.heap.size := by have := hb7.size; (try simp at this); omega
      have ba_12 := Lib.hid (ba_11.out.below D12.out (by omega))
      clear ba_11
      have bw_12 := Lib.hid (bw_11.out.below D12.out (by omega))
      clear bw_11
      have bx_12 := Lib.hid (bx_11.out.below D12.out (by omega))
      clear bx_11
      have bg_12 := Lib.hid (bg_11.out.below D12.out (by omega))
      clear bg_11
      have Y5_12 := Lib.hid (Y5_11.out.below D12.out (by omega))
      clear Y5_11
      have X6_12 := Lib.hid (X6_11.out.below D12.out (by omega))
      clear X6_11
      have J7_12 := Lib.hid (J7_11.out.below D12.out (by omega))
      clear J7_11
      have J8_12 := Lib.hid (J8_11.out.below D12.out (by omega))
      clear J8_11
      have Y9_12 := Lib.hid (Y9_11.out.below D12.out (by omega))
      clear Y9_11
      have HB12 := Lib.hid (HB.out.trans (D12.out.mono (by omega)))
      clear HB
      have HB := HB12
      clear HB12 hb7
      clear z_ba
      have z_ba : w.heap.size < w12.heap.size := by omega
      clear z_bw
      have z_bw : w5.heap.size < w12.heap.size := by omega
      clear z_bx
      have z_bx : w6.heap.size < w12.heap.size := by omega
      clear z_bg
      have z_bg : w9.heap.size < w12.heap.size := by omega
      as_aux_lemma =>
        obtain ⟨qba0⟩ := ba_12.out
        obtain ⟨qbw0⟩ := bw_12.out
        obtain ⟨qbx0⟩ := bx_12.out
        obtain ⟨qbg0⟩ := bg_12.out
        go_wp2_with fail
        refine (toI_any Ax nx cx zx _ (Hx.out.into HB.out) hnx).mono ?_
        rintro e w13 ⟨g13, rfl, hk, hb⟩
        clear qba0 qbw0 qbx0 qbg0
        have J13_13 := Lib.hid (hk.wide (lo' := w12.heap.size) (hi' := w13.heap.size) (by simp) (Nat.le_refl _))
        clear hk
        have D13 := Lib.hid (hb)
        have s13 : w12.heap.size + 0 ≤ w13.heap.size := by have := hb.size; (try simp at this); omega
        have ba_13 := Lib.hid (ba_12.out.below D13.out (by omega))
        clear ba_12
        have bw_13 := Lib.hid (bw_12.out.below D13.out (by omega))
        clear bw_12
        have bx_13 := Lib.hid (bx_12.out.below D13.out (by omega))
        clear bx_12
        have bg_13 := Lib.hid (bg_12.out.below D13.out (by omega))
        clear bg_12
        have Y5_13 := Lib.hid (Y5_12.out.below D13.out (by omega))
        clear Y5_12
        have X6_13 := Lib.hid (X6_12.out.below D13.out (by omega))
        clear X6_12
        have J7_13 := Lib.hid (J7_12.out.below D13.out (by omega))
        clear J7_12
        have J8_13 := Lib.hid (J8_12.out.below D13.out (by omega))
        clear J8_12
        have Y9_13 := Lib.hid (Y9_12.out.below D13.out (by omega))
        clear Y9_12
        have HB13 := Lib.hid (HB.out.trans (D13.out.mono (by omega)))
        clear HB
        have HB := HB13
        clear HB13 hb
        clear z_ba
        have z_ba : w.heap.size < w13.heap.size := by omega
        clear z_bw
        have z_bw : w5.heap.size < w13.heap.size := by omega
        clear z_bx
        have z_bx : w6.heap.size < w13.heap.size := by omega
        clear z_bg
        have z_bg : w9.heap.size < w13.heap.size := by omega
        obtain ⟨qba0⟩ := ba_13.out
        obtain ⟨qbw0⟩ := bw_13.out
        obtain ⟨qbx0⟩ := bx_13.out
        obtain ⟨qbg0⟩ := bg_13.out
        go_wp2_with fail
        refine (eqI_any _ _ nx _ _ zx (w7.heap.size) (w13.heap.size) _ J7_13.out.ints J13_13.out.ints hnx).mono ?_
        rintro e w14 ⟨rfl, hb⟩
        clear qba0 qbw0 qbx0 qbg0
        have D14 := Lib.hid (hb)
        have s14 : w13.heap.size + 0 ≤ w14.heap.size := by have := hb.size; (try simp at this); omega
        have ba_14 := Lib.hid (ba_13.out.below D14.out (by omega))
        clear ba_13
        have bw_14 := Lib.hid (bw_13.out.below D14.out (by omega))
        clear bw_13
        have bx_14 := Lib.hid (bx_13.out.below D14.out (by omega))
        clear bx_13
        have bg_14 := Lib.hid (bg_13.out.below D14.out (by omega))
        clear bg_13
        have Y5_14 := Lib.hid (Y5_13.out.below D14.out (by omega))
        clear Y5_13
        have X6_14 := Lib.hid (X6_13.out.below D14.out (by omega))
        clear X6_13
        have J7_14 := Lib.hid (J7_13.out.below D14.out (by omega))
        clear J7_13
        have J8_14 := Lib.hid (J8_13.out.below D14.out (by omega))
        clear J8_13
        have Y9_14 := Lib.hid (Y9_13.out.below D14.out (by omega))
        clear Y9_13
        have J13_14 := Lib.hid (J13_13.out.below D14.out (by omega))
        clear J13_13
        have HB14 := Lib.hid (HB.out.trans (D14.out.mono (by omega)))
        clear HB
        have HB := HB14
        clear HB14 hb
        clear z_ba
        have z_ba : w.heap.size < w14.heap.size := by omega
        clear z_bw
        have z_bw : w5.heap.size < w14.heap.size := by omega
        clear z_bx
        have z_bx : w6.heap.size < w14.heap.size := by omega
        clear z_bg
        have z_bg : w9.heap.size < w14.heap.size := by omega
        clear J13_14
        as_aux_lemma =>
          obtain ⟨qba0⟩ := ba_14.out
          obtain ⟨qbw0⟩ := bw_14.out
          obtain ⟨qbx0⟩ := bx_14.out
          obtain ⟨qbg0⟩ := bg_14.out
          go_wp2_with fail
          refine (toI_any Ay ny cy zy _ (Hy.out.into HB.out) hny).mono ?_
          rintro e w15 ⟨g15, rfl, hk, hb⟩
          clear qba0 qbw0 qbx0 qbg0
          have J15_15 := Lib.hid (hk.wide (lo' := w14.heap.size) (hi' := w15.heap.size) (by simp) (Nat.le_refl _))
          clear hk
          have D15 := Lib.hid (hb)
          have s15 : w14.heap.size + 0 ≤ w15.heap.size := by have := hb.size; (try simp at this); omega
          have ba_15 := Lib.hid (ba_14.out.below D15.out (by omega))
          clear ba_14
          have bw_15 := Lib.hid (bw_14.out.below D15.out (by omega))
          clear bw_14
          have bx_15 := Lib.hid (bx_14.out.below D15.out (by omega))
          clear bx_14
          have bg_15 := Lib.hid (bg_14.out.below D15.out (by omega))
          clear bg_14
          have Y5_15 := Lib.hid (Y5_14.out.below D15.out (by omega))
          clear Y5_14
          have X6_15 := Lib.hid (X6_14.out.below D15.out (by omega))
          clear X6_14
          have J7_15 := Lib.hid (J7_14.out.below D15.out (by omega))
          clear J7_14
          have J8_15 := Lib.hid (J8_14.out.below D15.out (by omega))
          clear J8_14
          have Y9_15 := Lib.hid (Y9_14.out.below D15.out (by omega))
          clear Y9_14
          have HB15 := Lib.hid (HB.out.trans (D15.out.mono (by omega)))
          clear HB
          have HB := HB15
          clear HB15 hb
          clear z_ba
          have z_ba : w.heap.size < w15.heap.size := by omega
          clear z_bw
          have z_bw : w5.heap.size < w15.heap.size := by omega
          clear z_bx
          have z_bx : w6.heap.size < w15.heap.size := by omega
          clear z_bg
          have z_bg : w9.heap.size < w15.heap.size := by omega
          obtain ⟨qba0⟩ := ba_15.out
          obtain ⟨qbw0⟩ := bw_15.out
          obtain ⟨qbx0⟩ := bx_15.out
          obtain ⟨qbg0⟩ := bg_15.out
          go_wp2_with fail
          refine (eqI_any _ _ ny _ _ zy (w8.heap.size) (w15.heap.size) _ J8_15.out.ints J15_15.out.ints hny).mono ?_
          rintro e w16 ⟨rfl, hb⟩
          clear qba0 qbw0 qbx0 qbg0
          have D16 := Lib.hid (hb)
          have s16 : w15.heap.size + 0 ≤ w16.heap.size := by have := hb.size; (try simp at this); omega
          have ba_16 := Lib.hid (ba_15.out.below D16.out (by omega))
          clear ba_15
          have bw_16 := Lib.hid (bw_15.out.below D16.out (by omega))
          clear bw_15
          have bx_16 := Lib.hid (bx_15.out.below D16.out (by omega))
          clear bx_15
          have bg_16 := Lib.hid (bg_15.out.below D16.out (by omega))
          clear bg_15
          have Y5_16 := Lib.hid (Y5_15.out.below D16.out (by omega))
          clear Y5_15
          have X6_16 := Lib.hid (X6_15.out.below D16.out (by omega))
          clear X6_15
          have J7_16 := Lib.hid (J7_15.out.below D16.out (by omega))
          clear J7_15
          have J8_16 := Lib.hid (J8_15.out.below D16.out (by omega))
          clear J8_15
          have Y9_16 := Lib.hid (Y9_15.out.below D16.out (by omega))
          clear Y9_15
          have J15_16 := Lib.hid (J15_15.out.below D16.out (by omega))
          clear J15_15
          have HB16 := Lib.hid (HB.out.trans (D16.out.mono (by omega)))
          clear HB
          have HB := HB16
          clear HB16 hb
          clear z_ba
          have z_ba : w.heap.size < w16.heap.size := by omega
          clear z_bw
          have z_bw : w5.heap.size < w16.heap.size := by omega
          clear z_bx
          have z_bx : w6.heap.size < w16.heap.size := by omega
          clear z_bg
          have z_bg : w9.heap.size < w16.heap.size := by omega
          clear J15_16
          as_aux_lemma =>
            obtain ⟨qba0⟩ := ba_16.out
            obtain ⟨qbw0⟩ := bw_16.out
            obtain ⟨qbx0⟩ := bx_16.out
            obtain ⟨qbg0⟩ := bg_16.out
            go_wp2_with fail
            have tx := Fc.tot_vals V6.out
            have lx := Fc.vals_same V6.out
            have tt2 := TT.out
            refine (Fc.markT_any (some ⟨g6, 0, none⟩) c6 _ rs6 (w5.heap.size + 1) (w6.heap.size) _ X6_16.out (by omega) (by omega) (by omega) (by omega)).mono ?_
            rintro e w17 ⟨rfl, hown, hk⟩
            have TX := Lib.hid (show Fc.tot rs6 ≤ 2097152 from by omega)
            clear X6_16 hown lx tx tt2
            clear qba0 qbw0 qbx0 qbg0
            have D17 := Lib.hid (hk)
            have s17 : w16.heap.size ≤ w17.heap.size := hk.size
            have ba_17 := Lib.hid (ba_16.out.kept D17.out (by omega) (by omega))
            clear ba_16
            have bw_17 := Lib.hid (bw_16.out.kept D17.out (by omega) (by omega))
            clear bw_16
            have bx_17 := Lib.hid (bx_16.out.kept D17.out (by omega) (by omega))
            clear bx_16
            have bg_17 := Lib.hid (bg_16.out.kept D17.out (by omega) (by omega))
            clear bg_16
            have Y5_17 := Lib.hid (Y5_16.out.kept D17.out (by omega) (by omega))
            clear Y5_16
            have J7_17 := Lib.hid (J7_16.out.kept D17.out (by omega) (by omega))
            clear J7_16
            have J8_17 := Lib.hid (J8_16.out.kept D17.out (by omega) (by omega))
            clear J8_16
            have Y9_17 := Lib.hid (Y9_16.out.kept D17.out (by omega) (by omega))
            clear Y9_16
            have HB17 := Lib.hid (HB.out.trans (D17.out.below (by omega) (by omega)))
            clear HB
            have HB := HB17
            clear HB17 hk
            clear z_ba
            have z_ba : w.heap.size < w17.heap.size := by omega
            clear z_bw
            have z_bw : w5.heap.size < w17.heap.size := by omega
            clear z_bx
            have z_bx : w6.heap.size < w17.heap.size := by omega
            clear z_bg
            have z_bg : w9.heap.size < w17.heap.size := by omega
            have tx7 : Fc.tot rs6 ≤ 2097152 := TX.out
            clear TX
            obtain ⟨qba0⟩ := ba_17.out
            obtain ⟨qbw0⟩ := bw_17.out
            obtain ⟨qbx0⟩ := bx_17.out
            obtain ⟨qbg0⟩ := bg_17.out
            go_wp2_with fail
            refine (markMine_any (some ⟨g7, 0, none⟩) nx _ _ zx (w6.heap.size + 1) (w7.heap.size) _ J7_17.out hnx (by omega) (by omega)).mono ?_
            rintro e w18 ⟨rfl, hown, hk⟩
            clear J7_17 hown
            clear qba0 qbw0 qbx0 qbg0
            have D18 := Lib.hid (hk)
            have s18 : w17.heap.size ≤ w18.heap.size := hk.size
            have ba_18 := Lib.hid (ba_17.out.kept D18.out (by omega) (by omega))
            clear ba_17
            have bw_18 := Lib.hid (bw_17.out.kept D18.out (by omega) (by omega))
            clear bw_17
            have bx_18 := Lib.hid (bx_17.out.kept D18.out (by omega) (by omega))
            clear bx_17
            have bg_18 := Lib.hid (bg_17.out.kept D18.out (by omega) (by omega))
            clear bg_17
            have Y5_18 := Lib.hid (Y5_17.out.kept D18.out (by omega) (by omega))
            clear Y5_17
            have J8_18 := Lib.hid (J8_17.out.kept D18.out (by omega) (by omega))
            clear J8_17
            have Y9_18 := Lib.hid (Y9_17.out.kept D18.out (by omega) (by omega))
            clear Y9_17
            have HB18 := Lib.hid (HB.out.trans (D18.out.below (by omega) (by omega)))
            clear HB
            have HB := HB18
            clear HB18 hk
            clear z_ba
            have z_ba : w.heap.size < w18.heap.size := by omega
            clear z_bw
            have z_bw : w5.heap.size < w18.heap.size := by omega
            clear z_bx
            have z_bx : w6.heap.size < w18.heap.size := by omega
            clear z_bg
            have z_bg : w9.heap.size < w18.heap.size := by omega
            obtain ⟨qba0⟩ := ba_18.out
            obtain ⟨qbw0⟩ := bw_18.out
            obtain ⟨qbx0⟩ := bx_18.out
            obtain ⟨qbg0⟩ := bg_18.out
            go_wp2_with fail
            refine (markMine_any (some ⟨g8, 0, none⟩) ny _ _ zy (w7.heap.size) (w8.heap.size) _ J8_18.out hny (by omega) (by omega)).mono ?_
            rintro e w19 ⟨rfl, hown, hk⟩
            clear J8_18 hown
            clear qba0 qbw0 qbx0 qbg0
            have D19 := Lib.hid (hk)
            have s19 : w18.heap.size ≤ w19.heap.size := hk.size
            have ba_19 := Lib.hid (ba_18.out.kept D19.out (by omega) (by omega))
            clear ba_18
            have bw_19 := Lib.hid (bw_18.out.kept D19.out (by omega) (by omega))
            clear bw_18
            have bx_19 := Lib.hid (bx_18.out.kept D19.out (by omega) (by omega))
            clear bx_18
            have bg_19 := Lib.hid (bg_18.out.kept D19.out (by omega) (by omega))
            clear bg_18
            have Y5_19 := Lib.hid (Y5_18.out.kept D19.out (by omega) (by omega))
            clear Y5_18
            have Y9_19 := Lib.hid (Y9_18.out.kept D19.out (by omega) (by omega))
            clear Y9_18
            have HB19 := Lib.hid (HB.out.trans (D19.out.below (by omega) (by omega)))
            clear HB
            have HB := HB19
            clear HB19 hk
            clear z_ba
            have z_ba : w.heap.size < w19.heap.size := by omega
            clear z_bw
            have z_bw : w5.heap.size < w19.heap.size := by omega
            clear z_bx
            have z_bx : w6.heap.size < w19.heap.size := by omega
            clear z_bg
            have z_bg : w9.heap.size < w19.heap.size := by omega
            have tx1 : decide ((1 : Int) + (Fc.tot rs6 : Int) + (nx : Int) + (ny : Int) < 0) = false := by simp; omega
            clear tx7
            obtain ⟨qba0⟩ := ba_19.out
            obtain ⟨qbw0⟩ := bw_19.out
            obtain ⟨qbx0⟩ := bx_19.out
            obtain ⟨qbg0⟩ := bg_19.out
            go_wp2_with fail
            refine (Fc.eqT_any _ _ _ _ rs9 rs5 (w9.heap.size) (w5.heap.size) _ Y9_19.out.rd Y5_19.out.rd (V9.out.trans V5.out.symm) (by (try simp) <;> omega) (by (try simp) <;> omega) (HZ.out.len V9.out) (HZ.out.row V9.out)).mono ?_
            rintro e w20 ⟨rfl, hb⟩
            clear qba0 qbw0 qbx0 qbg0
            have D20 := Lib.hid (hb)
            have s20 : w19.heap.size + 0 ≤ w20.heap.size := by have := hb.size; (try simp at this); omega
            have ba_20 := Lib.hid (ba_19.out.below D20.out (by omega))
            clear ba_19
            have bw_20 := Lib.hid (bw_19.out.below D20.out (by omega))
            clear bw_19
            have bx_20 := Lib.hid (bx_19.out.below D20.out (by omega))
            clear bx_19
            have bg_20 := Lib.hid (bg_19.out.below D20.out (by omega))
            clear bg_19
            have Y5_20 := Lib.hid (Y5_19.out.below D20.out (by omega))
            clear Y5_19
            have Y9_20 := Lib.hid (Y9_19.out.below D20.out (by omega))
            clear Y9_19
            have HB20 := Lib.hid (HB.out.trans (D20.out.mono (by omega)))
            clear HB
            have HB := HB20
            clear HB20 hb
            clear z_ba
            have z_ba : w.heap.size < w20.heap.size := by omega
            clear z_bw
            have z_bw : w5.heap.size < w20.heap.size := by omega
            clear z_bx
            have z_bx : w6.heap.size < w20.heap.size := by omega
            clear z_bg
            have z_bg : w9.heap.size < w20.heap.size := by omega
            as_aux_lemma =>
              obtain ⟨qba0⟩ := ba_20.out
              obtain ⟨qbw0⟩ := bw_20.out
              obtain ⟨qbx0⟩ := bx_20.out
              obtain ⟨qbg0⟩ := bg_20.out
              go_wp2_with fail
              refine (Fc.markT_any R9 t9 1 rs9 (w8.heap.size) (w9.heap.size) _ Y9_20.out (by omega) (HZ.out.tot V9.out) (by omega) (by omega)).mono ?_
              rintro e w21 ⟨rfl, hown, hk⟩
              have Y9_21 := Lib.hid hown
              clear Y9_20 hown
              clear qba0 qbw0 qbx0 qbg0
              have D21 := Lib.hid (hk)
              have s21 : w20.heap.size ≤ w21.heap.size := hk.size
              have ba_21 := Lib.hid (ba_20.out.kept D21.out (by omega) (by omega))
              clear ba_20
              have bw_21 := Lib.hid (bw_20.out.kept D21.out (by omega) (by omega))
              clear bw_20
              have bx_21 := Lib.hid (bx_20.out.kept D21.out (by omega) (by omega))
              clear bx_20
              have bg_21 := Lib.hid (bg_20.out.kept D21.out (by omega) (by omega))
              clear bg_20
              have Y5_21 := Lib.hid (Y5_20.out.kept D21.out (by omega) (by omega))
              clear Y5_20
              have HB21 := Lib.hid (HB.out.trans (D21.out.below (by omega) (by omega)))
              clear HB
              have HB := HB21
              clear HB21 hk
              clear z_ba
              have z_ba : w.heap.size < w21.heap.size := by omega
              clear z_bw
              have z_bw : w5.heap.size < w21.heap.size := by omega
              clear z_bx
              have z_bx : w6.heap.size < w21.heap.size := by omega
              clear z_bg
              have z_bg : w9.heap.size < w21.heap.size := by omega
              have tq : decide ((1 : Int) + (Fc.tot rs9 : Int) < 0) = false := by simp; omega
              obtain ⟨qba0⟩ := ba_21.out
              obtain ⟨qbw0⟩ := bw_21.out
              obtain ⟨qbx0⟩ := bx_21.out
              obtain ⟨qbg0⟩ := bg_21.out
              go_wp2_with fail
              refine (Fc.heldT_any R9 t9 1 rs9 (w9.heap.size) _ Y9_21.out.rd (by omega) (HZ.out.tot V9.out) (by omega) (by omega)).mono ?_
              rintro e w22 ⟨rfl, hb⟩
              clear qba0 qbw0 qbx0 qbg0
              have D22 := Lib.hid (hb)
              have s22 : w21.heap.size + 0 ≤ w22.heap.size := by have := hb.size; (try simp at this); omega
              have ba_22 := Lib.hid (ba_21.out.below D22.out (by omega))
              clear ba_21
              have bw_22 := Lib.hid (bw_21.out.below D22.out (by omega))
              clear bw_21
              have bx_22 := Lib.hid (bx_21.out.below D22.out (by omega))
              clear bx_21
              have bg_22 := Lib.hid (bg_21.out.below D22.out (by omega))
              clear bg_21
              have Y5_22 := Lib.hid (Y5_21.out.below D22.out (by omega))
              clear Y5_21
              have Y9_22 := Lib.hid (Y9_21.out.below D22.out (by omega))
              clear Y9_21
              have HB22 := Lib.hid (HB.out.trans (D22.out.mono (by omega)))
              clear HB
              have HB := HB22
              clear HB22 hb
              clear z_ba
              have z_ba : w.heap.size < w22.heap.size := by omega
              clear z_bw
              have z_bw : w5.heap.size < w22.heap.size := by omega
              clear z_bx
              have z_bx : w6.heap.size < w22.heap.size := by omega
              clear z_bg
              have z_bg : w9.heap.size < w22.heap.size := by omega
              as_aux_lemma =>
                obtain ⟨qba0⟩ := ba_22.out
                obtain ⟨qbw0⟩ := bw_22.out
                obtain ⟨qbx0⟩ := bx_22.out
                obtain ⟨qbg0⟩ := bg_22.out
                go_wp2_with fail
                refine (Fc.toT_any Aa ca rsa _ (Ha.out.into HB.out) hnl ROW.out).mono ?_
                rintro e w23 ⟨g23, c23, rs23, rfl, hk, hv, hb⟩
                clear qba0 qbw0 qbx0 qbg0
                have X23_23 := Lib.hid (hk.wide (lo' := w22.heap.size) (hi' := w23.heap.size) (by simp) (Nat.le_refl _))
                have V23 := Lib.hid hv
                clear hk hv
                have D23 := Lib.hid (hb)
                have s23 : w22.heap.size + 0 ≤ w23.heap.size := by have := hb.size; (try simp at this); omega
                have ba_23 := Lib.hid (ba_22.out.below D23.out (by omega))
                clear ba_22
                have bw_23 := Lib.hid (bw_22.out.below D23.out (by omega))
                clear bw_22
                have bx_23 := Lib.hid (bx_22.out.below D23.out (by omega))
                clear bx_22
                have bg_23 := Lib.hid (bg_22.out.below D23.out (by omega))
                clear bg_22
                have Y5_23 := Lib.hid (Y5_22.out.below D23.out (by omega))
                clear Y5_22
                have Y9_23 := Lib.hid (Y9_22.out.below D23.out (by omega))
                clear Y9_22
                have HB23 := Lib.hid (HB.out.trans (D23.out.mono (by omega)))
                clear HB
                have HB := HB23
                clear HB23 hb
                clear z_ba
                have z_ba : w.heap.size < w23.heap.size := by omega
                clear z_bw
                have z_bw : w5.heap.size < w23.heap.size := by omega
                clear z_bx
                have z_bx : w6.heap.size < w23.heap.size := by omega
                clear z_bg
                have z_bg : w9.heap.size < w23.heap.size := by omega
                obtain ⟨qba0⟩ := ba_23.out
                obtain ⟨qbw0⟩ := bw_23.out
                obtain ⟨qbx0⟩ := bx_23.out
                obtain ⟨qbg0⟩ := bg_23.out
                go_wp2_with fail
                refine (toI_any Ax nx cx zx _ (Hx.out.into HB.out) hnx).mono ?_
                rintro e w24 ⟨g24, rfl, hk, hb⟩
                clear qba0 qbw0 qbx0 qbg0
                have J24_24 := Lib.hid (hk.wide (lo' := w23.heap.size) (hi' := w24.heap.size) (by simp) (Nat.le_refl _))
                clear hk
                have D24 := Lib.hid (hb)
                have s24 : w23.heap.size + 0 ≤ w24.heap.size := by have := hb.size; (try simp at this); omega
                have ba_24 := Lib.hid (ba_23.out.below D24.out (by omega))
                clear ba_23
                have bw_24 := Lib.hid (bw_23.out.below D24.out (by omega))
                clear bw_23
                have bx_24 := Lib.hid (bx_23.out.below D24.out (by omega))
                clear bx_23
                have bg_24 := Lib.hid (bg_23.out.below D24.out (by omega))
                clear bg_23
                have Y5_24 := Lib.hid (Y5_23.out.below D24.out (by omega))
                clear Y5_23
                have Y9_24 := Lib.hid (Y9_23.out.below D24.out (by omega))
                clear Y9_23
                have X23_24 := Lib.hid (X23_23.out.below D24.out (by omega))
                clear X23_23
                have HB24 := Lib.hid (HB.out.trans (D24.out.mono (by omega)))
                clear HB
                have HB := HB24
                clear HB24 hb
                clear z_ba
                have z_ba : w.heap.size < w24.heap.size := by omega
                clear z_bw
                have z_bw : w5.heap.size < w24.heap.size := by omega
                clear z_bx
                have z_bx : w6.heap.size < w24.heap.size := by omega
                clear z_bg
                have z_bg : w9.heap.size < w24.heap.size := by omega
                obtain ⟨qba0⟩ := ba_24.out
                obtain ⟨qbw0⟩ := bw_24.out
                obtain ⟨qbx0⟩ := bx_24.out
                obtain ⟨qbg0⟩ := bg_24.out
                go_wp2_with fail
                refine (toI_any Ay ny cy zy _ (Hy.out.into HB.out) hny).mono ?_
                rintro e w25 ⟨g25, rfl, hk, hb⟩
                clear qba0 qbw0 qbx0 qbg0
                have J25_25 := Lib.hid (hk.wide (lo' := w24.heap.size) (hi' := w25.heap.size) (by simp) (Nat.le_refl _))
                clear hk
                have D25 := Lib.hid (hb)
                have s25 : w24.heap.size + 0 ≤ w25.heap.size := by have := hb.size; (try simp at this); omega
                have ba_25 := Lib.hid (ba_24.out.below D25.out (by omega))
                clear ba_24
                have bw_25 := Lib.hid (bw_24.out.below D25.out (by omega))
                clear bw_24
                have bx_25 := Lib.hid (bx_24.out.below D25.out (by omega))
                clear bx_24
                have bg_25 := Lib.hid (bg_24.out.below D25.out (by omega))
                clear bg_24
                have Y5_25 := Lib.hid (Y5_24.out.below D25.out (by omega))
                clear Y5_24
                have Y9_25 := Lib.hid (Y9_24.out.below D25.out (by omega))
                clear Y9_24
                have X23_25 := Lib.hid (X23_24.out.below D25.out (by omega))
                clear X23_24
                have J24_25 := Lib.hid (J24_24.out.below D25.out (by omega))
                clear J24_24
                have HB25 := Lib.hid (HB.out.trans (D25.out.mono (by omega)))
                clear HB
                have HB := HB25
                clear HB25 hb
                clear z_ba
                have z_ba : w.heap.size < w25.heap.size := by omega
                clear z_bw
                have z_bw : w5.heap.size < w25.heap.size := by omega
                clear z_bx
                have z_bx : w6.heap.size < w25.heap.size := by omega
                clear z_bg
                have z_bg : w9.heap.size < w25.heap.size := by omega
                obtain ⟨qba0⟩ := ba_25.out
                obtain ⟨qbw0⟩ := bw_25.out
                obtain ⟨qbx0⟩ := bx_25.out
                obtain ⟨qbg0⟩ := bg_25.out
                go_wp2_with fail
                refine (HI.out _ _ _ _ _ _ _ _ (X23_25.out.rd.more (by (try simp) <;> omega)) V23.out (J24_25.out.ints.more (by (try simp) <;> omega)) (J25_25.out.ints.more (by (try simp) <;> omega)) HB.out).mono ?_
                rintro e w26 ⟨R26, t26, rs26, rfl, hown, hv, hb⟩
                clear qba0 qbw0 qbx0 qbg0
                have Y26_26 := Lib.hid (hown.wide (lo' := w25.heap.size) (hi' := w26.heap.size) (by simp) (Nat.le_refl _))
                have V26 := Lib.hid hv
                clear hown hv
                have D26 := Lib.hid (hb)
                have s26 : w25.heap.size + 0 ≤ w26.heap.size := by have := hb.size; (try simp at this); omega
                have ba_26 := Lib.hid (ba_25.out.below D26.out (by omega))
                clear ba_25
                have bw_26 := Lib.hid (bw_25.out.below D26.out (by omega))
                clear bw_25
                have bx_26 := Lib.hid (bx_25.out.below D26.out (by omega))
                clear bx_25
                have bg_26 := Lib.hid (bg_25.out.below D26.out (by omega))
                clear bg_25
                have Y5_26 := Lib.hid (Y5_25.out.below D26.out (by omega))
                clear Y5_25
                have Y9_26 := Lib.hid (Y9_25.out.below D26.out (by omega))
                clear Y9_25
                have X23_26 := Lib.hid (X23_25.out.below D26.out (by omega))
                clear X23_25
                have J24_26 := Lib.hid (J24_25.out.below D26.out (by omega))
                clear J24_25
                have J25_26 := Lib.hid (J25_25.out.below D26.out (by omega))
                clear J25_25
                have HB26 := Lib.hid (HB.out.trans (D26.out.mono (by omega)))
                clear HB
                have HB := HB26
                clear HB26 hb
                clear z_ba
                have z_ba : w.heap.size < w26.heap.size := by omega
                clear z_bw
                have z_bw : w5.heap.size < w26.heap.size := by omega
                clear z_bx
                have z_bx : w6.heap.size < w26.heap.size := by omega
                clear z_bg
                have z_bg : w9.heap.size < w26.heap.size := by omega
                clear X23_26
                clear J24_26
                clear J25_26
                obtain ⟨qba0⟩ := ba_26.out
                obtain ⟨qbw0⟩ := bw_26.out
                obtain ⟨qbx0⟩ := bx_26.out
                obtain ⟨qbg0⟩ := bg_26.out
                go_wp2_with fail
                refine (Fc.eqT_any _ _ _ _ rs26 rs5 (w26.heap.size) (w5.heap.size) _ (Y26_26.out.al (by omega) (al1 _ _)).rd (Y5_26.out.al (by omega) (al1 _ _)).rd (V26.out.trans V5.out.symm) (by (try simp) <;> omega) (by (try simp) <;> omega) (HZ.out.len V26.out) (HZ.out.row V26.out)).mono ?_
                rintro e w27 ⟨rfl, hb⟩
                clear qba0 qbw0 qbx0 qbg0
                have D27 := Lib.hid (on1 _ hb)
                have s27 : w26.heap.size + 1 ≤ w27.heap.size := by have := hb.size; (try simp at this); omega
                have ba_27 := Lib.hid (ba_26.out.below D27.out (by omega))
                clear ba_26
                have bw_27 := Lib.hid (bw_26.out.below D27.out (by omega))
                clear bw_26
                have bx_27 := Lib.hid (bx_26.out.below D27.out (by omega))
                clear bx_26
                have bg_27 := Lib.hid (bg_26.out.below D27.out (by omega))
                clear bg_26
                have bh_27 := Lib.hid ((Box1.new w26 28 (.slice R26 rs26.length t26)).below hb (by simp))
                have Y5_27 := Lib.hid (Y5_26.out.below D27.out (by omega))
                clear Y5_26
                have Y9_27 := Lib.hid (Y9_26.out.below D27.out (by omega))
                clear Y9_26
                have Y26_27 := Lib.hid (Y26_26.out.below D27.out (by omega))
                clear Y26_26
                have HB27 := Lib.hid (HB.out.trans (D27.out.mono (by omega)))
                clear HB
                have HB := HB27
                clear HB27 hb
                clear z_ba
                have z_ba : w.heap.size < w27.heap.size := by omega
                clear z_bw
                have z_bw : w5.heap.size < w27.heap.size := by omega
                clear z_bx
                have z_bx : w6.heap.size < w27.heap.size := by omega
                clear z_bg
                have z_bg : w9.heap.size < w27.heap.size := by omega
                have z_bh : w26.heap.size < w27.heap.size := by omega
                as_aux_lemma =>
                  obtain ⟨qba0⟩ := ba_27.out
                  obtain ⟨qbw0⟩ := bw_27.out
                  obtain ⟨qbx0⟩ := bx_27.out
                  obtain ⟨qbg0⟩ := bg_27.out
                  obtain ⟨qbh0⟩ := bh_27.out
                  go_wp2_with fail
                  refine (Fc.heldT_any R9 t9 1 rs9 (w9.heap.size) _ Y9_27.out.rd (by omega) (HZ.out.tot V9.out) (by omega) (by omega)).mono ?_
                  rintro e w28 ⟨rfl, hb⟩
                  clear qba0 qbw0 qbx0 qbg0 qbh0
                  have D28 := Lib.hid (hb)
                  have s28 : w27.heap.size + 0 ≤ w28.heap.size := by have := hb.size; (try simp at this); omega
                  have ba_28 := Lib.hid (ba_27.out.below D28.out (by omega))
                  clear ba_27
                  have bw_28 := Lib.hid (bw_27.out.below D28.out (by omega))
                  clear bw_27
                  have bx_28 := Lib.hid (bx_27.out.below D28.out (by omega))
                  clear bx_27
                  have bg_28 := Lib.hid (bg_27.out.below D28.out (by omega))
                  clear bg_27
                  have bh_28 := Lib.hid (bh_27.out.below D28.out (by omega))
                  clear bh_27
                  have Y5_28 := Lib.hid (Y5_27.out.below D28.out (by omega))
                  clear Y5_27
                  have Y9_28 := Lib.hid (Y9_27.out.below D28.out (by omega))
                  clear Y9_27
                  have Y26_28 := Lib.hid (Y26_27.out.below D28.out (by omega))
                  clear Y26_27
                  have HB28 := Lib.hid (HB.out.trans (D28.out.mono (by omega)))
                  clear HB
                  have HB := HB28
                  clear HB28 hb
                  clear z_ba
                  have z_ba : w.heap.size < w28.heap.size := by omega
                  clear z_bw
                  have z_bw : w5.heap.size < w28.heap.size := by omega
                  clear z_bx
                  have z_bx : w6.heap.size < w28.heap.size := by omega
                  clear z_bg
                  have z_bg : w9.heap.size < w28.heap.size := by omega
                  clear z_bh
                  have z_bh : w26.heap.size < w28.heap.size := by omega
                  go_wp2
                  go_ret
                  exact ⟨rfl, HB.out⟩

end Go.Proofs.YtajbahfbldmckaaDoor
