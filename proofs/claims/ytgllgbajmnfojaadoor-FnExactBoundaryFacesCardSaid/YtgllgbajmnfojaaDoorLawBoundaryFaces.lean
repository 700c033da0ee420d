/- The law FnExactBoundaryFaces returns true for every triangulation that is passed in and changes no memory that was there. The card. No condition but the row's own. -/
import Derived.Test.YtgllgbajmnfojaaDoorFactBoundaryFaces
import Derived.Test.YtgllgbajmnfojaaDoorCrdBoundaryFaces
import Derived.Test.YtgllgbajmnfojaaDoorFcD
import Derived.Test.YtgllgbajmnfojaaDoorFcQ
import Derived.Test.YtgllgbajmnfojaaDoorLiftF
import Derived.Deep.RegionHeld3
import Derived.Outline
import Derived.Deep.Cut
namespace Go.Proofs.YtgllgbajmnfojaaDoor
open Go Go.ChangeShapes Go.WideShapes Go.ChangeAt Go.RowKit

/-- A box of one cell. -/
structure Box1 (w : World) (b : Nat) (x : Value) : Prop where
  c : w.cell? ⟨b, 0, none⟩ = some x
theorem Box1.below {w w' : World} {b : Nat} {x : Value} {B : Nat} (h : Box1 w b x) (hb : Below B w w') (hg : b < B) : Box1 w' b x := ⟨(hb.cell (p := ⟨b, 0, none⟩) hg).trans h.c⟩
theorem Box1.new (w : World) (t : TypeId) (x : Value) : Box1 (w.alloc (.cells #[x] t)) w.heap.size x := ⟨by simp [go_sem]⟩
theorem Box1.kept {w w' : World} {lo hi b : Nat} {x : Value} (h : Box1 w b x) (hk : Kept lo hi w w') (hg : b < w.heap.size) (hn : ¬ (lo ≤ b ∧ b < hi)) : Box1 w' b x := ⟨(World.cell?_of_block (a := ⟨b, 0, none⟩) (hk.block b hg hn)).trans h.c⟩

theorem Tr.small_row {rs : List Rw} {ll : List (List Int)} (h : vals rs = ll) (hz : ll.length ≤ 32 ∧ ∀ z ∈ ll, z.length ≤ 4) : ∀ r ∈ rs, r.zs.length ≤ 1048576 := fun r hr => by
  have := hz.2 r.zs (by rw [← h]; exact List.mem_map_of_mem hr)
  omega
theorem Tr.sum_small : ∀ (l : List (List Int)), (∀ z ∈ l, z.length ≤ 4) → (l.map List.length).sum ≤ 4 * l.length
  | [], _ => by simp
  | z :: l, h => by
    have h1 := h z (List.mem_cons_self ..)
    have h2 := sum_small l fun y hy => h y (List.mem_cons_of_mem _ hy)
    simp only [List.map_cons, List.sum_cons, List.length_cons]
    omega
theorem Tr.small_tot {rs : List Rw} {ll : List (List Int)} (h : vals rs = ll) (hz : ll.length ≤ 32 ∧ ∀ z ∈ ll, z.length ≤ 4) : rs.length + tot rs ≤ 1048576 := by
  rw [tot_sum, h, ← vals_len, h]
  have := Tr.sum_small ll hz.2
  omega

set_option maxHeartbeats 4000000 in
theorem boundary_spec (A : Option Addr) (c : Nat) (rs : List Fc.Rw) (w : World) (h : Fc.RdS w w.heap.size A rs) (hn : rs.length ≤ 1048576) :
    Calls Tryd.prog 22 #[.agg #[.slice A rs.length c]] w (ResRw w (Tr.bdry (Fc.vals rs))) := by
  have H := Lib.hid h
  have TI := Lib.hid (fun (W : World) (hb : Below w.heap.size w W) => Fc.isTri_spec A c rs W (H.out.into hb) hn)
  clear h
  by_cases hok : Tr.Is (Fc.vals rs)
  case neg =>
    rw [decide_eq_false hok] at TI
    have R := Lib.hid (show Tr.bdry (Fc.vals rs) = [] from by unfold Tr.bdry; rw [if_neg hok])
    clear hok
    go_enter Tryd.func22, Tryd.ntmps22
    go_wp2_with fail
    refine (TI.out _ (by first | exact Below.refl _ _ | exact al1 _ _)).mono ?_
    rintro e w1 ⟨rfl, hb⟩
    have D1 := Lib.hid (show Below w.heap.size w w1 from by first | exact on1 _ hb | exact hb)
    clear hb
    go_wp2
    go_ret
    exact ⟨none, 0, [], rfl, OwnS.nil _ _ _, by rw [R.out]; rfl, D1.out⟩
  rw [decide_eq_true hok] at TI
  have h8 : rs.length ≤ 8 := by rw [← Fc.vals_len]; exact hok.1
  have BS := Lib.hid (fun (W : World) (hb : Below w.heap.size w W) => boundary_specT A rs.length c (Fc.vals rs) W (H.out.into hb).rdt h8 hok.2.1)
  have R := Lib.hid (show Tr.bdry (Fc.vals rs) = Tr.bdl (Fc.vals rs) rs.length from by unfold Tr.bdry; rw [if_pos hok, Fc.vals_len])
  have K0 := Lib.hid (show (w.alloc (Obj.cells #[.slice A rs.length c] 29)).cell? ⟨w.heap.size, 0, none⟩ = some (.slice A rs.length c) from by simp [go_sem])
  clear hok
  go_enter Tryd.func22, Tryd.ntmps22
  go_wp2_with fail
  refine (TI.out _ (by first | exact Below.refl _ _ | exact al1 _ _)).mono ?_
  rintro e w1 ⟨rfl, hb⟩
  have D1 := Lib.hid (show Below w.heap.size w w1 from by first | exact on1 _ hb | exact hb)
  have k1 := (hb.cell (p := ⟨w.heap.size, 0, none⟩) (by simp)).trans K0.out
  clear hb
  go_wp2_with fail
  refine (BS.out _ D1.out).mono ?_
  rintro e w2 ⟨A', c', rs', rfl, hO, hV, hb⟩
  have D2 := Lib.hid (D1.out.trans (hb.mono D1.out.size))
  have O2 := Lib.hid (hO.wide D1.out.size (Nat.le_refl _))
  have V2 := Lib.hid hV
  clear hO hV hb
  go_wp2
  go_ret
  exact ⟨A', c', rs', rfl, O2.out, by rw [R.out]; exact V2.out, D2.out⟩

set_option maxRecDepth 100000 in
set_option maxHeartbeats 16000000 in
theorem exactBoundaryFaces (Aa : Option Addr) (ca : Nat) (rsa : List Fc.Rw) (ll : List (List Int)) (w : World) (ha : Fc.RdS w w.heap.size Aa rsa) (hna : rsa.length + Fc.cnt rsa ≤ 1048576) (hz : ll.length ≤ 32 ∧ ∀ z ∈ ll, z.length ≤ 4)
    (hs : ∀ (W : World) (A : Option Addr) (c : Nat) (qs : List Fc.Rw), Fc.RdS W W.heap.size A qs → Fc.vals qs = Fc.vals rsa → Below w.heap.size w W → Calls Tryd.prog 22 #[.agg #[.slice A qs.length c]] W (ResRw W ll))
    (hi : ∀ (W : World) (A : Option Addr) (c : Nat) (qs : List Fc.Rw), Fc.RdS W W.heap.size A qs → Fc.vals qs = Fc.vals rsa → Below w.heap.size w W → Calls Tryd.prog 23 #[.agg #[.slice A qs.length c]] W (ResRw W ll)) :
    Calls Tryd.prog 5 #[.agg #[.slice Aa rsa.length ca]] w fun e w' => e = .returned (.bool true) ∧ Below w.heap.size w w' := by
  have HS := Lib.hid hs
  have HI := Lib.hid hi
  clear hs hi
  have HB := Lib.hid (Below.refl w.heap.size w)
  have Ha := Lib.hid ha
  have HZ := Lib.hid hz
  clear ha hz
  have hnl : rsa.length ≤ 1048576 := by omega
  have hml : rsa.length ≤ maxLen := Nat.le_trans hnl (by unfold maxLen; omega)
  have ROW := Lib.hid (show ∀ r ∈ rsa, r.zs.length / 2 ≤ 1048576 from fun r hr => by have := Fc.row_le_cnt hr; omega)
  have EV := Lib.hid (show ∀ r ∈ rsa, r.zs.length % 2 = 0 from fun r hr => (Ha.out.1 r hr).le.2)
  have TT := Lib.hid (show Fc.tot rsa = 2 * Fc.cnt rsa from Fc.tot_cnt EV.out)
  have tl0 : decide ((1048576 : Int) - (rsa.length : Int) - (Fc.cnt rsa : Int) < 0) = false := by simp; omega
  go_enter Tryd.func5, Tryd.ntmps5
  go_wp2_with fail
  refine (Fc.szT_any Aa ca rsa _ _ (Ha.out.into (al1 _ _)) hml (by omega) (by omega)).mono ?_
  rintro e w1 ⟨rfl, hb⟩
  rw [if_neg (by omega)]
  have D1 := Lib.hid (on1 _ hb)
  have s1 : w.heap.size + 1 ≤ w1.heap.size := by have := hb.size; (try simp at this); omega
  have aa_1 := Lib.hid ((Box1.new w 24 (.slice Aa rsa.length ca)).below hb (by simp))
  have HB1 := Lib.hid (HB.out.trans (D1.out.mono (by omega)))
  clear HB
  have HB := HB1
  clear HB1 hb
  have z_aa : w.heap.size < w1.heap.size := by omega
  obtain ⟨qaa0⟩ := aa_1.out
  go_wp2_with fail
  refine (Fc.toT_any Aa ca rsa _ (Ha.out.into HB.out) hnl ROW.out).mono ?_
  rintro e w2 ⟨g2, c2, rs2, rfl, hk, hv, hb⟩
  clear qaa0
  have X2_2 := Lib.hid (hk.wide (lo' := w1.heap.size) (hi' := w2.heap.size) (by simp) (Nat.le_refl _))
  have V2 := Lib.hid hv
  clear hk hv
  have D2 := Lib.hid (hb)
  have s2 : w1.heap.size + 0 ≤ w2.heap.size := by have := hb.size; (try simp at this); omega
  have aa_2 := Lib.hid (aa_1.out.below D2.out (by omega))
  clear aa_1
  have HB2 := Lib.hid (HB.out.trans (D2.out.mono (by omega)))
  clear HB
  have HB := HB2
  clear HB2 hb
  clear z_aa
  have z_aa : w.heap.size < w2.heap.size := by omega
  obtain ⟨qaa0⟩ := aa_2.out
  go_wp2_with fail
  refine (HS.out _ _ _ _ (X2_2.out.rd.more (by (try simp) <;> omega)) V2.out HB.out).mono ?_
  rintro e w3 ⟨R3, t3, rs3, rfl, hown, hv, hb⟩
  clear qaa0
  have Y3_3 := Lib.hid (hown.wide (lo' := w2.heap.size) (hi' := w3.heap.size) (by simp) (Nat.le_refl _))
  have V3 := Lib.hid hv
  clear hown hv
  have D3 := Lib.hid (hb)
  have s3 : w2.heap.size + 0 ≤ w3.heap.size := by have := hb.size; (try simp at this); omega
  have aa_3 := Lib.hid (aa_2.out.below D3.out (by omega))
  clear aa_2
  have X2_3 := Lib.hid (X2_2.out.below D3.out (by omega))
  clear X2_2
  have HB3 := Lib.hid (HB.out.trans (D3.out.mono (by omega)))
  clear HB
  have HB := HB3
  clear HB3 hb
  clear z_aa
  have z_aa : w.heap.size < w3.heap.size := by omega
  clear X2_3
  as_aux_lemma =>
    obtain ⟨qaa0⟩ := aa_3.out
    go_wp2_with fail
    refine (Fc.toT_any Aa ca rsa _ (Ha.out.into HB.out) hnl ROW.out).mono ?_
    rintro e w4 ⟨g4, c4, rs4, rfl, hk, hv, hb⟩
    clear qaa0
    have X4_4 := Lib.hid (hk.wide (lo' := w3.heap.size) (hi' := w4.heap.size) (by simp) (Nat.le_refl _))
    have V4 := Lib.hid hv
    clear hk hv
    have D4 := Lib.hid (hb)
    have s4 : w3.heap.size + 0 ≤ w4.heap.size := by have := hb.size; (try simp at this); omega
    have aa_4 := Lib.hid (aa_3.out.below D4.out (by omega))
    clear aa_3
    have Y3_4 := Lib.hid (Y3_3.out.below D4.out (by omega))
    clear Y3_3
    have HB4 := Lib.hid (HB.out.trans (D4.out.mono (by omega)))
    clear HB
    have HB := HB4
    clear HB4 hb
    clear z_aa
    have z_aa : w.heap.size < w4.heap.size := by omega
    obtain ⟨qaa0⟩ := aa_4.out
    go_wp2_with fail
    refine (HI.out _ _ _ _ ((X4_4.out.al (by omega) (al1 _ _)).rd.more (by (try simp) <;> omega)) V4.out (HB.out.trans ((al1 _ _).mono (by omega)))).mono ?_
    rintro e w5 ⟨R5, t5, rs5, rfl, hown, hv, hb⟩
    clear qaa0
    have Y5_5 := Lib.hid (hown.wide (lo' := w4.heap.size + 1) (hi' := w5.heap.size) (by simp) (Nat.le_refl _))
    have V5 := Lib.hid hv
    clear hown hv
    have D5 := Lib.hid (on1 _ hb)
    have s5 : w4.heap.size + 1 ≤ w5.heap.size := by have := hb.size; (try simp at this); omega
    have aa_5 := Lib.hid (aa_4.out.below D5.out (by omega))
    clear aa_4
    have bx_5 := Lib.hid ((Box1.new w4 29 (.slice (some ⟨g4, 0, none⟩) rs4.length c4)).below hb (by simp))
    have Y3_5 := Lib.hid (Y3_4.out.below D5.out (by omega))
    clear Y3_4
    have X4_5 := Lib.hid (X4_4.out.below D5.out (by omega))
    clear X4_4
    have HB5 := Lib.hid (HB.out.trans (D5.out.mono (by omega)))
    clear HB
    have HB := HB5
    clear HB5 hb
    clear z_aa
    have z_aa : w.heap.size < w5.heap.size := by omega
    have z_bx : w4.heap.size < w5.heap.size := by omega
    as_aux_lemma =>
      obtain ⟨qaa0⟩ := aa_5.out
      obtain ⟨qbx0⟩ := bx_5.out
      go_wp2_with fail
      refine (eqSS_any _ _ _ _ rs5 rs3 (w5.heap.size) (w3.heap.size) _ Y5_5.out.rd Y3_5.out.rd (V5.out.trans V3.out.symm) (by omega) (by omega) (by have h1 := Tr.small_tot V5.out HZ.out; omega) (Tr.small_row V5.out HZ.out)).mono ?_
      rintro e w6 ⟨rfl, hb⟩
      clear qaa0 qbx0
      have D6 := Lib.hid (hb)
      have s6 : w5.heap.size + 0 ≤ w6.heap.size := by have := hb.size; (try simp at this); omega
      have aa_6 := Lib.hid (aa_5.out.below D6.out (by omega))
      clear aa_5
      have bx_6 := Lib.hid (bx_5.out.below D6.out (by omega))
      clear bx_5
      have Y3_6 := Lib.hid (Y3_5.out.below D6.out (by omega))
      clear Y3_5
      have X4_6 := Lib.hid (X4_5.out.below D6.out (by omega))
      clear X4_5
      have Y5_6 := Lib.hid (Y5_5.out.below D6.out (by omega))
      clear Y5_5
      have HB6 := Lib.hid (HB.out.trans (D6.out.mono (by omega)))
      clear HB
      have HB := HB6
      clear HB6 hb
      clear z_aa
      have z_aa : w.heap.size < w6.heap.size := by omega
      clear z_bx
      have z_bx : w4.heap.size < w6.heap.size := by omega
      obtain ⟨qaa0⟩ := aa_6.out
      obtain ⟨qbx0⟩ := bx_6.out
      go_wp2_with fail
      go_region_held3 (fun W => (W.cell? ⟨w4.heap.size, 0, none⟩ = some (.slice (some ⟨g4, 0, none⟩) rs4.length c4)) ∧ (W.cell? ⟨w.heap.size, 0, none⟩ = some (.slice Aa rsa.length ca))) (go_keep)
        (first
          | (go_at_call 17; (with_reducible refine (Fc.toT_any Aa ca rsa _ (by exact Ha.out.into HB.out.drew) hnl ROW.out).mono ?_); rintro e w7 ⟨g7, c7, rs7, rfl, hk6, hv6, hb6'⟩; have hb6 := undrew hb6'; have K6 := Lib.hid hk6; have B6 := Lib.hid hb6; have V6 := Lib.hid hv6; have z6 := hb6.size; have e0 := (hb6.cell (p := ⟨w4.heap.size, 0, none⟩) (by dsimp only; omega)).trans bx_6.out.c; have f0 := (hb6.cell (p := ⟨w.heap.size, 0, none⟩) (by dsimp only; omega)).trans aa_6.out.c; clear hk6 hv6 hb6 hb6')
          | (go_at_call 19; (with_reducible refine (Fc.eqT_any _ _ _ _ rs4 _ (w4.heap.size) _ _ (by exact X4_6.out.rd.below (B6.out.mono (by omega))) (by exact K6.out.rd) (V4.out.trans V6.out.symm) (by have := B6.out.size; omega) (Nat.le_refl _) (by have := Fc.vals_same V4.out; omega) (Fc.rows_same V4.out ROW.out)).mono ?_); rintro e w8 ⟨rfl, hb7⟩; have m0 := (hb7.cell (p := ⟨w4.heap.size, 0, none⟩) (by dsimp only; omega)).trans e0; have y0 := (hb7.cell (p := ⟨w.heap.size, 0, none⟩) (by dsimp only; omega)).trans f0))
      clear e0 f0 m0 y0 K6 V6
      clear qaa0 qbx0
      have hb6 := B6.out
      clear B6
      have D7 := Lib.hid (hb6)
      have s7 : w6.heap.size + 0 ≤ w7.heap.size := by have := hb6.size; (try simp at this); omega
      have aa_7 := Lib.hid (aa_6.out.below D7.out (by omega))
      clear aa_6
      have bx_7 := Lib.hid (bx_6.out.below D7.out (by omega))
      clear bx_6
      have Y3_7 := Lib.hid (Y3_6.out.below D7.out (by omega))
      clear Y3_6
      have X4_7 := Lib.hid (X4_6.out.below D7.out (by omega))
      clear X4_6
      have Y5_7 := Lib.hid (Y5_6.out.below D7.out (by omega))
      clear Y5_6
      have HB7 := Lib.hid (HB.out.trans (D7.out.mono (by omega)))
      clear HB
      have HB := HB7
      clear HB7 hb6
      clear z_aa
      have z_aa : w.heap.size < w7.heap.size := by omega
      clear z_bx
      have z_bx : w4.heap.size < w7.heap.size := by omega
      have D8 := Lib.hid (hb7)
      have s8 : w7.heap.size + 0 ≤ w8.heap.size := by have := hb7.size; (try simp at this); omega
      have aa_8 := Lib.hid (aa_7.out.below D8.out (by omega))
      clear aa_7
      have bx_8 := Lib.hid (bx_7.out.below D8.out (by omega))
      clear bx_7
      have Y3_8 := Lib.hid (Y3_7.out.below D8.out (by omega))
      clear Y3_7
      have X4_8 := Lib.hid (X4_7.out.below D8.out (by omega))
      clear X4_7
      have Y5_8 := Lib.hid (Y5_7.out.below D8.out (by omega))
      clear Y5_7
      have HB8 := Lib.hid (HB.out.trans (D8.out.mono (by omega)))
      clear HB
      have HB := HB8
      clear HB8 hb7
      clear z_aa
      have z_aa : w.heap.size < w8.heap.size := by omega
      clear z_bx
      have z_bx : w4.heap.size < w8.heap.size := by omega
      as_aux_lemma =>
        obtain ⟨qaa0⟩ := aa_8.out
        obtain ⟨qbx0⟩ := bx_8.out
        go_wp2_with fail
        have tx := Fc.tot_vals V4.out
        have lx := Fc.vals_same V4.out
        have tt2 := TT.out
        refine (Fc.markT_any (some ⟨g4, 0, none⟩) c4 1 rs4 (w3.heap.size) (w4.heap.size) _ X4_8.out (by omega) (by omega) (by omega) (by omega)).mono ?_
        rintro e w9 ⟨rfl, hown, hk⟩
        have TX := Lib.hid (show Fc.tot rs4 ≤ 2097152 from by omega)
        clear X4_8 hown lx tx tt2
        clear qaa0 qbx0
        have D9 := Lib.hid (hk)
        have s9 : w8.heap.size ≤ w9.heap.size := hk.size
        have aa_9 := Lib.hid (aa_8.out.kept D9.out (by omega) (by omega))
        clear aa_8
        have bx_9 := Lib.hid (bx_8.out.kept D9.out (by omega) (by omega))
        clear bx_8
        have Y3_9 := Lib.hid (Y3_8.out.kept D9.out (by omega) (by omega))
        clear Y3_8
        have Y5_9 := Lib.hid (Y5_8.out.kept D9.out (by omega) (by omega))
        clear Y5_8
        have HB9 := Lib.hid (HB.out.trans (D9.out.below (by omega) (by omega)))
        clear HB
        have HB := HB9
        clear HB9 hk
        clear z_aa
        have z_aa : w.heap.size < w9.heap.size := by omega
        clear z_bx
        have z_bx : w4.heap.size < w9.heap.size := by omega
        have tx9 : Fc.tot rs4 ≤ 2097152 := TX.out
        have tx1 : decide ((1 : Int) + (Fc.tot rs4 : Int) < 0) = false := by simp; omega
        clear tx9
        obtain ⟨qaa0⟩ := aa_9.out
        obtain ⟨qbx0⟩ := bx_9.out
        go_wp2_with fail
        refine (eqSS_any _ _ _ _ rs5 rs3 (w5.heap.size) (w3.heap.size) _ Y5_9.out.rd Y3_9.out.rd (V5.out.trans V3.out.symm) (by omega) (by omega) (by have h1 := Tr.small_tot V5.out HZ.out; omega) (Tr.small_row V5.out HZ.out)).mono ?_
        rintro e w10 ⟨rfl, hb⟩
        clear qaa0 qbx0
        have D10 := Lib.hid (hb)
        have s10 : w9.heap.size + 0 ≤ w10.heap.size := by have := hb.size; (try simp at this); omega
        have aa_10 := Lib.hid (aa_9.out.below D10.out (by omega))
        clear aa_9
        have bx_10 := Lib.hid (bx_9.out.below D10.out (by omega))
        clear bx_9
        have Y3_10 := Lib.hid (Y3_9.out.below D10.out (by omega))
        clear Y3_9
        have Y5_10 := Lib.hid (Y5_9.out.below D10.out (by omega))
        clear Y5_9
        have HB10 := Lib.hid (HB.out.trans (D10.out.mono (by omega)))
        clear HB
        have HB := HB10
        clear HB10 hb
        clear z_aa
        have z_aa : w.heap.size < w10.heap.size := by omega
        clear z_bx
        have z_bx : w4.heap.size < w10.heap.size := by omega
        as_aux_lemma =>
          obtain ⟨qaa0⟩ := aa_10.out
          obtain ⟨qbx0⟩ := bx_10.out
          go_wp2_with fail
          refine (markSS_any R5 t5 1 rs5 (w4.heap.size + 1) (w5.heap.size) _ Y5_10.out (by omega) (Tr.small_tot V5.out HZ.out) (by omega) (by omega)).mono ?_
          rintro e w11 ⟨rfl, hown, hk⟩
          have Y5_11 := Lib.hid hown
          clear Y5_10 hown
          clear qaa0 qbx0
          have D11 := Lib.hid (hk)
          have s11 : w10.heap.size ≤ w11.heap.size := hk.size
          have aa_11 := Lib.hid (aa_10.out.kept D11.out (by omega) (by omega))
          clear aa_10
          have bx_11 := Lib.hid (bx_10.out.kept D11.out (by omega) (by omega))
          clear bx_10
          have Y3_11 := Lib.hid (Y3_10.out.kept D11.out (by omega) (by omega))
          clear Y3_10
          have HB11 := Lib.hid (HB.out.trans (D11.out.below (by omega) (by omega)))
          clear HB
          have HB := HB11
          clear HB11 hk
          clear z_aa
          have z_aa : w.heap.size < w11.heap.size := by omega
          clear z_bx
          have z_bx : w4.heap.size < w11.heap.size := by omega
          have tq : decide ((1 : Int) + (tot rs5 : Int) < 0) = false := by simp; omega
          obtain ⟨qaa0⟩ := aa_11.out
          obtain ⟨qbx0⟩ := bx_11.out
          go_wp2_with fail
          refine (heldSS_any R5 t5 1 rs5 (w5.heap.size) _ Y5_11.out.rd (Tr.small_tot V5.out HZ.out) (by omega) (by omega)).mono ?_
          rintro e w' ⟨rfl, rfl⟩
          clear qaa0 qbx0
          as_aux_lemma =>
            obtain ⟨qaa0⟩ := aa_11.out
            obtain ⟨qbx0⟩ := bx_11.out
            go_wp2_with fail
            refine (Fc.toT_any Aa ca rsa _ (Ha.out.into HB.out) hnl ROW.out).mono ?_
            rintro e w12 ⟨g12, c12, rs12, rfl, hk, hv, hb⟩
            clear qaa0 qbx0
            have X12_12 := Lib.hid (hk.wide (lo' := w11.heap.size) (hi' := w12.heap.size) (by simp) (Nat.le_refl _))
            have V12 := Lib.hid hv
            clear hk hv
            have D12 := Lib.hid (hb)
            have s12 : w11.heap.size + 0 ≤ w12.heap.size := by have := hb.size; (try simp at this); omega
            have aa_12 := Lib.hid (aa_11.out.below D12.out (by omega))
            clear aa_11
            have bx_12 := Lib.hid (bx_11.out.below D12.out (by omega))
            clear bx_11
            have Y3_12 := Lib.hid (Y3_11.out.below D12.out (by omega))
            clear Y3_11
            have Y5_12 := Lib.hid (Y5_11.out.below D12.out (by omega))
            clear Y5_11
            have HB12 := Lib.hid (HB.out.trans (D12.out.mono (by omega)))
            clear HB
            have HB := HB12
            clear HB12 hb
            clear z_aa
            have z_aa : w.heap.size < w12.heap.size := by omega
            clear z_bx
            have z_bx : w4.heap.size < w12.heap.size := by omega
            obtain ⟨qaa0⟩ := aa_12.out
            obtain ⟨qbx0⟩ := bx_12.out
            go_wp2_with fail
            refine (HI.out _ _ _ _ (X12_12.out.rd.more (by (try simp) <;> omega)) V12.out HB.out).mono ?_
            rintro e w13 ⟨R13, t13, rs13, rfl, hown, hv, hb⟩
            clear qaa0 qbx0
            have Y13_13 := Lib.hid (hown.wide (lo' := w12.heap.size) (hi' := w13.heap.size) (by simp) (Nat.le_refl _))
            have V13 := Lib.hid hv
            clear hown hv
            have D13 := Lib.hid (hb)
            have s13 : w12.heap.size + 0 ≤ w13.heap.size := by have := hb.size; (try simp at this); omega
            have aa_13 := Lib.hid (aa_12.out.below D13.out (by omega))
            clear aa_12
            have bx_13 := Lib.hid (bx_12.out.below D13.out (by omega))
            clear bx_12
            have Y3_13 := Lib.hid (Y3_12.out.below D13.out (by omega))
            clear Y3_12
            have Y5_13 := Lib.hid (Y5_12.out.below D13.out (by omega))
            clear Y5_12
            have X12_13 := Lib.hid (X12_12.out.below D13.out (by omega))
            clear X12_12
            have HB13 := Lib.hid (HB.out.trans (D13.out.mono (by omega)))
            clear HB
            have HB := HB13
            clear HB13 hb
            clear z_aa
            have z_aa : w.heap.size < w13.heap.size := by omega
            clear z_bx
            have z_bx : w4.heap.size < w13.heap.size := by omega
            clear X12_13
            obtain ⟨qaa0⟩ := aa_13.out
            obtain ⟨qbx0⟩ := bx_13.out
            go_wp2_with fail
            refine (eqSS_any _ _ _ _ rs13 rs3 (w13.heap.size) (w3.heap.size) _ Y13_13.out.rd Y3_13.out.rd (V13.out.trans V3.out.symm) (by omega) (by omega) (by have h1 := Tr.small_tot V13.out HZ.out; omega) (Tr.small_row V13.out HZ.out)).mono ?_
            rintro e w14 ⟨rfl, hb⟩
            clear qaa0 qbx0
            have D14 := Lib.hid (hb)
            have s14 : w13.heap.size + 0 ≤ w14.heap.size := by have := hb.size; (try simp at this); omega
            have aa_14 := Lib.hid (aa_13.out.below D14.out (by omega))
            clear aa_13
            have bx_14 := Lib.hid (bx_13.out.below D14.out (by omega))
            clear bx_13
            have Y3_14 := Lib.hid (Y3_13.out.below D14.out (by omega))
            clear Y3_13
            have Y5_14 := Lib.hid (Y5_13.out.below D14.out (by omega))
            clear Y5_13
            have Y13_14 := Lib.hid (Y13_13.out.below D14.out (by omega))
            clear Y13_13
            have HB14 := Lib.hid (HB.out.trans (D14.out.mono (by omega)))
            clear HB
            have HB := HB14
            clear HB14 hb
            clear z_aa
            have z_aa : w.heap.size < w14.heap.size := by omega
            clear z_bx
            have z_bx : w4.heap.size < w14.heap.size := by omega
            obtain ⟨qaa0⟩ := aa_14.out
            obtain ⟨qbx0⟩ := bx_14.out
            go_wp2_with fail
            refine (heldSS_any R5 t5 1 rs5 (w5.heap.size) _ Y5_14.out.rd (Tr.small_tot V5.out HZ.out) (by omega) (by omega)).mono ?_
            rintro e w' ⟨rfl, rfl⟩
            clear qaa0 qbx0
            go_wp2
            go_ret
            exact ⟨rfl, HB.out⟩

set_option maxHeartbeats 2000000 in
theorem bigBoundaryFaces (A : Option Addr) (c : Nat) (rs : List Fc.Rw) (w : World) (h : Fc.RdS w w.heap.size A rs) (hm : rs.length ≤ maxLen) (hn : ¬ rs.length + Fc.cnt rs ≤ 1048576) :
    Calls Tryd.prog 5 #[.agg #[.slice A rs.length c]] w fun e w' => e = .returned (.bool true) ∧ Below w.heap.size w w' := by
  have H := Lib.hid h
  clear h
  go_enter Tryd.func5, Tryd.ntmps5
  go_wp2_with fail
  refine (Fc.szT_any A c rs 1048576 _ (H.out.into (al1 _ _)) hm (by omega) (by omega)).mono ?_
  rintro e w' ⟨rfl, hb⟩
  rw [if_pos (by omega)]
  have D := Lib.hid (on1 _ hb)
  clear hb
  go_wp2
  go_ret
  exact ⟨rfl, D.out⟩
theorem allBoundaryFaces (A : Option Addr) (c : Nat) (rs : List Fc.Rw) (w : World) (h : Fc.RdS w w.heap.size A rs) (hm : rs.length ≤ maxLen) (ht : Fc.Vs w) :
    Calls Tryd.prog 5 #[.agg #[.slice A rs.length c]] w fun e w' => e = .returned (.bool true) ∧ Below w.heap.size w w' := by
  by_cases hn : rs.length + Fc.cnt rs ≤ 1048576
  case neg => exact bigBoundaryFaces A c rs w h hm hn
  · have h0 := ht.pos
    exact exactBoundaryFaces A c rs (Tr.bdry (Fc.vals rs)) w h hn (Tr.bdry_small _)
      (fun W A' c' us h2 hv2 _ => by have := boundary_spec A' c' us W h2 (by rw [Fc.vals_same hv2]; omega); rw [hv2] at this; exact this)
      (fun W A' c' us h2 hv2 hb => by have := boundary_implT A' us.length c' (Fc.vals us) W h2.rdt (ht.below hb h0.1) (by rw [Fc.vals_same hv2]; omega); rw [hv2] at this; exact this)

set_option maxRecDepth 100000 in
theorem exactBoundaryFaces_lifted (os : Os) (started : os.Started) (H : Type) (enc : TypeId × Value → H) :
    ReturnsInHanded {} Tryd.checked os 5 .any (fun w args => (Rows.fnExactBoundaryFacesSpec.pre enc Tryd.prog Tryd.f5 [] false w args ∧ laidMetH Tryd.prog Fc.lawLaid w) ∧ sizedMet enc Tryd.prog Tryd.f5 (OpenSpec.ofChange Rows.fnExactBoundaryFacesSpec) false w args)
      (Rows.fnExactBoundaryFacesSpec.post enc Tryd.prog Tryd.f5 false true false false) := by
  refine returnsInHanded_of_change_and (C := Tryd.checked) (X := fun w _ => laidMetH Tryd.prog Fc.lawLaid w) (fun _ _ _ hh h => h.of_heap hh) own started (by kernel_rfl) Tryd.func5
    (ChangeSpec.witness_shaped (enc := enc) (C := Tryd.checked) (os := os) (X := fun w _ => laidMetH Tryd.prog Fc.lawLaid w) false (World.doorLaid Tryd.prog Fc.doorN os) #[.agg #[.slice none 0 0]] 8 rfl (World.shaped_of_RefB (by kernel_rfl) (by kernel_rfl)) (by kernel_rfl) (by kernel_rfl) (by kernel_rfl) (Fc.door_met os _)) ?_
  intro W base args ds gs before hval0 hW _ _ hL _
  have hval : ∀ (j : Nat) t v, Tryd.f5.params[j]? = some t → args[j]? = some v → Value.okWide Tryd.prog W .any base t v := hval0
  have hW' := hW
  obtain ⟨p, q, hA0, hV, rfl, hfz, hnd⟩ := hW
  have hA : DataW.TrodAll enc Tryd.prog W 0 (fun _ => true) true Tryd.f5.params.toList args.toList ds p := hA0
  have hV1 : DataW.TrodVars enc Tryd.prog W (fun _ => true) ["loop.example/g00870/impl.boundaryFace", "loop.example/g00870/impl.perm4s"] gs q := hV
  have kV := hV1
  obtain ⟨gg, gt, gcs, gfuel, gd, gp, gg2, gt2, gcs2, gfuel2, gd2, gp2, rfl, _, _, _, _, _⟩ := trodVars_two hV1
  rw [Tryd.params5] at hA hval
  obtain ⟨v0, vs0, d0, ds0, p0, q0, hargs, rfl, rfl, h0, r0⟩ := trodAll_cons hA
  obtain ⟨rfl, rfl, rfl⟩ := trodAll_nil r0
  obtain rfl : args = #[v0] := by cases args; simp_all
  have k0_ := h0
  have lt0 : ∀ x ∈ p0, x.block < W.heap.size := by obtain ⟨m, hm⟩ := k0_; exact DataW.trod_lt m _ _ _ hm
  obtain ⟨A0, c0, rs0, rfl, hi0, hm0⟩ := Fc.openTri (hval 0 24 v0 rfl rfl) h0
  clear hA0 hval0
  refine (allBoundaryFaces A0 c0 rs0 W hi0 hm0 (Fc.vs_of_laid hL)).mono fun e W' ⟨he, bel⟩ => ?_
  subst he
  exact ⟨_, rfl, _, _, _, [], _, _, hW', trodAll_mk1 (shut_bool Tryd.underlying4 _), (trodAll_cons_mk (Below.trod laidOut (by kernel_rfl) (of_decide_eq_true (by kernel_rfl)) k0_ bel lt0) trodAll_mk0), Below.trodVars laidOut bel (by kernel_rfl) kV, bel.frame _, fun h => by cases h⟩

theorem exactBoundaryFaces_holds : Rows.FnExactBoundaryFacesSaid :=
  OpenClaim.holds_of_wide 5 Tryd.f5 rfl rfl rfl rfl rfl rfl rfl ⟨rfl, rfl, rfl, rfl, rfl⟩ rfl rfl rfl rfl rfl exactBoundaryFaces_named Tryd.func5 exactBoundaryFaces_facts
    (of_decide_eq_true (by kernel_rfl)) (by unfold Func.isWrapper; first | (rw [if_pos (by decide +kernel)]; kernel_rfl) | (rw [if_neg (by decide +kernel)]; exact ⟨rfl, rfl⟩))
    (fun os started H enc _ => exactBoundaryFaces_lifted os started H enc)

theorem exactBoundaryFaces_card : Rows.FnExactBoundaryFacesCardSaid :=
  Claim7.holds_tied_plain_at .later [] [.wider, .data] true Rows.fnExactBoundaryFacesCard.stood.harness Rows.fnExactBoundaryFacesCard.stood.looks
    exactBoundaryFaces_holds (fun _ h => by cases h) exactBoundaryFaces_wf (fun _ h => by cases h) fnExactBoundaryFaces_row_tie rfl ⟨rfl, rfl⟩ exactBoundaryFaces_main rfl
    (fun f fn hf hfn => by
      obtain rfl : f = 5 := Option.some.inj (exactBoundaryFaces_named.symm.trans hf) |>.symm
      obtain rfl : fn = Tryd.f5 := (Option.some.inj (Tryd.func5.symm.trans hfn)).symm
      exact ⟨exactBoundaryFaces_looks, fun j t ht => by
        rw [Tryd.params5] at ht
        have hm : t ∈ [24] := by simpa using Array.mem_of_getElem? ht
        have hall : ([24].all fun u => !Tryd.prog.wantsStandIn u) = true := by kernel_rfl
        exact (show Tryd.prog.wantsStandIn t = false by simpa using List.all_eq_true.1 hall t hm)⟩)
    exactBoundaryFaces_goes
#print axioms exactBoundaryFaces_card

end Go.Proofs.YtgllgbajmnfojaaDoor
