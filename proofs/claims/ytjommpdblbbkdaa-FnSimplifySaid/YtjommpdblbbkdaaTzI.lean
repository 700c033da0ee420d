/- A generator and a relator removed: the specification's l04Remove. No condition but those that each theorem names. -/
import Derived.Test.YtjommpdblbbkdaaTzH
namespace Go.Proofs.Ytjommpdblbbkdaa
open Go.RowKit

set_option maxRecDepth 100000 in
set_option maxHeartbeats 8000000 in
theorem remove_spec (i : Nat) (g r : Int) (A : Option Addr) (c : Nat) (rs : List Rw) (w : World) (h : RdS w w.heap.size A rs) (hp : Wd.isP r (vals rs) = true) (hi : i < rs.length) (hg : 1 ≤ g) (hgr : g ≤ r) (ho : 0 < Wd.occ g (rs.getD i nilRw).zs) :
    Calls Try.prog 59 #[.agg #[.int .i64 r, .slice A rs.length c], .int .i64 (i : Int), .int .i64 g] w (ResPr w (r - 1) (((vals rs).eraseIdx i).map fun z => (Wd.rd (Wd.sub g (Wd.solve g (rs.getD i nilRw).zs) z)).map (Wd.ren g))) := by
  obtain ⟨r0, r24, r48, hz⟩ := Wd.isP_iff.1 hp
  rw [vals_len] at r48
  have ROWZ := Lib.hid (show ∀ z ∈ vals rs, z.length ≤ 120 ∧ Wd.Sm z from fun z hz' => by
    have h1 := (Wd.isR_iff.1 (hz _ hz')).1
    exact ⟨(Wd.isW_fit h1).1, Wd.isW_sm h1 (by omega)⟩)
  have ROW := Lib.hid (show ∀ q ∈ rs, q.zs.length ≤ 1048576 from fun q hq => by
    have := (ROWZ.out _ (List.mem_map_of_mem hq)).1
    omega)
  have CP := Lib.hid (fun (W : World) (hb : Below w.heap.size w W) => copy_spec (i : Int) A rs.length c rs W (h.into hb) rfl (by omega) ROW.out)
  obtain ⟨n, hrn⟩ : ∃ n, rs.length = n := ⟨_, rfl⟩
  have HN := Lib.hid hrn
  obtain ⟨bi, offi, Ai, ci, zi, hAi, hbi, hri, hci, hic, him, hii⟩ := h.at_ (j := i) hi
  have zi120 := ROWZ.out _ (vals_mem hi)
  rw [hri] at ho zi120 ⊢
  subst hAi
  rw [hrn] at r48 hi CP ⊢
  obtain ⟨zi120, ziS⟩ := zi120
  dsimp only at ho zi120 ziS
  have VF := Lib.hid (fun (W : World) (hb : Below w.heap.size w W) => solve_spec g Ai zi.length ci zi W (hii.into hb) (by omega) hic him hg (by omega) ho ziS)
  have BYL := Lib.hid (Nat.le_trans (Wd.solve_len (g := g) (l := zi)) zi120)
  have BYS := Lib.hid (Wd.solve_sm (g := g) ziS)
  have CI := Lib.hid hci
  obtain ⟨by_, hby⟩ : ∃ by_, Wd.solve g zi = by_ := ⟨_, rfl⟩
  rw [hby] at VF BYL BYS
  show Calls _ _ _ _ (ResPr w (r - 1) (((vals rs).eraseIdx i).map fun z => (Wd.rd (Wd.sub g (Wd.solve g zi) z)).map (Wd.ren g)))
  rw [hby]
  have G1 := Lib.hid (BoxG.new w 26 (.int .i64 r) (.slice (some ⟨bi, offi, none⟩) n c))
  have G2 := Lib.hid (BoxG.new (w.alloc (Obj.cells #[.int .i64 r, .slice (some ⟨bi, offi, none⟩) n c] 26)) 26 (.int .i64 0) (.slice none 0 0))
  have F2 := Lib.hid (Free.new (w.alloc (Obj.cells #[.int .i64 r, .slice (some ⟨bi, offi, none⟩) n c] 26)) 26 #[.int .i64 0, .slice none 0 0])
  have D2 := Lib.hid (al2 w (Obj.cells #[.int .i64 r, .slice (some ⟨bi, offi, none⟩) n c] 26) (Obj.cells #[.int .i64 0, .slice none 0 0] 26))
  have wr1 : IntKind.i64.wrap (r - 1) = r - 1 := IntWalk.i64_in _ (by omega)
  clear h hp hz hrn hri hci hii hic him hby ho ziS
  go_enter Try.func59, Try.ntmps59
  go_upto_region 1 with fail
  obtain ⟨U, hU⟩ : ∃ U, U = ((w.alloc (Obj.cells #[.int .i64 r, .slice (some ⟨bi, offi, none⟩) n c] 26)).alloc (Obj.cells #[.int .i64 0, .slice none 0 0] 26)) := ⟨_, rfl⟩
  have sU : U.heap.size = w.heap.size + 1 + 1 := by rw [hU]; simp
  have X1 := Lib.hid (show BoxG U w.heap.size (.int .i64 r) (.slice (some ⟨bi, offi, none⟩) n c) from by rw [hU]; exact G1.out.below (al1 _ _) (by simp))
  have X2 := Lib.hid (show BoxG U (w.heap.size + 1) (.int .i64 0) (.slice none 0 0) from by rw [hU]; simpa using G2.out)
  have Y2 := Lib.hid (show Free U (w.heap.size + 1) from by rw [hU]; simpa using F2.out)
  have DU := Lib.hid (show Below w.heap.size w U from by rw [hU]; exact D2.out)
  rw [← hU]
  clear hU G1 G2 F2 D2
  obtain ⟨x2, x3⟩ := X1.out
  have x4 := (DU.out.cell (p := ⟨bi, offi + i, none⟩) hbi).trans CI.out
  have i0 : (0 : Int) ≤ (i : Int) := by omega
  have i1 : (i : Int) < (n : Int) := by omega
  go_wp2_with fail
  refine (VF.out _ DU.out).mono ?_
  rintro e w2 ⟨Rb, tb, rfl, _, hmb, hbb⟩
  have z2 : U.heap.size ≤ w2.heap.size := hbb.size
  have U2 := Lib.hid hbb
  have MB := Lib.hid hmb
  have DW2 := Lib.hid (DU.out.trans (hbb.mono (by omega)))
  clear hmb hbb VF CI x2 x3 x4
  obtain ⟨x2, x3⟩ := X1.out.below U2.out (by omega)
  have y1 : w.heap.size < w2.heap.size := by omega
  have CB := Lib.hid (BoxG.new w2 26 (.int .i64 (r - 1)) (.slice none 0 0))
  have CF := Lib.hid (Free.new w2 26 #[.int .i64 (r - 1), .slice none 0 0])
  go_wp2_with fail
  refine (CP.out _ (DW2.out.trans ((al1 _ _).mono (by omega)))).mono ?_
  rintro e w3 ⟨A1, c1, rs1, rfl, ho1, hv1, hb3⟩
  rw [exc_at] at hv1
  have z3 : w2.heap.size + 1 ≤ w3.heap.size := by have := hb3.size; simpa using this
  have P2 := Lib.hid (show PBox w2 w2.heap.size w3.heap.size (r - 1) [] w3 from
    ⟨⟨none, 0, CB.out.below hb3 (by simp), OwnS.nil _ _ _⟩, CF.out.below hb3 (by simp), by omega, on1 _ hb3, by omega⟩)
  have O1 := Lib.hid (show OwnS w3 (w2.heap.size + 1) w3.heap.size A1 c1 rs1 from by simpa using ho1)
  have V1 := Lib.hid hv1
  obtain ⟨m, hm⟩ : ∃ m, rs1.length = m := ⟨_, rfl⟩
  have LM := Lib.hid hm
  have m48 : m ≤ 48 := by
    have h1 := congrArg List.length hv1
    rw [vals_len, hm] at h1
    have h2 : ((vals rs).eraseIdx i).length ≤ (vals rs).length := List.length_eraseIdx_le _ _
    rw [vals_len, HN.out] at h2
    omega
  have ROW1 := Lib.hid (show ∀ j, j < m → (rs1.getD j nilRw).zs.length ≤ 120 ∧ Wd.Sm (rs1.getD j nilRw).zs from fun j hj => by
    have h1 : (rs1.getD j nilRw).zs ∈ vals rs1 := vals_mem (by rw [hm]; exact hj)
    rw [hv1] at h1
    exact ROWZ.out _ (List.mem_of_mem_eraseIdx h1))
  rw [hm]
  clear ho1 hv1 hb3 hm CB CF x2 x3 CP
  go_wp2
  go_loopw [10] (fun x W => ∃ (k : Nat) (qs : List Rw), k ≤ m ∧ x = .int .i64 k ∧ vals qs = ((vals rs1).take k).map (fun z => (Wd.rd (Wd.sub g by_ z)).map (Wd.ren g)) ∧ PBox w2 w2.heap.size w3.heap.size (r - 1) qs W ∧ OwnS W (w2.heap.size + 1) w3.heap.size A1 c1 rs1 ∧ w3.heap.size ≤ W.heap.size) (fun x _ => m - (intOf x).toNat)
  case atStart => exact ⟨0, [], Nat.zero_le _, rfl, by simp [vals], P2.out, O1.out, Nat.le_refl _⟩
  case round =>
    obtain ⟨k, qs, hk, rfl, hvq, hp, ho1, hzw⟩ := hrel
    have VQ := Lib.hid hvq
    have P := Lib.hid hp
    have L := Lib.hid ho1
    have BW := Lib.hid hp.bel
    have QL := Lib.hid (show qs.length = k from by
      have h1 := congrArg List.length hvq
      rw [vals_len, List.length_map, List.length_take, vals_len, LM.out] at h1
      omega)
    obtain ⟨A2, c2, hbx, hown⟩ := hp.box
    rw [QL.out] at hbx
    have BX := Lib.hid hbx
    have O := Lib.hid hown
    have FR := Lib.hid hp.fr
    have hlt2 := hp.lt
    clear hvq hp hbx hown P2 O1 ho1
    by_cases hlt : k < m
    · obtain ⟨b, off, Aj, cj, zj, e', hb, hr, hc, hjc, hjm, hj⟩ := L.out.rd.at_ (j := k) (by rw [LM.out]; exact hlt)
      subst e'
      have hrw := ROW1.out k hlt
      rw [hr] at hrw
      obtain ⟨zl, zS⟩ := hrw
      dsimp only at zl zS
      have NX := Lib.hid (show (vals rs1).take (k + 1) = (vals rs1).take k ++ [zj] from by
        have hkl : k < (vals rs1).length := by rw [vals_len, LM.out]; exact hlt
        rw [List.take_succ_eq_append_getElem hkl]
        have h2 := vals_getD rs1 k
        rw [hr, List.getD_eq_getElem?_getD, List.getElem?_eq_getElem hkl] at h2
        rw [show (vals rs1)[k] = zj from h2])
      have RI := Lib.hid (fun (W : World) (h1 : Ints W W.heap.size Aj zj.length zj) (h2 : Ints W W.heap.size Rb by_.length by_) => put_spec g Aj Rb zj.length cj by_.length tb zj by_ W h1 h2 zl BYL.out hg (by omega) zS BYS.out)
      have HJ := Lib.hid (hj.more hzw)
      have MI := Lib.hid ((MB.out.below BW.out (Nat.le_refl _)).ints.more (show w2.heap.size ≤ wr.heap.size by omega))
      obtain ⟨zz, hzz⟩ : ∃ zz, (Wd.rd (Wd.sub g by_ zj)).map (Wd.ren g) = zz := ⟨_, rfl⟩
      rw [hzz] at RI
      have ZZ := Lib.hid hzz
      obtain ⟨bx0, bx1⟩ := BX.out
      have fx := FR.out
      have i2 : (0 : Int) ≤ (k : Int) := by omega
      have i3 : (k : Int) < (m : Int) := by omega
      have hb' : b < wr.heap.size := by omega
      unfold Free at fx
      clear hr hj zS hzz
      go_wp2_with fail
      go_region_law (first
          | (refine step_push_row (by rfl) _ _ (by rfl) w3.heap.size wr.heap.size wr.heap.size c2 k w6.heap.size A2 qs ⟨R6, t6, zz⟩ (by rfl) QL.out (by exact O.out.below (B6.out.trans ((al1 w6 _).mono z6)) (Nat.le_refl _)) (by rfl) (by exact Wd.alloc_first _ _ _ _ rfl) (by exact (M6.out.below (al1 w6 _) (Nat.le_refl _)).wide (Nat.le_refl _) (by simp)) (Nat.le_refl _) (by omega) (by simp; omega) (by simp; omega) (by omega) ?_; intro A7 c7 w7 h5 h6; have O7 := Lib.hid h5; have K7 := Lib.hid h6; obtain ⟨y0, y1⟩ := ((BX.out.below B6.out (by omega)).below (al1 w6 (Obj.cells #[.slice R6 zz.length t6] 34)) (by omega)).kept K7.out (by simp; omega) (by omega); have g7 := ((FR.out.below B6.out (by omega)).below (al1 w6 (Obj.cells #[.slice R6 zz.length t6] 34)) (by omega)).kept K7.out (by simp; omega) (by omega); unfold Free at g7; clear h5 h6)
          | (go_simp; go_at_call 65; refine (RI.out _ (by exact HJ.out) (by exact MI.out)).mono ?_; rintro e w6 ⟨R6, t6, rfl, hc6, hm6, hb6'⟩; have hb6 := undrew hb6'; have B6 := Lib.hid hb6; have z6 := hb6.size; have x6 : w2.heap.size < w6.heap.size := (by omega); have M6 := Lib.hid (show Rw.In ⟨R6, t6, zz⟩ w6 wr.heap.size w6.heap.size from ⟨hc6.1, hc6.2, hm6⟩); obtain ⟨e0, e1⟩ := BX.out.below hb6 (by omega); have e2 := (hb6.cell (p := ⟨b, off + k, none⟩) hb').trans hc; clear hb6 hb6' hc6 hm6))
      all_goals
        have PX := Lib.hid (P.out.pushed B6.out QL.out O7.out K7.out rfl rfl)
        have LX := Lib.hid (((L.out.below B6.out hzw).below (al1 w6 (Obj.cells #[.slice R6 zz.length t6] 34)) (by omega)).kept K7.out (by simp; omega) (.inl (Nat.le_refl _)))
        have s7 := K7.out.size
        simp only [World.size_alloc] at s7
        clear y0 y1 g7 e0 e1 e2 bx0 bx1 fx hc
        go_wp2
        go_roundw
        case rel => exact ⟨k + 1, _, by omega, by go_num, by rw [NX.out, List.map_append, ← VQ.out]; simp [vals, ZZ.out], PX.out, LX.out.far (.inl (by dsimp only; omega)) _, by simp [World.setCell]; omega⟩
        case measure => simp [intOf]; omega
    · obtain rfl : k = m := by omega
      obtain ⟨bx0, bx1⟩ := BX.out
      have UW := Lib.hid (U2.out.trans (BW.out.mono z2))
      obtain ⟨n0, n1⟩ := X2.out.below UW.out (by omega)
      have f0 := Y2.out.below UW.out (by omega)
      have VA := Lib.hid (show vals qs = ((vals rs).eraseIdx i).map (fun z => (Wd.rd (Wd.sub g by_ z)).map (Wd.ren g)) from by rw [VQ.out, List.take_of_length_le (by rw [vals_len, LM.out]; exact Nat.le_refl _), V1.out])
      unfold Free at f0
      go_wp2
      refine bodyPost_ret (v := .agg #[.int .i64 (r - 1), .slice A2 k c2]) (by simp [results, Try.results59, n0, n1, go_sem]) rfl ?_
      have FIN := ResPr.fin (x := .int .i64 (r - 1)) (y := .slice A2 k c2) P.out O.out DW2.out (show w.heap.size ≤ w.heap.size + 1 by omega) (by omega) VA.out
      rw [QL.out] at FIN
      exact FIN

end Go.Proofs.Ytjommpdblbbkdaa
