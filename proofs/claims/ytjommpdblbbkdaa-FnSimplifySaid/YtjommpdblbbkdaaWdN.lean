/- A generator and a relator removed: the program's removedFrom. No condition but those that each theorem names. -/
import Derived.Test.YtjommpdblbbkdaaWdM
import Derived.Test.YtjommpdblbbkdaaSsC
namespace Go.Proofs.Ytjommpdblbbkdaa
open Go.RowKit

namespace Wd
theorem er_keep {α : Type} (l : List α) (d : α) {i k : Nat} (hk : k < l.length) (hne : k ≠ i) : (l.take (k + 1)).eraseIdx i = (l.take k).eraseIdx i ++ [l.getD k d] := by
  have e : l.take (k + 1) = l.take k ++ [l.getD k d] := by
    rw [List.take_succ_eq_append_getElem hk, List.getD_eq_getElem?_getD, List.getElem?_eq_getElem hk]; rfl
  have hl : (l.take k).length = k := by simp; omega
  rw [e]
  rcases Nat.lt_or_ge i k with h | h
  · rw [List.eraseIdx_append_of_lt_length (by omega)]
  · rw [List.eraseIdx_of_length_le (by simp; omega), List.eraseIdx_of_length_le (by omega)]
theorem er_skip {α : Type} (l : List α) {i : Nat} (hk : i < l.length) : (l.take (i + 1)).eraseIdx i = (l.take i).eraseIdx i := by
  have e : l.take (i + 1) = l.take i ++ [l[i]] := List.take_succ_eq_append_getElem hk
  have hl : (l.take i).length = i := by simp; omega
  rw [e, List.eraseIdx_append_of_length_le (by omega), hl, Nat.sub_self]
  rw [List.eraseIdx_of_length_le (l := l.take i) (by omega)]
  simp
theorem solve_len {g : Int} {l : List Int} : (solve g l).length ≤ l.length := by
  unfold solve
  split
  · rw [inv_len, List.length_append, List.length_drop, List.length_take]; omega
  · rw [List.length_append, List.length_drop, List.length_take]; omega
theorem solve_sm {g : Int} {l : List Int} (h : Sm l) : Sm (solve g l) := by
  have h1 : Sm (l.drop (place g l + 1) ++ l.take (place g l)) := fun x hx => by
    rcases List.mem_append.1 hx with hx | hx
    · exact h x (List.mem_of_mem_drop hx)
    · exact h x (List.mem_of_mem_take hx)
  unfold solve
  split
  · exact h1.inv
  · exact h1
end Wd
theorem vals_getD (rs : List Rw) (k : Nat) : (vals rs).getD k [] = (rs.getD k nilRw).zs := by
  rw [List.getD_eq_getElem?_getD, List.getD_eq_getElem?_getD, vals, List.getElem?_map]
  cases rs[k]? <;> rfl
theorem vals_take (rs : List Rw) (k : Nat) : vals (rs.take k) = (vals rs).take k := by simp [vals, List.map_take]

set_option maxRecDepth 100000 in
set_option maxHeartbeats 8000000 in
theorem tz_removed (i : Nat) (g r : Int) (A : Option Addr) (c : Nat) (rs : List Rw) (w : World) (h : RdS w w.heap.size A rs) (hp : Wd.isP r (vals rs) = true) (hi : i < rs.length) (hg : 1 ≤ g) (hgr : g ≤ r) (ho : 0 < Wd.occ g (rs.getD i nilRw).zs) :
    Calls Try.prog 70 #[.agg #[.int .i64 i, .int .i64 g], .agg #[.int .i64 r, .slice A rs.length c]] w (ResPr w (r - 1) (((vals rs).eraseIdx i).map fun z => (Wd.sub g (Wd.solve g (rs.getD i nilRw).zs) z).map (Wd.ren g))) := by
  obtain ⟨r0, r24, r48, hz⟩ := Wd.isP_iff.1 hp
  rw [vals_len] at r48
  have ROW := Lib.hid (show ∀ j, j < rs.length → (rs.getD j nilRw).zs.length ≤ 120 ∧ Wd.Sm (rs.getD j nilRw).zs from fun j hj => by
    have h1 := (Wd.isR_iff.1 (hz _ (vals_mem hj))).1
    exact ⟨(Wd.isW_fit h1).1, Wd.isW_sm h1 (by omega)⟩)
  have H := Lib.hid h
  obtain ⟨n, hrn⟩ : ∃ n, rs.length = n := ⟨_, rfl⟩
  have HN := Lib.hid hrn
  rw [hrn] at r48 hi ⊢
  obtain ⟨bi, offi, Ai, ci, zi, hAi, hbi, hri, hci, hic, him, hii⟩ := h.at_ (j := i) (by rw [hrn]; exact hi)
  have zi120 := ROW.out i (by rw [HN.out]; exact hi)
  rw [hri] at ho zi120 ⊢
  subst hAi
  obtain ⟨zi120, ziS⟩ := zi120
  dsimp only at ho zi120 ziS
  have VF := Lib.hid (fun (W : World) (hb : Below w.heap.size w W) => tz_value i g Ai zi.length ci zi W (hii.into hb) (by omega) hic him hg (by omega) ho ziS)
  have BYL := Lib.hid (Nat.le_trans (Wd.solve_len (g := g) (l := zi)) zi120)
  have BYS := Lib.hid (Wd.solve_sm (g := g) ziS)
  have CI := Lib.hid hci
  obtain ⟨by_, hby⟩ : ∃ by_, Wd.solve g zi = by_ := ⟨_, rfl⟩
  rw [hby] at VF BYL BYS
  show Calls _ _ _ _ (ResPr w (r - 1) (((vals rs).eraseIdx i).map fun z => (Wd.sub g (Wd.solve g zi) z).map (Wd.ren g)))
  rw [hby]
  have G0 := Lib.hid (BoxG.new w 83 (.int .i64 i) (.int .i64 g))
  have G1 := Lib.hid (BoxG.new (w.alloc (Obj.cells #[.int .i64 i, .int .i64 g] 83)) 26 (.int .i64 r) (.slice (some ⟨bi, offi, none⟩) n c))
  have G2 := Lib.hid (BoxG.new ((w.alloc (Obj.cells #[.int .i64 i, .int .i64 g] 83)).alloc (Obj.cells #[.int .i64 r, .slice (some ⟨bi, offi, none⟩) n c] 26)) 26 (.int .i64 0) (.slice none 0 0))
  have F2 := Lib.hid (Free.new ((w.alloc (Obj.cells #[.int .i64 i, .int .i64 g] 83)).alloc (Obj.cells #[.int .i64 r, .slice (some ⟨bi, offi, none⟩) n c] 26)) 26 #[.int .i64 0, .slice none 0 0])
  have D3 := Lib.hid (al3 w (Obj.cells #[.int .i64 i, .int .i64 g] 83) (Obj.cells #[.int .i64 r, .slice (some ⟨bi, offi, none⟩) n c] 26) (Obj.cells #[.int .i64 0, .slice none 0 0] 26))
  have wr1 : IntKind.i64.wrap (r - 1) = r - 1 := IntWalk.i64_in _ (by omega)
  clear h hp hz hrn hri hci hii hic him hby ho ziS
  go_enter Try.func70, Try.ntmps70
  go_upto_region 2 with fail
  obtain ⟨U, hU⟩ : ∃ U, U = (((w.alloc (Obj.cells #[.int .i64 i, .int .i64 g] 83)).alloc (Obj.cells #[.int .i64 r, .slice (some ⟨bi, offi, none⟩) n c] 26)).alloc (Obj.cells #[.int .i64 0, .slice none 0 0] 26)) := ⟨_, rfl⟩
  have sU : U.heap.size = w.heap.size + 1 + 1 + 1 := by rw [hU]; simp
  have X0 := Lib.hid (show BoxG U w.heap.size (.int .i64 i) (.int .i64 g) from by rw [hU]; exact (G0.out.below (al1 _ _) (by simp)).below (al1 _ _) (by simp; omega))
  have X1 := Lib.hid (show BoxG U (w.heap.size + 1) (.int .i64 r) (.slice (some ⟨bi, offi, none⟩) n c) from by rw [hU]; simpa using G1.out.below (al1 _ _) (by simp))
  have X2 := Lib.hid (show BoxG U (w.heap.size + 1 + 1) (.int .i64 0) (.slice none 0 0) from by rw [hU]; simpa using G2.out)
  have Y2 := Lib.hid (show Free U (w.heap.size + 1 + 1) from by rw [hU]; simpa using F2.out)
  have DU := Lib.hid (show Below w.heap.size w U from by rw [hU]; exact D3.out)
  rw [← hU]
  clear hU G0 G1 G2 F2 D3
  obtain ⟨V, hV⟩ : ∃ V, V = U.alloc (Obj.cells #[.int .i64 (r - 1), .slice none 0 0] 26) := ⟨_, rfl⟩
  have XC := Lib.hid (show BoxG V (w.heap.size + 1 + 1 + 1) (.int .i64 (r - 1)) (.slice none 0 0) from by rw [hV, ← sU]; exact BoxG.new U _ _ _)
  have YC := Lib.hid (show Free V (w.heap.size + 1 + 1 + 1) from by rw [hV, ← sU]; exact Free.new U _ _)
  have sV : V.heap.size = U.heap.size + 1 := by rw [hV]; simp
  have UV := Lib.hid (show Below U.heap.size U V from by rw [hV]; exact al1 _ _)
  rw [← hV]
  clear hV
  obtain ⟨x0, x1⟩ := X0.out.below UV.out (by omega)
  obtain ⟨x2, x3⟩ := X1.out.below UV.out (by omega)
  have x4 := ((DU.out.trans (UV.out.mono (by omega))).cell (p := ⟨bi, offi + i, none⟩) hbi).trans CI.out
  have i0 : (0 : Int) ≤ (i : Int) := by omega
  have i1 : (i : Int) < (n : Int) := by omega
  go_still_tail 7, (by kernel_rfl)
  change wpList _ _ _ _ _ V.drew
  have DD := Lib.hid (show Below V.heap.size V V.drew from (Below.refl _ _).drew)
  obtain ⟨V1, hV1⟩ : ∃ V1, V1 = V.drew := ⟨_, rfl⟩
  have s1 : V1.heap.size = V.heap.size := by rw [hV1]; rfl
  rw [← hV1] at DD
  rw [← hV1]
  have UV1 := Lib.hid (show Below U.heap.size U V1 from UV.out.trans (DD.out.mono (by omega)))
  clear hV1 x0 x1 x2 x3 x4 UV
  have DV1 := Lib.hid (DU.out.trans (UV1.out.mono (by omega)))
  go_wp2_with fail
  refine (VF.out _ DV1.out).mono ?_
  rintro e w2 ⟨Rb, tb, rfl, _, hmb, hbb⟩
  have z2 : V1.heap.size ≤ w2.heap.size := hbb.size
  have U2 := Lib.hid (UV1.out.trans (hbb.mono (by omega)))
  have P2 := Lib.hid (show PBox U (w.heap.size + 1 + 1 + 1) w2.heap.size (r - 1) [] w2 from
    ⟨⟨none, 0, (XC.out.below DD.out (by omega)).below hbb (by omega), OwnS.nil _ _ _⟩, (YC.out.below DD.out (by omega)).below hbb (by omega), by omega, by rw [← sU]; exact U2.out, by omega⟩)
  have MB := Lib.hid hmb
  clear hmb hbb DV1 VF CI XC YC DD
  obtain ⟨x2, x3⟩ := X1.out.below U2.out (by omega)
  go_wp2
  clear x2 x3
  go_loopw [24] (fun x W => ∃ (k : Nat) (qs : List Rw), k ≤ n ∧ x = .int .i64 k ∧ vals qs = (((vals rs).take k).eraseIdx i).map (fun z => (Wd.sub g by_ z).map (Wd.ren g)) ∧ PBox U (w.heap.size + 1 + 1 + 1) w2.heap.size (r - 1) qs W ∧ Mine W V1.heap.size w2.heap.size Rb by_.length by_ ∧ w2.heap.size ≤ W.heap.size) (fun x _ => n - (intOf x).toNat)
  case atStart => exact ⟨0, [], Nat.zero_le _, rfl, by simp [vals], P2.out, MB.out, Nat.le_refl _⟩
  case round =>
    obtain ⟨k, qs, hk, rfl, hvq, hp, hmb, hzw⟩ := hrel
    have VQ := Lib.hid hvq
    have P := Lib.hid hp
    have MB := Lib.hid hmb
    have UW := Lib.hid (show Below U.heap.size U wr from by rw [sU]; exact hp.bel)
    have DW := Lib.hid (DU.out.trans (UW.out.mono (by omega)))
    have ql : qs.length ≤ 48 := by
      have h1 := congrArg List.length hvq
      rw [vals_len, List.length_map] at h1
      have h2 : (((vals rs).take k).eraseIdx i).length ≤ ((vals rs).take k).length := List.length_eraseIdx_le _ _
      rw [List.length_take] at h2
      omega
    obtain ⟨q, hq⟩ : ∃ q, qs.length = q := ⟨_, rfl⟩
    have QL := Lib.hid hq
    obtain ⟨A2, c2, hbx, hown⟩ := hp.box
    rw [hq] at hbx ql
    have BX := Lib.hid hbx
    have O := Lib.hid hown
    have FR := Lib.hid hp.fr
    have hlt2 := hp.lt
    clear hvq hp hbx hown P2 hmb hq
    by_cases hlt : k < n
    · obtain ⟨b, off, Aj, cj, zj, e', hb, hr, hc, hjc, hjm, hj⟩ := (H.out.below DW.out).at_ (j := k) (by rw [HN.out]; exact hlt)
      cases e'
      have hrw := ROW.out k (by rw [HN.out]; exact hlt)
      rw [hr] at hrw
      obtain ⟨zl, zS⟩ := hrw
      dsimp only at zl zS
      obtain ⟨x0, x1⟩ := X0.out.below UW.out (by omega)
      by_cases hki : k = i
      · have t1 : ((k : Int) != (i : Int)) = false := by rw [hki]; simp
        have NX := Lib.hid (show ((vals rs).take (k + 1)).eraseIdx i = ((vals rs).take k).eraseIdx i from by rw [hki]; exact Wd.er_skip _ (by rw [vals_len, HN.out]; exact hi))
        clear hki hr hj
        go_wp2
        go_roundw
        case rel => exact ⟨k + 1, qs, by omega, by go_num, by rw [NX.out]; exact VQ.out, P.out, MB.out, hzw⟩
        case measure => simp [intOf]; omega
      · have t1 : ((k : Int) != (i : Int)) = true := by simp; omega
        have NX := Lib.hid (show ((vals rs).take (k + 1)).eraseIdx i = ((vals rs).take k).eraseIdx i ++ [zj] from by
          rw [Wd.er_keep _ [] (by rw [vals_len, HN.out]; exact hlt) hki, vals_getD, hr])
        have RI := Lib.hid (fun (W : World) (h1 : Ints W W.heap.size Aj zj.length zj) (h2 : Ints W W.heap.size Rb by_.length by_) => tz_replaced i g Aj Rb zj.length cj by_.length tb zj by_ W h1 h2 zl BYL.out hg (by omega) zS BYS.out)
        have HJ := Lib.hid (hj.more (show w.heap.size ≤ wr.heap.size from DW.out.size))
        have MI := Lib.hid (MB.out.ints.more hzw)
        have zlo : w.heap.size + 1 + 1 + 1 < w2.heap.size := P.out.lo
        obtain ⟨zz, hzz⟩ : ∃ zz, (Wd.sub g by_ zj).map (Wd.ren g) = zz := ⟨_, rfl⟩
        rw [hzz] at RI
        have ZZ := Lib.hid hzz
        have hki' : ¬ (k : Int) = (i : Int) := by omega
        obtain ⟨bx0, bx1⟩ := BX.out
        have fx := FR.out
        unfold Free at fx
        clear hki hr hj zS hzz
        go_wp2_with fail
        go_region_law (first
            | (refine step_push_row (by rfl) _ _ (by rfl) w2.heap.size wr.heap.size wr.heap.size c2 q w6.heap.size A2 qs ⟨R6, t6, zz⟩ (by rfl) QL.out (by exact O.out.below (B6.out.trans ((al1 w6 _).mono z6)) (Nat.le_refl _)) (by rfl) (by exact Wd.alloc_first _ _ _ _ rfl) (by exact (M6.out.below (al1 w6 _) (Nat.le_refl _)).wide (Nat.le_refl _) (by simp)) (Nat.le_refl _) (by omega) (by simp; omega) (by simp; omega) (by omega) ?_; intro A7 c7 w7 h5 h6; have O7 := Lib.hid h5; have K7 := Lib.hid h6; obtain ⟨y0, y1⟩ := ((BX.out.below B6.out (by omega)).below (al1 w6 (Obj.cells #[.slice R6 zz.length t6] 34)) (by omega)).kept K7.out (by simp; omega) (by omega); have g7 := ((FR.out.below B6.out (by omega)).below (al1 w6 (Obj.cells #[.slice R6 zz.length t6] 34)) (by omega)).kept K7.out (by simp; omega) (by omega); unfold Free at g7; clear h5 h6)
            | (go_simp; go_at_call 73; refine (RI.out _ (by exact HJ.out) (by exact MI.out)).mono ?_; rintro e w6 ⟨R6, t6, rfl, hc6, hm6, hb6'⟩; have hb6 := undrew hb6'; have B6 := Lib.hid hb6; have z6 := hb6.size; have x6 : w.heap.size + 1 + 1 + 1 < w6.heap.size := (by omega); have x5 : w.heap.size < w6.heap.size := (by omega); have M6 := Lib.hid (show Rw.In ⟨R6, t6, zz⟩ w6 wr.heap.size w6.heap.size from ⟨hc6.1, hc6.2, hm6⟩); obtain ⟨e0, e1⟩ := BX.out.below hb6 (by omega); obtain ⟨e2, e3⟩ := (X0.out.below UW.out (by omega)).below hb6 (by omega); clear hb6 hb6' hc6 hm6))
        all_goals
          have PX := Lib.hid (P.out.pushed B6.out QL.out O7.out K7.out rfl rfl)
          have MX := Lib.hid (((MB.out.below B6.out hzw).below (al1 w6 (Obj.cells #[.slice R6 zz.length t6] 34)) (by omega)).kept K7.out (by simp; omega) (.inl (Nat.le_refl _)))
          have s7 := K7.out.size
          simp only [World.size_alloc] at s7
          clear y0 y1 g7 e0 e1 e2 e3 bx0 bx1 fx x0 x1
          go_wp2
          go_roundw
          case rel => exact ⟨k + 1, _, by omega, by go_num, by rw [NX.out, List.map_append, ← VQ.out]; simp [vals, ZZ.out], PX.out, MX.out.far (.inl (by dsimp only; omega)) _, by simp [World.setCell]; omega⟩
          case measure => simp [intOf]; omega
    · obtain rfl : k = n := by omega
      obtain ⟨bx0, bx1⟩ := BX.out
      obtain ⟨n0, n1⟩ := X2.out.below UW.out (by omega)
      have f0 := Y2.out.below UW.out (by omega)
      have zlo : w.heap.size + 1 + 1 + 1 < w2.heap.size := P.out.lo
      have VA := Lib.hid (show vals qs = ((vals rs).eraseIdx i).map (fun z => (Wd.sub g by_ z).map (Wd.ren g)) from by rw [VQ.out, List.take_of_length_le (by rw [vals_len, HN.out]; exact Nat.le_refl _)])
      unfold Free at f0
      go_wp2
      refine bodyPost_ret (v := .agg #[.int .i64 (r - 1), .slice A2 q c2]) (by simp [results, Try.results70, n0, n1, go_sem]) rfl ?_
      have FIN := ResPr.fin (x := .int .i64 (r - 1)) (y := .slice A2 q c2) P.out O.out DU.out (show w.heap.size ≤ w.heap.size + 1 + 1 by omega) (by omega) VA.out
      rw [QL.out] at FIN
      exact FIN

end Go.Proofs.Ytjommpdblbbkdaa
