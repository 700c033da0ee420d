/- The specification's copy of a triangulation. No condition but those that each theorem names. -/
import Derived.Test.YtjendlfophdfeaaDoorFcT
import Derived.Deep.AppendLies
namespace Go.Proofs.YtjendlfophdfeaaDoor
open Go.RowKit
namespace Fc

/-- What a call hands back: a triangulation in memory of its own. -/
def ResT (w : World) (zss : List (List Int)) (e : Ending) (w' : World) : Prop :=
  ∃ A c rs, e = .returned (.agg #[.slice A rs.length c]) ∧ OwnS w' w.heap.size w'.heap.size A c rs ∧ vals rs = zss ∧ Below w.heap.size w w'

theorem setCell_frozen (w : World) (p q : Addr) (u : Value) : (w.setCell p u).frozen? q = w.frozen? q := by simp [go_sem]
theorem faces_row {w : World} {lo g n cap : Nat} {zs : List Int} (h : w.ownsRow lo 83 2 (.slice (some ⟨g, 0, none⟩) n cap) n (zs.map (Value.int .i64))) : Rw.In ⟨some ⟨g, 0, none⟩, cap, zs⟩ w lo w.heap.size := by
  obtain ⟨h1, h2⟩ := h
  rw [List.length_map] at h1
  rcases h2 with ⟨e, _⟩ | ⟨g', cap', cur, e, hb, hg, hn, hm, hs, hc⟩
  · cases e
  · cases e
    have hlt : g < w.heap.size := by
      rcases Nat.lt_or_ge g w.heap.size with h' | h'
      · exact h'
      · rw [Array.getElem?_eq_none h'] at hg; cases hg
    refine ⟨⟨by dsimp only; omega, by dsimp only; omega⟩, hm, rfl, fun _ => ⟨g, 0, rfl, hb, hlt, fun j hj => ⟨?_, by simp [World.frozen?, hg]⟩⟩⟩
    dsimp only at hj
    rw [Nat.zero_add, cell_of_row w g j _ _ (0, 0) hg]
    have e1 : (cur.toList.take (n * 2))[j]? = some (.int .i64 (zs.getD j 0)) := by rw [hc]; simp [List.getElem?_eq_getElem hj]
    rw [List.getElem?_take_of_lt (by omega)] at e1
    simpa using e1

theorem ints_newsF {w : World} {B n : Nat} {ad : Addr} {zs : List Int} (h : Ints w B (some ad) n zs) : ∀ j u, (zs.map (Value.int .i64))[j]? = some u → w.cell? (ad.add j) = some u := by
  intro j u hu
  have hj : j < zs.length := by
    have := (List.getElem?_eq_some_iff.1 hu).1
    simpa using this
  have hl := h.1
  obtain ⟨b, off, e, _, h4⟩ := h.2 (by omega)
  cases e
  have h5 := h4 j (by omega)
  have e5 : (⟨b, off, none⟩ : Addr).add j = ⟨b, off + j, none⟩ := by unfold Addr.add; split <;> simp_all
  rw [e5, h5, ← hu, List.getElem?_map, List.getElem?_eq_getElem hj]
  simp [List.getElem?_eq_getElem hj]
theorem Own.of_row {w : World} {lo n : Nat} {v : Value} {zs : List Int} (h : w.ownsRow lo 2 1 v n (zs.map (Value.int .i64))) (hv : v ≠ .slice none 0 0) : ∃ g cap, v = .slice (some ⟨g, 0, none⟩) n cap ∧ n ≤ cap ∧ cap ≤ maxLen ∧ Own w lo w.heap.size (some ⟨g, 0, none⟩) n cap zs := by
  have h' := h
  rcases h.2 with ⟨e, _⟩ | ⟨g, cap, cur, rfl, hb, hg, hn, hm, _, _⟩
  · exact absurd e hv
  · have hlt : g < w.heap.size := by
      rcases Nat.lt_or_ge g w.heap.size with h1 | h1
      · exact h1
      · rw [Array.getElem?_eq_none h1] at hg; cases hg
    exact ⟨g, cap, rfl, hn, hm, h', fun a ha => by cases ha; exact hlt⟩

/-- The faces of a row are appended to an empty slice, at a step of a region that draws its order. -/
theorem step_copy_row {w : World} {ops : Array Oper} {o : Oper} {a : Act} {K : Act → World → Prop} {Q : Exit → Act → World → Prop} {E : Prop} (hgd : o.guard = none) (s x : Operand) (ho : o.op = .call { callee := .builtin .append, args := #[s, x], argTypes := #[84, 84] })
    (lo B g0 n c : Nat) (A : Option Addr) (zs : List Int) (hs : a.eval s = .slice (some ⟨g0, 0, none⟩) 0 0) (hg0 : w.heap[g0]? = some (.cells #[] 83 (0, 0))) (hlg : lo ≤ g0) (hx : a.eval x = .slice A n c) (hI : Ints w B A (n * 2) zs) (hn0 : 0 < n) (hn : n ≤ 1048576) (hlo : lo ≤ w.heap.size)
    (h : ∀ g cap w', Rw.In ⟨some ⟨g, 0, none⟩, cap, zs⟩ w' lo w'.heap.size → w.grownBy w' (some g0) → K (a.put o.dst (.slice (some ⟨g, 0, none⟩) n cap)) w') : if Region.wanted o (yielded ops a.tmps) = true then Oper.wp Tryd.prog o a w K Q else E := by
  obtain ⟨ti, hi0, hz0, hz1, hz2⟩ := info_parts infoF
  have hl := hI.1
  obtain ⟨b, off, rfl, _, h4⟩ := hI.2 (by omega)
  have hl2 : (zs.map (Value.int .i64)).length = n * 2 := by rw [List.length_map, hl]
  refine step_append_lies w hgd s x 84 ho lo 83 ti _ 2 16 Tryd.underlying84 hi0 hz0 hz1 hz2 rfl (by decide) (.slice (some ⟨g0, 0, none⟩) 0 0) 0 [] hs ⟨rfl, .inr ⟨g0, 0, #[], rfl, hlg, hg0, Nat.le_refl _, by unfold maxLen; omega, rfl, rfl⟩⟩ ⟨b, off, none⟩ n c (zs.map (Value.int .i64)) hx hl2
    (ints_newsF hI) (by simp [Value.oneCell']) hn0 (by unfold maxLen; omega) (by omega) hlo _ rfl ?_
  intro g cap w' h1 hg _ _
  rw [Nat.zero_add, List.nil_append] at h1
  rw [Nat.zero_add]
  exact h g cap w' (faces_row h1) hg

set_option maxRecDepth 100000 in
set_option maxHeartbeats 8000000 in
theorem own_spec (A : Option Addr) (n c : Nat) (T : List (List Int)) (w : World) (h : RdT w w.heap.size A n T) (hn : n ≤ 8) (h4 : Tr.Four T) :
    Calls Tryd.prog 99 #[.agg #[.slice A n c]] w (ResT w T) := by
  have LN := Lib.hid h.len
  have HT := Lib.hid h
  have H4 := Lib.hid h4
  clear h h4
  obtain ⟨U, hU⟩ : ∃ U, U = ((w.alloc (Obj.cells #[.slice A n c] 29)).alloc (Obj.cells #[.slice none 0 0] 29)).alloc (Obj.cells #[.slice none 0 0] 29) := ⟨_, rfl⟩
  have hB : Below w.heap.size w U := by rw [hU]; exact (al2 w _ _).trans ((al1 _ _).mono (by simp; omega))
  have z : U.heap.size = w.heap.size + 3 := by rw [hU]; simp
  have k0 : U.cell? ⟨w.heap.size, 0, none⟩ = some (.slice A n c) := by rw [hU]; simp [go_sem]
  have k1 : U.cell? ⟨w.heap.size + 1, 0, none⟩ = some (.slice none 0 0) := by rw [hU]; simp [go_sem]
  have k2 : U.cell? ⟨w.heap.size + 2, 0, none⟩ = some (.slice none 0 0) := by rw [hU]; simp [go_sem]
  have f1 : U.frozen? ⟨w.heap.size + 1, 0, none⟩ = false := by rw [hU]; simp [go_sem]
  have f2 : U.frozen? ⟨w.heap.size + 2, 0, none⟩ = false := by rw [hU]; simp [go_sem]
  have DU := Lib.hid hB
  clear hB
  go_enter Tryd.func99, Tryd.ntmps99
  go_wp2
  rw [← hU]
  clear hU
  go_loopw [4] (fun i W => ∃ (a : Nat) (A' : Option Addr) (c' : Nat) (rs : List Rw), a ≤ n ∧ i = .int .i64 a ∧ (W.cell? ⟨w.heap.size + 2, 0, none⟩ = some (.slice A' rs.length c') ∧ W.frozen? ⟨w.heap.size + 2, 0, none⟩ = false) ∧ OwnS W (w.heap.size + 3) W.heap.size A' c' rs ∧ vals rs = T.take a ∧ Below (w.heap.size + 2) U W) (fun i _ => n - (intOf i).toNat)
  case atStart => exact ⟨0, none, 0, [], Nat.zero_le _, rfl, ⟨k2, f2⟩, OwnS.nil _ _ _, rfl, Below.refl _ _⟩
  case round =>
    obtain ⟨a, A', c', rs, ha, rfl, ⟨hb2, hf2⟩, hO, hV, hbel⟩ := hrel
    have OW := Lib.hid hO
    have VL := Lib.hid hV
    have BW := Lib.hid hbel
    have kw := (hbel.cell (p := ⟨w.heap.size, 0, none⟩) (by dsimp only; omega)).trans k0
    have zW : U.heap.size ≤ wr.heap.size := hbel.size
    have i0 : (0 : Int) ≤ (a : Int) := by omega
    have rl : rs.length ≤ 8 := by
      have h1 := congrArg List.length hV
      rw [vals_len, List.length_take] at h1
      omega
    by_cases hlt : a < n
    case neg =>
      obtain rfl : a = n := by omega
      have i1 : ¬ (a : Int) < (a : Int) := by omega
      have kr := (hbel.cell (p := ⟨w.heap.size + 1, 0, none⟩) (by dsimp only; omega)).trans k1
      have fr1 := (hbel.frozen (p := ⟨w.heap.size + 1, 0, none⟩) (by dsimp only; omega)).trans f1
      clear hO hV hbel
      go_wp2
      refine bodyPost_ret (v := .agg #[.slice A' rs.length c']) (by simp [results, Tryd.results99, kr, go_sem]) rfl ?_
      exact ⟨A', c', rs, rfl, (OW.out.far (p := ⟨w.heap.size + 1, 0, none⟩) (.inl (by dsimp only; omega)) _).wide (by omega) (by simp [World.setCell]), by rw [VL.out, List.take_of_length_le (by rw [LN.out]; exact Nat.le_refl _)], (DU.out.trans (BW.out.mono (by omega))).setCell (by dsimp only; omega) _⟩
    have i1 : (a : Int) < (n : Int) := by omega
    clear hO hV hbel
    have RT := Lib.hid (HT.out.below (DU.out.trans (BW.out.mono (by omega))))
    have h8 := H4.out a (by rw [LN.out]; exact hlt)
    obtain ⟨b, off, Aj, cj, m, rfl, hb, hcr, h1, h2, h3, hi⟩ := RT.out.row a hlt
    obtain rfl : m = 4 := by omega
    obtain ⟨zs, hzs⟩ : ∃ zs, T.getD a [] = zs := ⟨_, rfl⟩
    rw [hzs] at hi h8
    have HI := Lib.hid hi
    have NX := Lib.hid (show T.take (a + 1) = T.take a ++ [zs] from by rw [← hzs, List.take_add_one, List.getD_eq_getElem?_getD, List.getElem?_eq_getElem (by rw [LN.out]; exact hlt)]; rfl)
    have SV := Lib.hid (fun (g7 cap7 : Nat) => show Rw.sv ⟨some ⟨g7, 0, none⟩, cap7, zs⟩ = .slice (some ⟨g7, 0, none⟩) 4 cap7 from by simp [Rw.sv, h8])
    clear hi hzs h3
    have l0 : w.heap.size < wr.heap.size := by omega
    have l1 : w.heap.size + 2 < wr.heap.size := by omega
    have l2 : w.heap.size + 1 + 1 < wr.heap.size := by omega
    have l3 : b < wr.heap.size := by omega
    go_wp2_with fail
    go_region_law (first
      | (refine step_copy_row (by rfl) _ _ (by rfl) wr.heap.size w.heap.size wr.heap.size 4 cj Aj zs (by rfl) (by exact heap_alloc_new wr _) (Nat.le_refl _) (by rfl) (by exact HI.out.below ((al1 wr _).drew.mono (by omega))) (by omega) (by omega) (by simp) ?_; intro g7 cap7 w7 h5 h6; have R7 := Lib.hid h5; have D7 := Lib.hid (((al1 wr (Obj.cells #[] 83)).drew).grown h6 (by simp) (fun k hk => by cases hk; exact Nat.le_refl _)); have s7 := D7.out.size; have e7 := (D7.out.cell (p := ⟨w.heap.size + 2, 0, none⟩) (by dsimp only; omega)).trans hb2; have m1 : w.heap.size + 2 < w7.heap.size := (by omega); have m2 : w.heap.size + 1 + 1 < w7.heap.size := (by omega); have f7 := (D7.out.frozen (p := ⟨w.heap.size + 2, 0, none⟩) (by dsimp only; omega)).trans hf2; clear h5 h6)
      | (refine step_push_row (by rfl) _ _ (by rfl) (w.heap.size + 3) wr.heap.size wr.heap.size c' rs.length w7.heap.size A' rs ⟨some ⟨g7, 0, none⟩, cap7, zs⟩ (by rfl) rfl (by exact OW.out.below (D7.out.trans ((al1 w7 _).mono s7)) (Nat.le_refl _)) (by rfl) (by rw [SV.out]; exact Wd.alloc_first _ _ _ _ rfl) (by exact (R7.out.below (al1 w7 _) (Nat.le_refl _)).wide (Nat.le_refl _) (by simp)) (Nat.le_refl _) (by omega) (by simp; omega) (by simp; omega) (by omega) ?_; intro A8 c8 w8 h5 h6; have O8 := Lib.hid h5; have K8 := Lib.hid h6; have s8 := h6.size; simp only [World.size_alloc] at s8; have e8 := (World.cell?_of_block (a := ⟨w.heap.size + 2, 0, none⟩) (h6.block (w.heap.size + 2) (by simp; omega) (by omega))).trans (((al1 w7 _).cell (p := ⟨w.heap.size + 2, 0, none⟩) (by dsimp only; omega)).trans e7); have f8 := (World.frozen?_of_block (a := ⟨w.heap.size + 2, 0, none⟩) (h6.block (w.heap.size + 2) (by simp; omega) (by omega))).trans (((al1 w7 _).frozen (p := ⟨w.heap.size + 2, 0, none⟩) (by dsimp only; omega)).trans f7); clear h5 h6))
    all_goals
      have B8 := Lib.hid (show Below (w.heap.size + 2) U w8 from (BW.out.trans (D7.out.mono (by omega))).trans (((al1 w7 _).mono (by omega)).trans (K8.out.below (by omega) (by simp; omega))))
      clear e7 f7 kw hb2 hf2 hcr
      go_wp2
      go_roundw
      case rel =>
        refine ⟨a + 1, A8, c8, rs ++ [⟨some ⟨g7, 0, none⟩, cap7, zs⟩], by omega, by go_num, ⟨by rw [List.length_append]; exact World.cell?_setCell_same' _ _ _ (by rw [e8]; rfl), (setCell_frozen _ _ _ _).trans f8⟩, (O8.out.far (p := ⟨w.heap.size + 2, 0, none⟩) (.inl (by dsimp only; omega)) _).wide (Nat.le_refl _) (by simp [World.setCell]), by rw [NX.out, ← VL.out, vals, List.map_append]; rfl, B8.out.setCell (Nat.le_refl _) _⟩
      case measure => simp [intOf]; omega

end Fc
end Go.Proofs.YtjendlfophdfeaaDoor
