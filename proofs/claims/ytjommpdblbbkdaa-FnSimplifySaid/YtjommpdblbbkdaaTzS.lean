/- The specification's moves: l04Move, a product of two rows. No condition but those that each theorem names. -/
import Derived.Test.YtjommpdblbbkdaaTzQ
namespace Go.Proofs.Ytjommpdblbbkdaa
open Go.RowKit

set_option maxRecDepth 100000 in
set_option maxHeartbeats 16000000 in
theorem move_mul (I J r : Int) (A Aw : Option Addr) (c nw cw : Nat) (rs : List Rw) (w : World) (h : RdS w w.heap.size A rs) (hn : rs.length ≤ 1048576) (hrow : ∀ q ∈ rs, q.zs.length ≤ 1048576) (i j : Nat) (hI : I = i) (hJ : J = j) (hp : Wd.isP r (vals rs) = true) (hi : i < rs.length) (hj : j < rs.length) :
    Calls Try.prog 35 #[.agg #[.int .i64 r, .slice A rs.length c], .agg #[.int .i64 3, .int .i64 I, .int .i64 J, .slice Aw nw cw]] w (ResPr w r ((vals rs).set i (Wd.rd ((rs.getD i nilRw).zs ++ (rs.getD j nilRw).zs)))) := by
  have CP := Lib.hid (fun (W : World) (hb : Below w.heap.size w W) => copy_spec (-1) A rs.length c rs W (h.into hb) rfl hn hrow)
  rw [exc_none (by decide)] at CP
  have P0 := Lib.hid (BoxG.new w 26 (.int .i64 r) (.slice A rs.length c))
  have M0 := Lib.hid (BoxT.new (w.alloc (Obj.cells #[.int .i64 r, .slice A rs.length c] 26)) 36 (.int .i64 3) (.int .i64 I) (.int .i64 J) (.slice Aw nw cw))
  have R0 := Lib.hid (BoxG.new ((w.alloc (Obj.cells #[.int .i64 r, .slice A rs.length c] 26)).alloc (Obj.cells #[.int .i64 3, .int .i64 I, .int .i64 J, .slice Aw nw cw] 36)) 26 (.int .i64 0) (.slice none 0 0))
  have F0 := Lib.hid (Free.new ((w.alloc (Obj.cells #[.int .i64 r, .slice A rs.length c] 26)).alloc (Obj.cells #[.int .i64 3, .int .i64 I, .int .i64 J, .slice Aw nw cw] 36)) 26 #[.int .i64 0, .slice none 0 0])
  have D3 := Lib.hid (al3 w (Obj.cells #[.int .i64 r, .slice A rs.length c] 26) (Obj.cells #[.int .i64 3, .int .i64 I, .int .i64 J, .slice Aw nw cw] 36) (Obj.cells #[.int .i64 0, .slice none 0 0] 26))
  obtain ⟨V, hV⟩ : ∃ V, V = (((w.alloc (Obj.cells #[.int .i64 r, .slice A rs.length c] 26)).alloc (Obj.cells #[.int .i64 3, .int .i64 I, .int .i64 J, .slice Aw nw cw] 36)).alloc (Obj.cells #[.int .i64 0, .slice none 0 0] 26)) := ⟨_, rfl⟩
  have sV : w.heap.size + 1 + 1 < V.heap.size := by rw [hV]; simp
  have X0 := Lib.hid (show BoxG V w.heap.size (.int .i64 r) (.slice A rs.length c) from by rw [hV]; exact (P0.out.below (al1 _ _) (by simp)).below (al1 _ _) (by simp; omega))
  have Y0 := Lib.hid (show BoxT V (w.heap.size + 1) (.int .i64 3) (.int .i64 I) (.int .i64 J) (.slice Aw nw cw) from by rw [hV]; simpa using M0.out.below (al1 _ _) (by simp))
  have Z0 := Lib.hid (show BoxG V (w.heap.size + 1 + 1) (.int .i64 0) (.slice none 0 0) from by rw [hV]; simpa using R0.out)
  have G0 := Lib.hid (show Free V (w.heap.size + 1 + 1) from by rw [hV]; simpa using F0.out)
  have DV := Lib.hid (show Below w.heap.size w V from by rw [hV]; exact D3.out)
  have HR := Lib.hid h
  have ROW := Lib.hid hrow
  have NN := Lib.hid hn
  clear h hrow hn P0 M0 R0 F0 D3
  have ROWZ := Wd.isP_iff.1 hp
  have zl : (rs.getD i nilRw).zs.length ≤ 120 ∧ Wd.Sm (rs.getD i nilRw).zs := by
    have h1 := (Wd.isR_iff.1 (ROWZ.2.2.2 _ (vals_mem hi))).1
    exact ⟨(Wd.isW_fit h1).1, Wd.isW_sm h1 (by omega)⟩
  obtain ⟨bi, offi, Ai, ci, zi, hAi, hbi, hri, hci, hic, him, hii⟩ := HR.out.at_ (j := i) hi
  have zlj : (rs.getD j nilRw).zs.length ≤ 120 ∧ Wd.Sm (rs.getD j nilRw).zs := by
    have h1 := (Wd.isR_iff.1 (ROWZ.2.2.2 _ (vals_mem hj))).1
    exact ⟨(Wd.isW_fit h1).1, Wd.isW_sm h1 (by omega)⟩
  obtain ⟨bj, offj, Aj, cj, zj, hAj, hbj, hrj, hcj, hjc, hjm, hjj⟩ := HR.out.at_ (j := j) hj
  rw [hri] at zl ⊢
  rw [hrj] at zlj ⊢
  dsimp only at zl zlj ⊢
  obtain ⟨zl, zS⟩ := zl
  obtain ⟨zlj, zSj⟩ := zlj
  subst hAi
  cases hAj
  have CJ := Lib.hid hcj
  have HII := Lib.hid hii
  have HJJ := Lib.hid hjj
  have SS := Lib.hid (Wd.Sm.app zS zSj)
  have CI := Lib.hid hci
  have FN := Lib.hid (fun (A0 : Option Addr) (c0 : Nat) (W : World) (hI0 : Ints W W.heap.size A0 (zi ++ zj).length (zi ++ zj)) => reduced_spec A0 (zi ++ zj).length c0 (zi ++ zj) W hI0 (by rw [List.length_append]; omega) SS.out)
  rw [List.length_append] at FN
  have FNZ := Lib.hid (fun (A0 : Option Addr) (c0 : Nat) (W : World) (hI0 : Ints W W.heap.size A0 (zi.length + zj.length) (zi ++ zj)) => (show Calls Try.prog 58 #[.slice A0 (0 + zi.length + zj.length) c0] W (ResLM W (Wd.rd (zi ++ zj))) from by rw [Nat.zero_add]; exact FN.out A0 c0 W hI0))
  obtain ⟨zo, hzo⟩ : ∃ zo, Wd.rd (zi ++ zj) = zo := ⟨_, rfl⟩
  rw [hzo] at FN ⊢
  subst hI
  subst hJ
  clear hzo hp ROWZ hri hci hic him hii zS hrj hcj hjc hjm hjj zSj
  go_enter Try.func35, Try.ntmps35
  go_upto_region 1 with fail
  rw [← hV]
  clear hV
  have v0 : w.heap.size < V.heap.size := by omega
  have v1 : w.heap.size + 1 < V.heap.size := by omega
  have n1 : ¬ w.heap.size = V.heap.size := by omega
  have n2 : ¬ V.heap.size = w.heap.size := by omega
  go_cut [5] (fun p W => CutM V r (vals rs) p W)
  case first =>
    obtain ⟨x0, x1⟩ := X0.out
    go_region_held3 (fun W => (W.cell? ⟨w.heap.size, 0, none⟩ = some (.int .i64 r)) ∧ (W.cell? ⟨w.heap.size, 1, none⟩ = some (.slice (some ⟨bi, offi, none⟩) rs.length c))) (go_keep)
      (first
        | (go_at_call 47; (refine (CP.out _ ?_).mono ?_; (first | exact DV.out.drew | exact (DV.out.trans ((al1 _ _).mono DV.out.size)).drew)); rintro e w6 ⟨A6, c6, rs6, rfl, ho6, hv6, hb6'⟩; have hb6 := undrew hb6'; have B6 := Lib.hid hb6; have O6 := Lib.hid ho6; have V6 := Lib.hid hv6; have z6 := hb6.size; have hx : w.heap.size < w6.heap.size := (by (try simp at z6); omega); first | (obtain ⟨e0, e1⟩ := X0.out.below hb6 (by omega)) | (obtain ⟨e0, e1⟩ := (X0.out.below (al1 _ _) (by omega)).below hb6 (by simp; omega)); (try (have bz := (BoxG.new V 26 (.int .i64 0) (.slice none 0 0)).below hb6 (by simp); have BZ := Lib.hid bz; obtain ⟨b0, b1⟩ := bz; have bf := (Free.new V 26 #[.int .i64 0, .slice none 0 0]).below hb6 (by simp); have BF := Lib.hid bf; unfold Free at bf)); clear hb6 hb6' ho6 hv6))
    all_goals
      go_wp2_with fail
      go_meet
      first
        | exact CutM.late (by simpa using O6.out) V6.out B6.out
        | exact CutM.early (by simpa using O6.out) V6.out B6.out BZ.out BF.out
  case rest =>
    obtain ⟨pb, A5, c5, rs5, lo5, hi5, rfl, hx5, hf5, ho5, hl5, hh5, hp5, hq5, hd5, hb5, hv5⟩ := hcut
    have X5 := Lib.hid hx5
    have F5 := Lib.hid hf5
    have O5 := Lib.hid ho5
    have B5 := Lib.hid hb5
    have V5 := Lib.hid hv5
    clear hx5 hf5 ho5 hb5 hv5
    obtain ⟨x0, x1⟩ := X0.out.below B5.out (by omega)
    obtain ⟨m0, m1, m2, m3⟩ := Y0.out.below B5.out (by omega)
    have DW := Lib.hid (DV.out.trans (B5.out.mono (by omega)))
    have L5 := Lib.hid (show rs5.length = rs.length from by rw [← vals_len, V5.out, vals_len])
    obtain ⟨g5, hg5, h1, h2, h3⟩ := O5.out.at_ (by rw [L5.out]; omega)
    subst hg5
    obtain ⟨k0, k1⟩ := h3 i (by rw [L5.out]; exact hi)
    have K0 := Lib.hid k0
    have K1 := Lib.hid k1
    obtain ⟨y0, y1⟩ := X5.out
    have x4 := (DW.out.cell (p := ⟨bi, offi + i, none⟩) hbi).trans CI.out
    have X4 := Lib.hid x4
    have x5 := (DW.out.cell (p := ⟨bi, offi + j, none⟩) hbi).trans CJ.out
    have X5J := Lib.hid x5
    have j0 : (0 : Int) ≤ (j : Int) := by omega
    have j1 : (j : Int) < (rs.length : Int) := by omega
    have l0 : w.heap.size < wc.heap.size := by omega
    have l1 : w.heap.size + 1 < wc.heap.size := by omega
    have l2 : bi < wc.heap.size := by omega
    have l3 : g5 < wc.heap.size := by omega
    have i0 : (0 : Int) ≤ (i : Int) := by omega
    have i1 : (i : Int) < (rs.length : Int) := by omega
    have i2 : (i : Int) < (rs5.length : Int) := by rw [L5.out]; omega
    have n3 : ¬ g5 = pb := by omega
    have n4 : ¬ pb = g5 := by omega
    have n5 : ¬ g5 = w.heap.size := by omega
    have n6 : ¬ w.heap.size = g5 := by omega
    have n7 : ¬ g5 = w.heap.size + 1 := by omega
    have n8 : ¬ w.heap.size + 1 = g5 := by omega
    have n9 : ¬ g5 = bi := by omega
    have n10 : ¬ bi = g5 := by omega
    have n11 : ¬ g5 = w.heap.size + 1 + 1 := by omega
    have n12 : ¬ w.heap.size + 1 + 1 = g5 := by omega
    clear h3
    go_upto_region 12 with fail
    go_region_held3 (fun W => (W.cell? ⟨pb, 1, none⟩ = some (.slice (some ⟨g5, 0, none⟩) rs5.length c5)) ∧ (W.cell? ⟨w.heap.size, 1, none⟩ = some (.slice (some ⟨bi, offi, none⟩) rs.length c)) ∧ (W.cell? ⟨w.heap.size + 1, 1, none⟩ = some (.int .i64 (i : Int))) ∧ (W.cell? ⟨bi, offi + i, none⟩ = some (.slice Ai zi.length ci)) ∧ (W.cell? ⟨w.heap.size + 1, 2, none⟩ = some (.int .i64 (j : Int))) ∧ (W.cell? ⟨bi, offi + j, none⟩ = some (.slice Aj zj.length cj))) (go_keep)
      (first
        | (refine Wd.step_push_any (by rfl) _ _ (by rfl) wc.heap.size (wc.heap.size + 1) 0 w.heap.size 0 zi.length ci (some ⟨wc.heap.size, 0, none⟩) Ai [] zi (by rfl) (by exact Wd.own_nil wc) (by rfl) (by exact HII.out.below ((DW.out.trans ((al1 wc _).mono DW.out.size)).drew)) (by simp) (by simp) (by omega) ?_; intro A7 c7 w7 h5 h6; have O7 := Lib.hid (show Own w7 wc.heap.size w7.heap.size A7 zi.length c7 zi from by simpa using h5); have D7 := Lib.hid (((al1 wc _).drew).trans (h6.below (Nat.le_refl _) (by simp))); have s7 := D7.out.size; obtain ⟨e0a, e1a⟩ := (X0.out.below B5.out (by omega)).below D7.out (by omega); obtain ⟨e2a, e3a, e4a, e5a⟩ := (Y0.out.below B5.out (by omega)).below D7.out (by omega); obtain ⟨e6a, e7a⟩ := X5.out.below D7.out (by omega); have e8a := ((D7.out).cell (p := ⟨bi, offi + i, none⟩) (by dsimp only; omega)).trans X4.out; have e11a := ((D7.out).cell (p := ⟨bi, offi + j, none⟩) (by dsimp only; omega)).trans X5J.out; have e9a := ((D7.out).cell (p := ⟨g5, i, none⟩) (by dsimp only; omega)).trans K0.out; have e10a := ((D7.out).frozen (p := ⟨g5, i, none⟩) (by dsimp only; omega)).trans K1.out; clear h5 h6)
        | (refine Wd.step_push_any (by rfl) _ _ (by rfl) wc.heap.size w7.heap.size c7 w.heap.size zi.length zj.length cj A7 Aj zi zj (by rfl) (by exact O7.out) (by rfl) (by exact HJJ.out.below (DW.out.trans (D7.out.mono DW.out.size))) (by omega) (Nat.le_refl _) (by omega) ?_; intro A8 c8 w8 h5 h6; have O8 := Lib.hid h5; have D8 := Lib.hid (D7.out.trans (h6.below (Nat.le_refl _) (by omega))); have s8 := D8.out.size; obtain ⟨e0b, e1b⟩ := (X0.out.below B5.out (by omega)).below D8.out (by omega); obtain ⟨e2b, e3b, e4b, e5b⟩ := (Y0.out.below B5.out (by omega)).below D8.out (by omega); obtain ⟨e6b, e7b⟩ := X5.out.below D8.out (by omega); have e8b := ((D8.out).cell (p := ⟨bi, offi + i, none⟩) (by dsimp only; omega)).trans X4.out; have e11b := ((D8.out).cell (p := ⟨bi, offi + j, none⟩) (by dsimp only; omega)).trans X5J.out; have e9b := ((D8.out).cell (p := ⟨g5, i, none⟩) (by dsimp only; omega)).trans K0.out; have e10b := ((D8.out).frozen (p := ⟨g5, i, none⟩) (by dsimp only; omega)).trans K1.out; clear h5 h6)
        | (refine Wd.step_push_any (by rfl) _ _ (by rfl) wc.heap.size w7.heap.size c7 w.heap.size (0 + zi.length) zj.length cj A7 Aj zi zj (by rfl) (by rw [Nat.zero_add]; exact O7.out) (by rfl) (by exact HJJ.out.below (DW.out.trans (D7.out.mono DW.out.size))) (by omega) (Nat.le_refl _) (by omega) ?_; intro A8 c8 w8 h5 h6; have O8 := Lib.hid (show Own w8 wc.heap.size w8.heap.size A8 (zi.length + zj.length) c8 (zi ++ zj) from by simpa using h5); have D8 := Lib.hid (D7.out.trans (h6.below (Nat.le_refl _) (by omega))); have s8 := D8.out.size; obtain ⟨e0b, e1b⟩ := (X0.out.below B5.out (by omega)).below D8.out (by omega); obtain ⟨e2b, e3b, e4b, e5b⟩ := (Y0.out.below B5.out (by omega)).below D8.out (by omega); obtain ⟨e6b, e7b⟩ := X5.out.below D8.out (by omega); have e8b := ((D8.out).cell (p := ⟨bi, offi + i, none⟩) (by dsimp only; omega)).trans X4.out; have e11b := ((D8.out).cell (p := ⟨bi, offi + j, none⟩) (by dsimp only; omega)).trans X5J.out; have e9b := ((D8.out).cell (p := ⟨g5, i, none⟩) (by dsimp only; omega)).trans K0.out; have e10b := ((D8.out).frozen (p := ⟨g5, i, none⟩) (by dsimp only; omega)).trans K1.out; clear h5 h6)
        | (go_at_call 58; (refine (FN.out A8 c8 _ (by exact O8.out.ints)).mono ?_); rintro e w6 ⟨R6, t6, rfl, hc6, hm6, hb6'⟩; have B6 := Lib.hid (D8.out.trans (hb6'.mono s8)); have z6 := B6.out.size; have M6 := Lib.hid (show Rw.In ⟨R6, t6, zo⟩ w6 wc.heap.size w6.heap.size from ⟨hc6.1, hc6.2, hm6.wide s8 (Nat.le_refl _)⟩); obtain ⟨e0, e1⟩ := (X0.out.below B5.out (by omega)).below B6.out (by omega); obtain ⟨e2, e3, e4, e5⟩ := (Y0.out.below B5.out (by omega)).below B6.out (by omega); obtain ⟨e6, e7⟩ := X5.out.below B6.out (by omega); have e8 := ((B6.out).cell (p := ⟨bi, offi + i, none⟩) (by dsimp only; omega)).trans X4.out; have e11 := ((B6.out).cell (p := ⟨bi, offi + j, none⟩) (by dsimp only; omega)).trans X5J.out; have e9 := ((B6.out).cell (p := ⟨g5, i, none⟩) (by dsimp only; omega)).trans K0.out; have e10 := ((B6.out).frozen (p := ⟨g5, i, none⟩) (by dsimp only; omega)).trans K1.out; clear hb6' hc6 hm6)
        | (go_at_call 58; (refine (FNZ.out A8 c8 _ (by exact O8.out.ints)).mono ?_); rintro e w6 ⟨R6, t6, rfl, hc6, hm6, hb6'⟩; have B6 := Lib.hid (D8.out.trans (hb6'.mono s8)); have z6 := B6.out.size; have M6 := Lib.hid (show Rw.In ⟨R6, t6, zo⟩ w6 wc.heap.size w6.heap.size from ⟨hc6.1, hc6.2, hm6.wide s8 (Nat.le_refl _)⟩); obtain ⟨e0, e1⟩ := (X0.out.below B5.out (by omega)).below B6.out (by omega); obtain ⟨e2, e3, e4, e5⟩ := (Y0.out.below B5.out (by omega)).below B6.out (by omega); obtain ⟨e6, e7⟩ := X5.out.below B6.out (by omega); have e8 := ((B6.out).cell (p := ⟨bi, offi + i, none⟩) (by dsimp only; omega)).trans X4.out; have e11 := ((B6.out).cell (p := ⟨bi, offi + j, none⟩) (by dsimp only; omega)).trans X5J.out; have e9 := ((B6.out).cell (p := ⟨g5, i, none⟩) (by dsimp only; omega)).trans K0.out; have e10 := ((B6.out).frozen (p := ⟨g5, i, none⟩) (by dsimp only; omega)).trans K1.out; clear hb6' hc6 hm6))
    all_goals
      have D6 := Lib.hid (DW.out.trans (B6.out.mono (by omega)))
      have O6 := Lib.hid (((O5.out.below B6.out (by omega)).wide (lo' := lo5) (hi' := w6.heap.size) (Nat.le_refl _) (by omega)).set_ i ⟨R6, t6, zo⟩ (M6.out.wide (by omega) (Nat.le_refl _)) (M6.out.off (.inl (by omega))) (fun r' hr' => Apart.of_in M6.out (O5.out.mine r' hr') (.inr (by omega))))
      have VAL := Lib.hid (show vals (rs5.set i ⟨R6, t6, zo⟩) = (vals rs).set i zo from by rw [vals_set, V5.out])
      obtain ⟨s0, s1⟩ := (Z0.out.below B5.out (by omega)).below B6.out (by omega)
      have f0 := (G0.out.below B5.out (by omega)).below B6.out (by omega)
      unfold Free at f0
      clear e0 e1 e2 e3 e4 e5 e8 e9 e10 e11 x0 x1 m0 m1 m2 m3 y0 y1 k0 k1 x4 x5
      go_wp2
      refine bodyPost_ret (v := .agg #[.int .i64 r, .slice (some ⟨g5, 0, none⟩) rs5.length c5]) (by simp [results, Try.results35, s0, s1, go_sem]) rfl ?_
      refine ⟨some ⟨g5, 0, none⟩, c5, rs5.set i ⟨R6, t6, zo⟩, by rw [List.length_set], ?_, VAL.out, ((D6.out.setCell (by dsimp only; omega) _).setCell (by dsimp only; omega) _).setCell (by dsimp only; omega) _⟩
      exact ((O6.out.far (p := ⟨w.heap.size + 1 + 1, 0, none⟩) (.inl (by dsimp only; omega)) _).far (p := ⟨w.heap.size + 1 + 1, 1, none⟩) (.inl (by dsimp only; omega)) _).wide (by omega) (by simp [World.setCell])

end Go.Proofs.Ytjommpdblbbkdaa
