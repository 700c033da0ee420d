/- The specification's moves: l04Move, a generator added. No condition but those that each theorem names. -/
import Derived.Test.YtjommpdblbbkdaaTzQ
import Derived.Test.YtjommpdblbbkdaaTzKa
namespace Go.Proofs.Ytjommpdblbbkdaa
open Go.RowKit

set_option maxRecDepth 100000 in
set_option maxHeartbeats 16000000 in
theorem move_add (I J r : Int) (A Aw : Option Addr) (c nw cw : Nat) (rs : List Rw) (w : World) (h : RdS w w.heap.size A rs) (hn : rs.length ≤ 1048576) (hrow : ∀ q ∈ rs, q.zs.length ≤ 1048576) (ws : List Int) (hw : Ints w w.heap.size Aw nw ws) (hwn : nw ≤ 120) (hp : Wd.isP r (vals rs) = true) :
    Calls Try.prog 35 #[.agg #[.int .i64 r, .slice A rs.length c], .agg #[.int .i64 6, .int .i64 I, .int .i64 J, .slice Aw nw cw]] w (ResPr w (r + 1) (vals rs ++ [-(r + 1) :: ws])) := by
  have CP := Lib.hid (fun (W : World) (hb : Below w.heap.size w W) => copy_spec (-1) A rs.length c rs W (h.into hb) rfl hn hrow)
  rw [exc_none (by decide)] at CP
  have P0 := Lib.hid (BoxG.new w 26 (.int .i64 r) (.slice A rs.length c))
  have M0 := Lib.hid (BoxT.new (w.alloc (Obj.cells #[.int .i64 r, .slice A rs.length c] 26)) 36 (.int .i64 6) (.int .i64 I) (.int .i64 J) (.slice Aw nw cw))
  have R0 := Lib.hid (BoxG.new ((w.alloc (Obj.cells #[.int .i64 r, .slice A rs.length c] 26)).alloc (Obj.cells #[.int .i64 6, .int .i64 I, .int .i64 J, .slice Aw nw cw] 36)) 26 (.int .i64 0) (.slice none 0 0))
  have F0 := Lib.hid (Free.new ((w.alloc (Obj.cells #[.int .i64 r, .slice A rs.length c] 26)).alloc (Obj.cells #[.int .i64 6, .int .i64 I, .int .i64 J, .slice Aw nw cw] 36)) 26 #[.int .i64 0, .slice none 0 0])
  have D3 := Lib.hid (al3 w (Obj.cells #[.int .i64 r, .slice A rs.length c] 26) (Obj.cells #[.int .i64 6, .int .i64 I, .int .i64 J, .slice Aw nw cw] 36) (Obj.cells #[.int .i64 0, .slice none 0 0] 26))
  obtain ⟨V, hV⟩ : ∃ V, V = (((w.alloc (Obj.cells #[.int .i64 r, .slice A rs.length c] 26)).alloc (Obj.cells #[.int .i64 6, .int .i64 I, .int .i64 J, .slice Aw nw cw] 36)).alloc (Obj.cells #[.int .i64 0, .slice none 0 0] 26)) := ⟨_, rfl⟩
  have sV : w.heap.size + 1 + 1 < V.heap.size := by rw [hV]; simp
  have X0 := Lib.hid (show BoxG V w.heap.size (.int .i64 r) (.slice A rs.length c) from by rw [hV]; exact (P0.out.below (al1 _ _) (by simp)).below (al1 _ _) (by simp; omega))
  have Y0 := Lib.hid (show BoxT V (w.heap.size + 1) (.int .i64 6) (.int .i64 I) (.int .i64 J) (.slice Aw nw cw) from by rw [hV]; simpa using M0.out.below (al1 _ _) (by simp))
  have Z0 := Lib.hid (show BoxG V (w.heap.size + 1 + 1) (.int .i64 0) (.slice none 0 0) from by rw [hV]; simpa using R0.out)
  have G0 := Lib.hid (show Free V (w.heap.size + 1 + 1) from by rw [hV]; simpa using F0.out)
  have DV := Lib.hid (show Below w.heap.size w V from by rw [hV]; exact D3.out)
  have HR := Lib.hid h
  have ROW := Lib.hid hrow
  have NN := Lib.hid hn
  clear h hrow hn P0 M0 R0 F0 D3
  obtain ⟨r0, r24, r48, _⟩ := Wd.isP_iff.1 hp
  rw [vals_len] at r48
  have HW := Lib.hid hw
  have LW := Lib.hid hw.1
  have wp1 : IntKind.i64.wrap (r + 1) = r + 1 := IntWalk.i64_in _ (by omega)
  have wn1 : IntKind.i64.wrap (-(r + 1)) = -(r + 1) := IntWalk.i64_in _ (by omega)
  obtain ⟨zo, hzo⟩ : ∃ zo, [-(r + 1)] ++ ws = zo := ⟨_, rfl⟩
  have ZO := Lib.hid hzo
  have ZO2 := Lib.hid (show -(r + 1) :: ws = zo from hzo)
  have ZL := Lib.hid (show zo.length = 1 + nw from by rw [← hzo, List.length_append, LW.out]; rfl)
  rw [ZO2.out]
  clear hzo hp hw
  go_enter Try.func35, Try.ntmps35
  go_upto_region 1 with fail
  rw [← hV]
  clear hV
  have v0 : w.heap.size < V.heap.size := by omega
  have v1 : w.heap.size + 1 < V.heap.size := by omega
  have n1 : ¬ w.heap.size = V.heap.size := by omega
  have n2 : ¬ V.heap.size = w.heap.size := by omega
  go_cut [5] (fun p W => CutM V r (vals rs) p W)
  case first =>
    obtain ⟨x0, x1⟩ := X0.out
    go_region_held3 (fun W => (W.cell? ⟨w.heap.size, 0, none⟩ = some (.int .i64 r)) ∧ (W.cell? ⟨w.heap.size, 1, none⟩ = some (.slice A rs.length c))) (go_keep)
      (first
        | (go_at_call 47; (refine (CP.out _ ?_).mono ?_; (first | exact DV.out.drew | exact (DV.out.trans ((al1 _ _).mono DV.out.size)).drew)); rintro e w6 ⟨A6, c6, rs6, rfl, ho6, hv6, hb6'⟩; have hb6 := undrew hb6'; have B6 := Lib.hid hb6; have O6 := Lib.hid ho6; have V6 := Lib.hid hv6; have z6 := hb6.size; have hx : w.heap.size < w6.heap.size := (by (try simp at z6); omega); first | (obtain ⟨e0, e1⟩ := X0.out.below hb6 (by omega)) | (obtain ⟨e0, e1⟩ := (X0.out.below (al1 _ _) (by omega)).below hb6 (by simp; omega)); (try (have bz := (BoxG.new V 26 (.int .i64 0) (.slice none 0 0)).below hb6 (by simp); have BZ := Lib.hid bz; obtain ⟨b0, b1⟩ := bz; have bf := (Free.new V 26 #[.int .i64 0, .slice none 0 0]).below hb6 (by simp); have BF := Lib.hid bf; unfold Free at bf)); clear hb6 hb6' ho6 hv6))
    all_goals
      go_wp2_with fail
      go_meet
      first
        | exact CutM.late (by simpa using O6.out) V6.out B6.out
        | exact CutM.early (by simpa using O6.out) V6.out B6.out BZ.out BF.out
  case rest =>
    obtain ⟨pb, A5, c5, rs5, lo5, hi5, rfl, hx5, hf5, ho5, hl5, hh5, hp5, hq5, hd5, hb5, hv5⟩ := hcut
    have X5 := Lib.hid hx5
    have F5 := Lib.hid hf5
    have O5 := Lib.hid ho5
    have B5 := Lib.hid hb5
    have V5 := Lib.hid hv5
    clear hx5 hf5 ho5 hb5 hv5
    obtain ⟨x0, x1⟩ := X0.out.below B5.out (by omega)
    obtain ⟨m0, m1, m2, m3⟩ := Y0.out.below B5.out (by omega)
    obtain ⟨y0, y1⟩ := X5.out
    have DW := Lib.hid (DV.out.trans (B5.out.mono (by omega)))
    have L5 := Lib.hid (show rs5.length = rs.length from by rw [← vals_len, V5.out, vals_len])
    have l0 : w.heap.size < wc.heap.size := by omega
    have l1 : w.heap.size + 1 < wc.heap.size := by omega
    go_upto_region 4 with fail
    go_region_held3 (fun W => (W.cell? ⟨pb, 1, none⟩ = some (.slice A5 rs5.length c5)) ∧ (W.cell? ⟨w.heap.size + 1, 3, none⟩ = some (.slice Aw nw cw))) (go_keep)
      (first
        | (refine Wd.step_push_any (by rfl) _ _ (by rfl) wc.heap.size (wc.heap.size + 1) 1 w.heap.size 1 nw cw (some ⟨wc.heap.size, 0, none⟩) Aw [-(r + 1)] ws (by rfl) (by exact Own.of_blk (Blk.new wc [-(r + 1)]) (Nat.le_refl _) (by simp) rfl (by unfold maxLen; omega)) (by rfl) (by exact HW.out.below ((DW.out.trans ((al1 wc _).mono DW.out.size)).drew)) (by simp) (by simp) (by omega) ?_; intro A7 c7 w7 h5 h6; have O7 := Lib.hid (show Own w7 wc.heap.size w7.heap.size A7 (1 + nw) c7 zo from by rw [← ZO.out]; exact h5); have D7 := Lib.hid (((al1 wc _).drew).trans (h6.below (Nat.le_refl _) (by simp))); have s7 := D7.out.size; have M7 := Lib.hid (show Rw.In ⟨A7, c7, zo⟩ w7 wc.heap.size w7.heap.size from ⟨by dsimp only; rw [ZL.out]; exact (Wd.own_caps O7.out).1, (Wd.own_caps O7.out).2, by dsimp only; rw [ZL.out]; exact O7.out.mine⟩); obtain ⟨e0, e1⟩ := X5.out.below D7.out (by omega); obtain ⟨e2, e3, e4, e5⟩ := (Y0.out.below B5.out (by omega)).below D7.out (by omega); clear h5 h6)
        | (refine step_push_row2 (by rfl) _ _ (by rfl) lo5 hi5 wc.heap.size c5 rs5.length w7.heap.size A5 rs5 ⟨A7, c7, zo⟩ (by rfl) rfl (by exact O5.out.below (D7.out.trans ((al1 w7 _).mono s7)) (by omega)) (by rfl) (by first | exact Wd.alloc_first _ _ _ _ rfl | (have := Wd.alloc_first w7 w7.heap.size (.slice A7 (1 + nw) c7) 34 rfl; rw [Rw.sv, ZL.out]; exact this)) (by exact (M7.out.below (al1 w7 _) (Nat.le_refl _)).wide (Nat.le_refl _) (by simp)) (by omega) (by omega) (by simp; omega) (by simp; omega) (by rw [L5.out]; omega) ?_; intro A8 c8 w8 h5 h6 h7; have O8 := Lib.hid h5; have K8 := Lib.hid h6; obtain ⟨e6, e7⟩ := ((X5.out.below D7.out (by omega)).below (al1 w7 (Obj.cells #[.slice A7 (1 + nw) c7] 34)) (by omega)).kept K8.out (by simp; omega) (by omega); obtain ⟨e8, e9, e10, e11⟩ := (((Y0.out.below B5.out (by omega)).below D7.out (by omega)).below (al1 w7 (Obj.cells #[.slice A7 (1 + nw) c7] 34)) (by omega)).kept K8.out (by simp; omega) (by omega); obtain ⟨s0, s1⟩ := (((Z0.out.below B5.out (by omega)).below D7.out (by omega)).below (al1 w7 (Obj.cells #[.slice A7 (1 + nw) c7] 34)) (by omega)).kept K8.out (by simp; omega) (by omega); have f0 := (((G0.out.below B5.out (by omega)).below D7.out (by omega)).below (al1 w7 (Obj.cells #[.slice A7 (1 + nw) c7] 34)) (by omega)).kept K8.out (by simp; omega) (by omega); unfold Free at f0; have s8 := K8.out.size; simp only [World.size_alloc] at s8; have n20 : w.heap.size + 1 + 1 < w8.heap.size := (by omega); have n21 : w.heap.size < w8.heap.size := (by omega); have n22 : w.heap.size + 1 < w8.heap.size := (by omega); have n23 : pb < w8.heap.size := (by omega); have n24 : ¬ w.heap.size + 1 + 1 = pb := (by omega); have n25 : ¬ pb = w.heap.size + 1 + 1 := (by omega); have n26 : ¬ w.heap.size + 1 + 1 = w.heap.size + 1 := (by omega); have n27 : ¬ w.heap.size + 1 = w.heap.size + 1 + 1 := (by omega); clear h5 h6 h7))
    all_goals
      have D8 := Lib.hid ((DW.out.trans (D7.out.mono (by omega))).trans (((al1 w7 (Obj.cells #[.slice A7 (1 + nw) c7] 34)).mono (by omega)).trans (K8.out.below (B := w.heap.size) (by omega) (by simp; omega))))
      have VAL := Lib.hid (show vals (rs5 ++ [⟨A7, c7, zo⟩]) = vals rs ++ [zo] from by rw [← V5.out]; simp [vals])
      have LE := Lib.hid (show (rs5 ++ [(⟨A7, c7, zo⟩ : Rw)]).length = rs5.length + 1 from by rw [List.length_append]; rfl)
      clear e0 e1 e2 e3 e4 e5 e6 e7 e8 e9 e10 e11 x0 x1 m0 m1 m2 m3 y0 y1
      go_wp2
      refine bodyPost_ret (v := .agg #[.int .i64 (r + 1), .slice A8 (rs5.length + 1) c8]) (by simp [results, Try.results35, s0, s1, go_sem]) rfl ?_
      refine ⟨A8, c8, rs5 ++ [⟨A7, c7, zo⟩], by rw [LE.out], ?_, VAL.out, ?_⟩
      · exact ((O8.out.far (p := ⟨w.heap.size + 1 + 1, 0, none⟩) (.inl (by dsimp only; omega)) _).far (p := ⟨w.heap.size + 1 + 1, 1, none⟩) (.inl (by dsimp only; omega)) _).wide (by omega) (by simp [World.setCell])
      · exact (D8.out.setCell (by dsimp only; omega) _).setCell (by dsimp only; omega) _

end Go.Proofs.Ytjommpdblbbkdaa
