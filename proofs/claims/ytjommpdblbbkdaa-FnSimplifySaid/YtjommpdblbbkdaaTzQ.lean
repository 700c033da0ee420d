/- The specification's moves: l04Move. No condition but those that each theorem names. -/
import Derived.Test.YtjommpdblbbkdaaTzP
import Derived.Deep.RegionHeld3
namespace Go.Proofs.Ytjommpdblbbkdaa
open Go.RowKit

theorem BoxG.set0_ {W : World} {b : Nat} {x y u : Value} (h : BoxG W b x y) : BoxG (W.setCell ⟨b, 0, none⟩ u) b u y := ⟨by simp [h.1, go_sem], by simp [h.2, go_sem]⟩
/-- The copy in its box: the rows apart from the box. -/
def CutM (V : World) (r : Int) (zss : List (List Int)) (p : Value) (W : World) : Prop :=
  ∃ pb A c rs lo hi, p = .pointer (some ⟨pb, 0, none⟩) ∧ BoxG W pb (.int .i64 r) (.slice A rs.length c) ∧ Free W pb ∧ OwnS W lo hi A c rs ∧ (V.heap.size ≤ lo ∧ lo ≤ hi) ∧ hi ≤ W.heap.size ∧ V.heap.size ≤ pb ∧ pb < W.heap.size ∧ (pb < lo ∨ hi ≤ pb) ∧ Below V.heap.size V W ∧ vals rs = zss
theorem CutM.late {V w6 : World} {r : Int} {zss : List (List Int)} {A : Option Addr} {c : Nat} {rs : List Rw} (ho : OwnS w6 V.heap.size w6.heap.size A c rs) (hv : vals rs = zss) (hb : Below V.heap.size V w6) : CutM V r zss (.pointer (some ⟨w6.heap.size, 0, none⟩)) (w6.alloc (Obj.cells #[.int .i64 r, .slice A rs.length c] 26)) :=
  ⟨w6.heap.size, A, c, rs, V.heap.size, w6.heap.size, rfl, BoxG.new _ _ _ _, Free.new _ _ _, ho.below (al1 _ _) (Nat.le_refl _), ⟨Nat.le_refl _, hb.size⟩, by simp, hb.size, by simp, .inr (Nat.le_refl _), hb.alloc hb.size _, hv⟩
theorem CutM.early {V w6 : World} {o : Obj} {r : Int} {zss : List (List Int)} {A : Option Addr} {c : Nat} {rs : List Rw} (ho : OwnS w6 (V.heap.size + 1) w6.heap.size A c rs) (hv : vals rs = zss) (hb : Below (V.alloc o).heap.size (V.alloc o) w6) (hx : BoxG w6 V.heap.size (.int .i64 0) (.slice none 0 0)) (hf : Free w6 V.heap.size) : CutM V r zss (.pointer (some ⟨V.heap.size, 0, none⟩)) ((w6.setCell ⟨V.heap.size, 0, none⟩ (.int .i64 r)).setCell ⟨V.heap.size, 1, none⟩ (.slice A rs.length c)) := by
  have hz : V.heap.size < w6.heap.size := by have := hb.size; simp at this; omega
  refine ⟨V.heap.size, A, c, rs, V.heap.size + 1, w6.heap.size, rfl, (hx.set0_).set1_, (hf.setA _ _).setA _ _, (ho.far (p := ⟨V.heap.size, 0, none⟩) (.inl (Nat.lt_succ_self _)) _).far (p := ⟨V.heap.size, 1, none⟩) (.inl (Nat.lt_succ_self _)) _, ⟨Nat.le_succ _, hz⟩, by simp [World.setCell], Nat.le_refl _, by simp [World.setCell]; omega, .inl (Nat.lt_succ_self _), ?_, hv⟩
  exact ((on1 _ hb).setCell (Nat.le_refl _) _).setCell (Nat.le_refl _) _

set_option maxRecDepth 100000 in
set_option maxHeartbeats 16000000 in
theorem move_drop (I J r : Int) (A Aw : Option Addr) (c nw cw : Nat) (rs : List Rw) (w : World) (h : RdS w w.heap.size A rs) (hn : rs.length ≤ 1048576) (hrow : ∀ q ∈ rs, q.zs.length ≤ 1048576) (i : Nat) (hI : I = i) :
    Calls Try.prog 35 #[.agg #[.int .i64 r, .slice A rs.length c], .agg #[.int .i64 4, .int .i64 I, .int .i64 J, .slice Aw nw cw]] w (ResPr w r ((vals rs).eraseIdx i)) := by
  have CP := Lib.hid (fun (W : World) (hb : Below w.heap.size w W) => copy_spec (-1) A rs.length c rs W (h.into hb) rfl hn hrow)
  rw [exc_none (by decide)] at CP
  have P0 := Lib.hid (BoxG.new w 26 (.int .i64 r) (.slice A rs.length c))
  have M0 := Lib.hid (BoxT.new (w.alloc (Obj.cells #[.int .i64 r, .slice A rs.length c] 26)) 36 (.int .i64 4) (.int .i64 I) (.int .i64 J) (.slice Aw nw cw))
  have R0 := Lib.hid (BoxG.new ((w.alloc (Obj.cells #[.int .i64 r, .slice A rs.length c] 26)).alloc (Obj.cells #[.int .i64 4, .int .i64 I, .int .i64 J, .slice Aw nw cw] 36)) 26 (.int .i64 0) (.slice none 0 0))
  have F0 := Lib.hid (Free.new ((w.alloc (Obj.cells #[.int .i64 r, .slice A rs.length c] 26)).alloc (Obj.cells #[.int .i64 4, .int .i64 I, .int .i64 J, .slice Aw nw cw] 36)) 26 #[.int .i64 0, .slice none 0 0])
  have D3 := Lib.hid (al3 w (Obj.cells #[.int .i64 r, .slice A rs.length c] 26) (Obj.cells #[.int .i64 4, .int .i64 I, .int .i64 J, .slice Aw nw cw] 36) (Obj.cells #[.int .i64 0, .slice none 0 0] 26))
  obtain ⟨V, hV⟩ : ∃ V, V = (((w.alloc (Obj.cells #[.int .i64 r, .slice A rs.length c] 26)).alloc (Obj.cells #[.int .i64 4, .int .i64 I, .int .i64 J, .slice Aw nw cw] 36)).alloc (Obj.cells #[.int .i64 0, .slice none 0 0] 26)) := ⟨_, rfl⟩
  have sV : w.heap.size + 1 + 1 < V.heap.size := by rw [hV]; simp
  have X0 := Lib.hid (show BoxG V w.heap.size (.int .i64 r) (.slice A rs.length c) from by rw [hV]; exact (P0.out.below (al1 _ _) (by simp)).below (al1 _ _) (by simp; omega))
  have Y0 := Lib.hid (show BoxT V (w.heap.size + 1) (.int .i64 4) (.int .i64 I) (.int .i64 J) (.slice Aw nw cw) from by rw [hV]; simpa using M0.out.below (al1 _ _) (by simp))
  have Z0 := Lib.hid (show BoxG V (w.heap.size + 1 + 1) (.int .i64 0) (.slice none 0 0) from by rw [hV]; simpa using R0.out)
  have G0 := Lib.hid (show Free V (w.heap.size + 1 + 1) from by rw [hV]; simpa using F0.out)
  have DV := Lib.hid (show Below w.heap.size w V from by rw [hV]; exact D3.out)
  have HR := Lib.hid h
  have ROW := Lib.hid hrow
  have NN := Lib.hid hn
  clear h hrow hn P0 M0 R0 F0 D3
  have CP2 := Lib.hid (fun (W : World) (hb : Below w.heap.size w W) => copy_spec I A rs.length c rs W (HR.out.into hb) rfl NN.out ROW.out)
  rw [hI, exc_at] at CP2
  subst hI
  go_enter Try.func35, Try.ntmps35
  go_upto_region 1 with fail
  rw [← hV]
  clear hV
  have v0 : w.heap.size < V.heap.size := by omega
  have v1 : w.heap.size + 1 < V.heap.size := by omega
  have n1 : ¬ w.heap.size = V.heap.size := by omega
  have n2 : ¬ V.heap.size = w.heap.size := by omega
  go_cut [5] (fun p W => CutM V r (vals rs) p W)
  case first =>
    obtain ⟨x0, x1⟩ := X0.out
    go_region_held3 (fun W => (W.cell? ⟨w.heap.size, 0, none⟩ = some (.int .i64 r)) ∧ (W.cell? ⟨w.heap.size, 1, none⟩ = some (.slice A rs.length c))) (go_keep)
      (first
        | (go_at_call 47; (refine (CP.out _ ?_).mono ?_; (first | exact DV.out.drew | exact (DV.out.trans ((al1 _ _).mono DV.out.size)).drew)); rintro e w6 ⟨A6, c6, rs6, rfl, ho6, hv6, hb6'⟩; have hb6 := undrew hb6'; have B6 := Lib.hid hb6; have O6 := Lib.hid ho6; have V6 := Lib.hid hv6; have z6 := hb6.size; have hx : w.heap.size < w6.heap.size := (by (try simp at z6); omega); first | (obtain ⟨e0, e1⟩ := X0.out.below hb6 (by omega)) | (obtain ⟨e0, e1⟩ := (X0.out.below (al1 _ _) (by omega)).below hb6 (by simp; omega)); (try (have bz := (BoxG.new V 26 (.int .i64 0) (.slice none 0 0)).below hb6 (by simp); have BZ := Lib.hid bz; obtain ⟨b0, b1⟩ := bz; have bf := (Free.new V 26 #[.int .i64 0, .slice none 0 0]).below hb6 (by simp); have BF := Lib.hid bf; unfold Free at bf)); clear hb6 hb6' ho6 hv6))
    all_goals
      go_wp2_with fail
      go_meet
      first
        | exact CutM.late (by simpa using O6.out) V6.out B6.out
        | exact CutM.early (by simpa using O6.out) V6.out B6.out BZ.out BF.out
  case rest =>
    obtain ⟨pb, A5, c5, rs5, lo5, hi5, rfl, hx5, hf5, ho5, hl5, hh5, hp5, hq5, hd5, hb5, hv5⟩ := hcut
    have X5 := Lib.hid hx5
    have F5 := Lib.hid hf5
    have O5 := Lib.hid ho5
    have B5 := Lib.hid hb5
    have V5 := Lib.hid hv5
    clear hx5 hf5 ho5 hb5 hv5
    obtain ⟨x0, x1⟩ := X0.out.below B5.out (by omega)
    obtain ⟨m0, m1, m2, m3⟩ := Y0.out.below B5.out (by omega)
    have DW := Lib.hid (DV.out.trans (B5.out.mono (by omega)))
    have n3 : ¬ w.heap.size = w.heap.size + 1 + 1 := by omega
    have n4 : ¬ w.heap.size + 1 + 1 = w.heap.size := by omega
    have n5 : ¬ w.heap.size + 1 = w.heap.size + 1 + 1 := by omega
    have n6 : ¬ w.heap.size + 1 + 1 = w.heap.size + 1 := by omega
    go_upto_region 14 with fail
    go_region_held3 (fun W => (W.cell? ⟨w.heap.size, 0, none⟩ = some (.int .i64 r)) ∧ (W.cell? ⟨w.heap.size, 1, none⟩ = some (.slice A rs.length c)) ∧ (W.cell? ⟨w.heap.size + 1, 1, none⟩ = some (.int .i64 (i : Int)))) (go_keep)
      (first
        | (go_at_call 47; (refine (CP2.out _ DW.out.drew).mono ?_); rintro e w6 ⟨A6, c6, rs6, rfl, ho6, hv6, hb6'⟩; have hb6 := undrew hb6'; have B6 := Lib.hid hb6; have O6 := Lib.hid ho6; have V6 := Lib.hid hv6; have z6 := hb6.size; obtain ⟨e0, e1⟩ := (X0.out.below B5.out (by omega)).below hb6 (by omega); obtain ⟨e2, e3, e4, e5⟩ := (Y0.out.below B5.out (by omega)).below hb6 (by omega); obtain ⟨s0, s1⟩ := (Z0.out.below B5.out (by omega)).below hb6 (by omega); have f0 := (G0.out.below B5.out (by omega)).below hb6 (by omega); unfold Free at f0; clear hb6 hb6' ho6 hv6))
    all_goals
      have D6 := Lib.hid (DW.out.trans (B6.out.mono (by omega)))
      clear e0 e1 e2 e3 e4 e5 x0 x1 m0 m1 m2 m3
      go_wp2
      refine bodyPost_ret (v := .agg #[.int .i64 r, .slice A6 rs6.length c6]) (by simp [results, Try.results35, s0, s1, go_sem]) rfl ?_
      refine ⟨A6, c6, rs6, rfl, ?_, V6.out, (D6.out.setCell (by dsimp only; omega) _).setCell (by dsimp only; omega) _⟩
      have O7 : OwnS w6 wc.heap.size w6.heap.size A6 c6 rs6 := by simpa using O6.out
      exact ((O7.far (p := ⟨w.heap.size + 1 + 1, 0, none⟩) (.inl (by dsimp only; omega)) _).far (p := ⟨w.heap.size + 1 + 1, 1, none⟩) (.inl (by dsimp only; omega)) _).wide (by omega) (by simp [World.setCell])

set_option maxRecDepth 100000 in
set_option maxHeartbeats 16000000 in
theorem move_rem (I J r : Int) (A Aw : Option Addr) (c nw cw : Nat) (rs : List Rw) (w : World) (h : RdS w w.heap.size A rs) (hn : rs.length ≤ 1048576) (hrow : ∀ q ∈ rs, q.zs.length ≤ 1048576) (i : Nat) (hI : I = i) (hp : Wd.isP r (vals rs) = true) (hi : i < rs.length) (hg : 1 ≤ J) (hgr : J ≤ r) (ho : 0 < Wd.occ J (rs.getD i nilRw).zs) :
    Calls Try.prog 35 #[.agg #[.int .i64 r, .slice A rs.length c], .agg #[.int .i64 5, .int .i64 I, .int .i64 J, .slice Aw nw cw]] w (ResPr w (r - 1) (((vals rs).eraseIdx i).map fun z => (Wd.rd (Wd.sub J (Wd.solve J (rs.getD i nilRw).zs) z)).map (Wd.ren J))) := by
  have CP := Lib.hid (fun (W : World) (hb : Below w.heap.size w W) => copy_spec (-1) A rs.length c rs W (h.into hb) rfl hn hrow)
  rw [exc_none (by decide)] at CP
  have P0 := Lib.hid (BoxG.new w 26 (.int .i64 r) (.slice A rs.length c))
  have M0 := Lib.hid (BoxT.new (w.alloc (Obj.cells #[.int .i64 r, .slice A rs.length c] 26)) 36 (.int .i64 5) (.int .i64 I) (.int .i64 J) (.slice Aw nw cw))
  have R0 := Lib.hid (BoxG.new ((w.alloc (Obj.cells #[.int .i64 r, .slice A rs.length c] 26)).alloc (Obj.cells #[.int .i64 5, .int .i64 I, .int .i64 J, .slice Aw nw cw] 36)) 26 (.int .i64 0) (.slice none 0 0))
  have F0 := Lib.hid (Free.new ((w.alloc (Obj.cells #[.int .i64 r, .slice A rs.length c] 26)).alloc (Obj.cells #[.int .i64 5, .int .i64 I, .int .i64 J, .slice Aw nw cw] 36)) 26 #[.int .i64 0, .slice none 0 0])
  have D3 := Lib.hid (al3 w (Obj.cells #[.int .i64 r, .slice A rs.length c] 26) (Obj.cells #[.int .i64 5, .int .i64 I, .int .i64 J, .slice Aw nw cw] 36) (Obj.cells #[.int .i64 0, .slice none 0 0] 26))
  obtain ⟨V, hV⟩ : ∃ V, V = (((w.alloc (Obj.cells #[.int .i64 r, .slice A rs.length c] 26)).alloc (Obj.cells #[.int .i64 5, .int .i64 I, .int .i64 J, .slice Aw nw cw] 36)).alloc (Obj.cells #[.int .i64 0, .slice none 0 0] 26)) := ⟨_, rfl⟩
  have sV : w.heap.size + 1 + 1 < V.heap.size := by rw [hV]; simp
  have X0 := Lib.hid (show BoxG V w.heap.size (.int .i64 r) (.slice A rs.length c) from by rw [hV]; exact (P0.out.below (al1 _ _) (by simp)).below (al1 _ _) (by simp; omega))
  have Y0 := Lib.hid (show BoxT V (w.heap.size + 1) (.int .i64 5) (.int .i64 I) (.int .i64 J) (.slice Aw nw cw) from by rw [hV]; simpa using M0.out.below (al1 _ _) (by simp))
  have Z0 := Lib.hid (show BoxG V (w.heap.size + 1 + 1) (.int .i64 0) (.slice none 0 0) from by rw [hV]; simpa using R0.out)
  have G0 := Lib.hid (show Free V (w.heap.size + 1 + 1) from by rw [hV]; simpa using F0.out)
  have DV := Lib.hid (show Below w.heap.size w V from by rw [hV]; exact D3.out)
  have HR := Lib.hid h
  have ROW := Lib.hid hrow
  have NN := Lib.hid hn
  clear h hrow hn P0 M0 R0 F0 D3
  have RM := Lib.hid (fun (W : World) (hb : Below w.heap.size w W) => remove_spec i J r A c rs W (HR.out.into hb) hp hi hg hgr ho)
  obtain ⟨zo, hzo⟩ : ∃ zo, (((vals rs).eraseIdx i).map fun z => (Wd.rd (Wd.sub J (Wd.solve J (rs.getD i nilRw).zs) z)).map (Wd.ren J)) = zo := ⟨_, rfl⟩
  rw [hzo] at RM ⊢
  subst hI
  clear hzo ho hp
  go_enter Try.func35, Try.ntmps35
  go_upto_region 1 with fail
  rw [← hV]
  clear hV
  have v0 : w.heap.size < V.heap.size := by omega
  have v1 : w.heap.size + 1 < V.heap.size := by omega
  have n1 : ¬ w.heap.size = V.heap.size := by omega
  have n2 : ¬ V.heap.size = w.heap.size := by omega
  go_cut [5] (fun p W => CutM V r (vals rs) p W)
  case first =>
    obtain ⟨x0, x1⟩ := X0.out
    go_region_held3 (fun W => (W.cell? ⟨w.heap.size, 0, none⟩ = some (.int .i64 r)) ∧ (W.cell? ⟨w.heap.size, 1, none⟩ = some (.slice A rs.length c))) (go_keep)
      (first
        | (go_at_call 47; (refine (CP.out _ ?_).mono ?_; (first | exact DV.out.drew | exact (DV.out.trans ((al1 _ _).mono DV.out.size)).drew)); rintro e w6 ⟨A6, c6, rs6, rfl, ho6, hv6, hb6'⟩; have hb6 := undrew hb6'; have B6 := Lib.hid hb6; have O6 := Lib.hid ho6; have V6 := Lib.hid hv6; have z6 := hb6.size; have hx : w.heap.size < w6.heap.size := (by (try simp at z6); omega); first | (obtain ⟨e0, e1⟩ := X0.out.below hb6 (by omega)) | (obtain ⟨e0, e1⟩ := (X0.out.below (al1 _ _) (by omega)).below hb6 (by simp; omega)); (try (have bz := (BoxG.new V 26 (.int .i64 0) (.slice none 0 0)).below hb6 (by simp); have BZ := Lib.hid bz; obtain ⟨b0, b1⟩ := bz; have bf := (Free.new V 26 #[.int .i64 0, .slice none 0 0]).below hb6 (by simp); have BF := Lib.hid bf; unfold Free at bf)); clear hb6 hb6' ho6 hv6))
    all_goals
      go_wp2_with fail
      go_meet
      first
        | exact CutM.late (by simpa using O6.out) V6.out B6.out
        | exact CutM.early (by simpa using O6.out) V6.out B6.out BZ.out BF.out
  case rest =>
    obtain ⟨pb, A5, c5, rs5, lo5, hi5, rfl, hx5, hf5, ho5, hl5, hh5, hp5, hq5, hd5, hb5, hv5⟩ := hcut
    have X5 := Lib.hid hx5
    have F5 := Lib.hid hf5
    have O5 := Lib.hid ho5
    have B5 := Lib.hid hb5
    have V5 := Lib.hid hv5
    clear hx5 hf5 ho5 hb5 hv5
    obtain ⟨x0, x1⟩ := X0.out.below B5.out (by omega)
    obtain ⟨m0, m1, m2, m3⟩ := Y0.out.below B5.out (by omega)
    have DW := Lib.hid (DV.out.trans (B5.out.mono (by omega)))
    go_wp2_with fail
    refine (RM.out _ DW.out).mono ?_
    rintro e w6 ⟨A6, c6, rs6, rfl, ho6, hv6, hb6⟩
    have z6 := hb6.size
    have B6 := Lib.hid hb6
    have O6 := Lib.hid ho6
    have V6 := Lib.hid hv6
    clear ho6 hv6 hb6 x0 x1 m0 m1 m2 m3
    obtain ⟨s0, s1⟩ := (Z0.out.below B5.out (by omega)).below B6.out (by omega)
    have f0 := (G0.out.below B5.out (by omega)).below B6.out (by omega)
    have D6 := Lib.hid (DW.out.trans (B6.out.mono (by omega)))
    unfold Free at f0
    go_wp2
    refine bodyPost_ret (v := .agg #[.int .i64 (r - 1), .slice A6 rs6.length c6]) (by simp [results, Try.results35, s0, s1, go_sem]) rfl ?_
    refine ⟨A6, c6, rs6, rfl, ?_, V6.out, (D6.out.setCell (by dsimp only; omega) _).setCell (by dsimp only; omega) _⟩
    exact ((O6.out.far (p := ⟨w.heap.size + 1 + 1, 0, none⟩) (.inl (by dsimp only; omega)) _).far (p := ⟨w.heap.size + 1 + 1, 1, none⟩) (.inl (by dsimp only; omega)) _).wide (by omega) (by simp [World.setCell])

end Go.Proofs.Ytjommpdblbbkdaa
