/- The specification's moves: l04Move, a rotation. No condition but those that each theorem names. -/
import Derived.Test.YtjommpdblbbkdaaTzQ
namespace Go.Proofs.Ytjommpdblbbkdaa
open Go.RowKit

set_option maxRecDepth 100000 in
set_option maxHeartbeats 16000000 in
theorem move_rotS (I J r : Int) (A Aw : Option Addr) (c nw cw : Nat) (rs : List Rw) (w : World) (h : RdS w w.heap.size A rs) (hn : rs.length ≤ 1048576) (hrow : ∀ q ∈ rs, q.zs.length ≤ 1048576) (i : Nat) (hI : I = i) (hp : Wd.isP r (vals rs) = true) (hi : i < rs.length) (hpos : 0 < (rs.getD i nilRw).zs.length) :
    Calls Try.prog 35 #[.agg #[.int .i64 r, .slice A rs.length c], .agg #[.int .i64 2, .int .i64 I, .int .i64 J, .slice Aw nw cw]] w (ResPr w r ((vals rs).set i (Wd.rd (Wd.rot (rs.getD i nilRw).zs)))) := by
  have CP := Lib.hid (fun (W : World) (hb : Below w.heap.size w W) => copy_spec (-1) A rs.length c rs W (h.into hb) rfl hn hrow)
  rw [exc_none (by decide)] at CP
  have P0 := Lib.hid (BoxG.new w 26 (.int .i64 r) (.slice A rs.length c))
  have M0 := Lib.hid (BoxT.new (w.alloc (Obj.cells #[.int .i64 r, .slice A rs.length c] 26)) 36 (.int .i64 2) (.int .i64 I) (.int .i64 J) (.slice Aw nw cw))
  have R0 := Lib.hid (BoxG.new ((w.alloc (Obj.cells #[.int .i64 r, .slice A rs.length c] 26)).alloc (Obj.cells #[.int .i64 2, .int .i64 I, .int .i64 J, .slice Aw nw cw] 36)) 26 (.int .i64 0) (.slice none 0 0))
  have F0 := Lib.hid (Free.new ((w.alloc (Obj.cells #[.int .i64 r, .slice A rs.length c] 26)).alloc (Obj.cells #[.int .i64 2, .int .i64 I, .int .i64 J, .slice Aw nw cw] 36)) 26 #[.int .i64 0, .slice none 0 0])
  have D3 := Lib.hid (al3 w (Obj.cells #[.int .i64 r, .slice A rs.length c] 26) (Obj.cells #[.int .i64 2, .int .i64 I, .int .i64 J, .slice Aw nw cw] 36) (Obj.cells #[.int .i64 0, .slice none 0 0] 26))
  obtain ⟨V, hV⟩ : ∃ V, V = (((w.alloc (Obj.cells #[.int .i64 r, .slice A rs.length c] 26)).alloc (Obj.cells #[.int .i64 2, .int .i64 I, .int .i64 J, .slice Aw nw cw] 36)).alloc (Obj.cells #[.int .i64 0, .slice none 0 0] 26)) := ⟨_, rfl⟩
  have sV : w.heap.size + 1 + 1 < V.heap.size := by rw [hV]; simp
  have X0 := Lib.hid (show BoxG V w.heap.size (.int .i64 r) (.slice A rs.length c) from by rw [hV]; exact (P0.out.below (al1 _ _) (by simp)).below (al1 _ _) (by simp; omega))
  have Y0 := Lib.hid (show BoxT V (w.heap.size + 1) (.int .i64 2) (.int .i64 I) (.int .i64 J) (.slice Aw nw cw) from by rw [hV]; simpa using M0.out.below (al1 _ _) (by simp))
  have Z0 := Lib.hid (show BoxG V (w.heap.size + 1 + 1) (.int .i64 0) (.slice none 0 0) from by rw [hV]; simpa using R0.out)
  have G0 := Lib.hid (show Free V (w.heap.size + 1 + 1) from by rw [hV]; simpa using F0.out)
  have DV := Lib.hid (show Below w.heap.size w V from by rw [hV]; exact D3.out)
  have HR := Lib.hid h
  have ROW := Lib.hid hrow
  have NN := Lib.hid hn
  clear h hrow hn P0 M0 R0 F0 D3
  have ROWZ := Wd.isP_iff.1 hp
  have zl : (rs.getD i nilRw).zs.length ≤ 120 ∧ Wd.Sm (rs.getD i nilRw).zs := by
    have h1 := (Wd.isR_iff.1 (ROWZ.2.2.2 _ (vals_mem hi))).1
    exact ⟨(Wd.isW_fit h1).1, Wd.isW_sm h1 (by omega)⟩
  obtain ⟨bi, offi, Ai, ci, zi, hAi, hbi, hri, hci, hic, him, hii⟩ := HR.out.at_ (j := i) hi
  rw [hri] at zl ⊢
  dsimp only at zl ⊢
  obtain ⟨zl, zS⟩ := zl
  subst hAi
  have CI := Lib.hid hci
  obtain ⟨n, hnz⟩ : ∃ n, zi.length = n := ⟨_, rfl⟩
  rw [hri] at hpos
  dsimp only at hpos hic him
  rw [hnz] at hpos hic zl hii CI
  obtain ⟨bq, oq, rfl, hbq, hcq⟩ := hii.2 hpos
  unfold maxLen at him
  have Q0 := Lib.hid (show w.cell? ⟨bq, oq, none⟩ = some (.int .i64 (zi.getD 0 0)) from by have := hcq 0 hpos; simpa using this)
  obtain ⟨z0, hz0⟩ : ∃ z0, zi.getD 0 0 = z0 := ⟨_, rfl⟩
  rw [hz0] at Q0
  obtain ⟨zt, hzt⟩ : ∃ zt, Lau.cut zi 1 n = zt := ⟨_, rfl⟩
  have ROT : Wd.rot zi = zt ++ [z0] := by
    rw [← hzt, ← hz0]
    unfold Wd.rot Lau.cut
    rw [List.take_of_length_le (Nat.le_of_eq hnz)]
    cases zi with
    | nil => simp at hnz; omega
    | cons x l => simp
  have ZTL : zt.length = n - 1 := by rw [← hzt, Lau.cut_len (by omega)]
  have SMR : Wd.Sm (zt ++ [z0]) := by
    rw [← ROT]
    unfold Wd.rot
    exact fun x hx => by
      rcases List.mem_append.1 hx with h1 | h1
      · exact zS x (List.mem_of_mem_drop h1)
      · exact zS x (List.mem_of_mem_take h1)
  have PQ := Lib.hid (show Ints w w.heap.size (some ⟨bq, oq + 1, none⟩) (n - 1) zt from by rw [← hzt]; exact Wd.ints_part hii (i := 1) (j := n) (by omega) (Nat.le_refl _))
  have PZ := Lib.hid (fun (h0 : n = 1) => (show zt = [] from List.length_eq_zero_iff.1 (by omega)))
  have SMH := Lib.hid SMR
  have FN := Lib.hid (fun (A0 : Option Addr) (c0 : Nat) (W : World) (hI0 : Ints W W.heap.size A0 (n - 1 + 1) (zt ++ [z0])) => reduced_spec A0 (n - 1 + 1) c0 (zt ++ [z0]) W hI0 (by omega) SMH.out)
  have ZL := Lib.hid ZTL
  have FNZ := Lib.hid (fun (A0 : Option Addr) (c0 : Nat) (W : World) (hI0 : Ints W W.heap.size A0 (n - 1 + 1) (zt ++ [z0])) => (show Calls Try.prog 58 #[.slice A0 (0 + (n - 1) + 1) c0] W (ResLM W (Wd.rd (zt ++ [z0]))) from by rw [Nat.zero_add]; exact FN.out A0 c0 W hI0))
  rw [ROT]
  clear hz0 hzt ROT hcq SMR hnz ZTL
  obtain ⟨zo, hzo⟩ : ∃ zo, Wd.rd (zt ++ [z0]) = zo := ⟨_, rfl⟩
  rw [hzo] at FN ⊢
  subst hI
  clear hzo hp ROWZ hri hci hii zS
  go_enter Try.func35, Try.ntmps35
  go_upto_region 1 with fail
  rw [← hV]
  clear hV
  have v0 : w.heap.size < V.heap.size := by omega
  have v1 : w.heap.size + 1 < V.heap.size := by omega
  have n1 : ¬ w.heap.size = V.heap.size := by omega
  have n2 : ¬ V.heap.size = w.heap.size := by omega
  go_cut [5] (fun p W => CutM V r (vals rs) p W)
  case first =>
    obtain ⟨x0, x1⟩ := X0.out
    go_region_held3 (fun W => (W.cell? ⟨w.heap.size, 0, none⟩ = some (.int .i64 r)) ∧ (W.cell? ⟨w.heap.size, 1, none⟩ = some (.slice (some ⟨bi, offi, none⟩) rs.length c))) (go_keep)
      (first
        | (go_at_call 47; (refine (CP.out _ ?_).mono ?_; (first | exact DV.out.drew | exact (DV.out.trans ((al1 _ _).mono DV.out.size)).drew)); rintro e w6 ⟨A6, c6, rs6, rfl, ho6, hv6, hb6'⟩; have hb6 := undrew hb6'; have B6 := Lib.hid hb6; have O6 := Lib.hid ho6; have V6 := Lib.hid hv6; have z6 := hb6.size; have hx : w.heap.size < w6.heap.size := (by (try simp at z6); omega); first | (obtain ⟨e0, e1⟩ := X0.out.below hb6 (by omega)) | (obtain ⟨e0, e1⟩ := (X0.out.below (al1 _ _) (by omega)).below hb6 (by simp; omega)); (try (have bz := (BoxG.new V 26 (.int .i64 0) (.slice none 0 0)).below hb6 (by simp); have BZ := Lib.hid bz; obtain ⟨b0, b1⟩ := bz; have bf := (Free.new V 26 #[.int .i64 0, .slice none 0 0]).below hb6 (by simp); have BF := Lib.hid bf; unfold Free at bf)); clear hb6 hb6' ho6 hv6))
    all_goals
      go_wp2_with fail
      go_meet
      first
        | exact CutM.late (by simpa using O6.out) V6.out B6.out
        | exact CutM.early (by simpa using O6.out) V6.out B6.out BZ.out BF.out
  case rest =>
    obtain ⟨pb, A5, c5, rs5, lo5, hi5, rfl, hx5, hf5, ho5, hl5, hh5, hp5, hq5, hd5, hb5, hv5⟩ := hcut
    have X5 := Lib.hid hx5
    have F5 := Lib.hid hf5
    have O5 := Lib.hid ho5
    have B5 := Lib.hid hb5
    have V5 := Lib.hid hv5
    clear hx5 hf5 ho5 hb5 hv5
    obtain ⟨x0, x1⟩ := X0.out.below B5.out (by omega)
    obtain ⟨m0, m1, m2, m3⟩ := Y0.out.below B5.out (by omega)
    have DW := Lib.hid (DV.out.trans (B5.out.mono (by omega)))
    have L5 := Lib.hid (show rs5.length = rs.length from by rw [← vals_len, V5.out, vals_len])
    obtain ⟨g5, hg5, h1, h2, h3⟩ := O5.out.at_ (by rw [L5.out]; omega)
    subst hg5
    obtain ⟨k0, k1⟩ := h3 i (by rw [L5.out]; exact hi)
    have K0 := Lib.hid k0
    have K1 := Lib.hid k1
    obtain ⟨y0, y1⟩ := X5.out
    have x4 := (DW.out.cell (p := ⟨bi, offi + i, none⟩) hbi).trans CI.out
    have X4 := Lib.hid x4
    have x5 := (DW.out.cell (p := ⟨bq, oq, none⟩) hbq).trans Q0.out
    have X5Q := Lib.hid x5
    have l0 : w.heap.size < wc.heap.size := by omega
    have l1 : w.heap.size + 1 < wc.heap.size := by omega
    have l2 : bi < wc.heap.size := by omega
    have l3 : g5 < wc.heap.size := by omega
    have l4 : bq < wc.heap.size := by omega
    have q0 : (0 : Int) < (n : Int) := by omega
    have n13 : ¬ g5 = bq := by omega
    have n14 : ¬ bq = g5 := by omega
    have q1 : (1 : Int) ≤ (n : Int) := by omega
    have q2 : (n : Int) ≤ (ci : Int) := by omega
    have i0 : (0 : Int) ≤ (i : Int) := by omega
    have i1 : (i : Int) < (rs.length : Int) := by omega
    have i2 : (i : Int) < (rs5.length : Int) := by rw [L5.out]; omega
    have n3 : ¬ g5 = pb := by omega
    have n4 : ¬ pb = g5 := by omega
    have n5 : ¬ g5 = w.heap.size := by omega
    have n6 : ¬ w.heap.size = g5 := by omega
    have n7 : ¬ g5 = w.heap.size + 1 := by omega
    have n8 : ¬ w.heap.size + 1 = g5 := by omega
    have n9 : ¬ g5 = bi := by omega
    have n10 : ¬ bi = g5 := by omega
    have n11 : ¬ g5 = w.heap.size + 1 + 1 := by omega
    have n12 : ¬ w.heap.size + 1 + 1 = g5 := by omega
    clear h3
    go_upto_region 10 with fail
    by_cases hcp : ci = 1
    · have PP := Lib.hid (show Ints w w.heap.size (some ⟨bq, oq, none⟩) 0 zt from by rw [PZ.out (by omega)]; exact Wd.ints_nil _)
      have hn1 : n = 1 := by omega
      subst hcp
      subst hn1
      go_region_held3 (fun W => (W.cell? ⟨pb, 1, none⟩ = some (.slice (some ⟨g5, 0, none⟩) rs5.length c5)) ∧ (W.cell? ⟨w.heap.size + 1, 1, none⟩ = some (.int .i64 (i : Int))) ∧ (W.cell? ⟨bq, oq, none⟩ = some (.int .i64 z0))) (go_keep)
        (first
          | (refine Wd.step_push_any (by rfl) _ _ (by rfl) wc.heap.size (wc.heap.size + 1) 0 w.heap.size 0 0 0 (some ⟨wc.heap.size, 0, none⟩) (some ⟨bq, oq, none⟩) [] zt (by rfl) (by exact Wd.own_nil wc) (by rfl) (by exact PP.out.below ((DW.out.trans ((al1 wc _).mono DW.out.size)).drew)) (by simp) (by simp) (by omega) ?_; intro A7 c7 w7 h5 h6; have O7 := Lib.hid (show Own w7 wc.heap.size w7.heap.size A7 0 c7 zt from by simpa using h5); have D7 := Lib.hid (((al1 wc _).drew).trans (h6.below (Nat.le_refl _) (by simp))); have s7 := D7.out.size; obtain ⟨e0a, e1a⟩ := (X0.out.below B5.out (by omega)).below D7.out (by omega); obtain ⟨e2a, e3a, e4a, e5a⟩ := (Y0.out.below B5.out (by omega)).below D7.out (by omega); obtain ⟨e6a, e7a⟩ := X5.out.below D7.out (by omega); have e8a := ((D7.out).cell (p := ⟨bi, offi + i, none⟩) (by dsimp only; omega)).trans X4.out; have e11a := ((D7.out).cell (p := ⟨bq, oq, none⟩) (by dsimp only; omega)).trans X5Q.out; have e9a := ((D7.out).cell (p := ⟨g5, i, none⟩) (by dsimp only; omega)).trans K0.out; have e10a := ((D7.out).frozen (p := ⟨g5, i, none⟩) (by dsimp only; omega)).trans K1.out; clear h5 h6)
          | (refine Wd.step_push_any (by rfl) _ _ (by rfl) wc.heap.size w7.heap.size c7 _ _ 1 1 A7 (some ⟨w7.heap.size, 0, none⟩) zt [z0] (by rfl) (by first | exact O7.out.al (Nat.le_refl _) (al1 w7 _) | (rw [Nat.zero_add]; exact O7.out.al (Nat.le_refl _) (al1 w7 _))) (by rfl) (by exact Wd.ints_one (Wd.alloc_first w7 _ _ _ rfl)) (by simp; omega) (by simp) (by omega) ?_; intro A8 c8 w8 h5 h6; have O8 := Lib.hid (show Own w8 wc.heap.size w8.heap.size A8 (0 + 1) c8 (zt ++ [z0]) from (by first | exact h5 | (rw [Nat.zero_add] at h5; exact h5))); have D8 := Lib.hid (D7.out.trans (((al1 w7 _).mono s7).trans (h6.below (Nat.le_refl _) (by simp; omega)))); have s8 := D8.out.size; obtain ⟨e0b, e1b⟩ := (X0.out.below B5.out (by omega)).below D8.out (by omega); obtain ⟨e2b, e3b, e4b, e5b⟩ := (Y0.out.below B5.out (by omega)).below D8.out (by omega); obtain ⟨e6b, e7b⟩ := X5.out.below D8.out (by omega); have e8b := ((D8.out).cell (p := ⟨bi, offi + i, none⟩) (by dsimp only; omega)).trans X4.out; have e11b := ((D8.out).cell (p := ⟨bq, oq, none⟩) (by dsimp only; omega)).trans X5Q.out; have e9b := ((D8.out).cell (p := ⟨g5, i, none⟩) (by dsimp only; omega)).trans K0.out; have e10b := ((D8.out).frozen (p := ⟨g5, i, none⟩) (by dsimp only; omega)).trans K1.out; clear h5 h6)
          | (refine Wd.step_push_any (by rfl) _ _ (by rfl) wc.heap.size (wc.heap.size + 1) 0 w.heap.size 0 0 0 (some ⟨wc.heap.size, 0, none⟩) (some ⟨bq, oq, none⟩) [] zt (by rfl) (by exact (Wd.own_nil wc).al (by simp) ((al1 _ _).drew)) (by rfl) (by exact PP.out.below ((DW.out.trans ((al2 wc _ _).mono DW.out.size)).drew)) (by simp <;> omega) (by simp <;> omega) (by omega) ?_; intro A7 c7 w7 h5 h6; have O7 := Lib.hid (show Own w7 wc.heap.size w7.heap.size A7 0 c7 zt from by simpa using h5); have D7 := Lib.hid (((al2 wc _ _).drew).trans (h6.below (Nat.le_refl _) (by simp <;> omega))); have s7 := D7.out.size; have ZC := Lib.hid (show w7.cell? ⟨wc.heap.size + 1, 0, none⟩ = some (.int .i64 z0) from (World.cell?_of_block (a := ⟨wc.heap.size + 1, 0, none⟩) (h6.block (wc.heap.size + 1) (by simp) (by omega))).trans (Wd.alloc_first (wc.alloc (Obj.cells #[] 2)) (wc.heap.size + 1) _ 2 (by simp))); obtain ⟨e0a, e1a⟩ := (X0.out.below B5.out (by omega)).below D7.out (by omega); obtain ⟨e2a, e3a, e4a, e5a⟩ := (Y0.out.below B5.out (by omega)).below D7.out (by omega); obtain ⟨e6a, e7a⟩ := X5.out.below D7.out (by omega); have e8a := ((D7.out).cell (p := ⟨bi, offi + i, none⟩) (by dsimp only; omega)).trans X4.out; have e11a := ((D7.out).cell (p := ⟨bq, oq, none⟩) (by dsimp only; omega)).trans X5Q.out; have e9a := ((D7.out).cell (p := ⟨g5, i, none⟩) (by dsimp only; omega)).trans K0.out; have e10a := ((D7.out).frozen (p := ⟨g5, i, none⟩) (by dsimp only; omega)).trans K1.out; clear h5 h6)
          | (refine Wd.step_push_any (by rfl) _ _ (by rfl) wc.heap.size w7.heap.size c7 _ _ 1 1 A7 (some ⟨wc.heap.size + 1, 0, none⟩) zt [z0] (by rfl) (by first | exact O7.out | (rw [Nat.zero_add]; exact O7.out)) (by rfl) (by exact Wd.ints_one ZC.out) (by omega) (Nat.le_refl _) (by omega) ?_; intro A8 c8 w8 h5 h6; have O8 := Lib.hid (show Own w8 wc.heap.size w8.heap.size A8 (0 + 1) c8 (zt ++ [z0]) from (by first | exact h5 | (rw [Nat.zero_add] at h5; exact h5))); have D8 := Lib.hid (D7.out.trans (h6.below (Nat.le_refl _) (by omega))); have s8 := D8.out.size; obtain ⟨e0b, e1b⟩ := (X0.out.below B5.out (by omega)).below D8.out (by omega); obtain ⟨e2b, e3b, e4b, e5b⟩ := (Y0.out.below B5.out (by omega)).below D8.out (by omega); obtain ⟨e6b, e7b⟩ := X5.out.below D8.out (by omega); have e8b := ((D8.out).cell (p := ⟨bi, offi + i, none⟩) (by dsimp only; omega)).trans X4.out; have e11b := ((D8.out).cell (p := ⟨bq, oq, none⟩) (by dsimp only; omega)).trans X5Q.out; have e9b := ((D8.out).cell (p := ⟨g5, i, none⟩) (by dsimp only; omega)).trans K0.out; have e10b := ((D8.out).frozen (p := ⟨g5, i, none⟩) (by dsimp only; omega)).trans K1.out; clear h5 h6)
          | (refine Wd.step_push_any (by rfl) _ _ (by rfl) (wc.heap.size + 1) (wc.heap.size + 1 + 1) 0 w.heap.size 0 0 0 (some ⟨wc.heap.size + 1, 0, none⟩) (some ⟨bq, oq, none⟩) [] zt (by rfl) (by have h9 := Wd.own_nil (wc.alloc (Obj.cells #[.int .i64 z0] 2)); simp only [World.size_alloc] at h9; exact h9) (by rfl) (by exact PP.out.below ((DW.out.trans ((al2 wc _ _).mono DW.out.size)).drew)) (by simp <;> omega) (by simp <;> omega) (by omega) ?_; intro A7 c7 w7 h5 h6; have O7 := Lib.hid (show Own w7 wc.heap.size w7.heap.size A7 0 c7 zt from Own.wide (by simpa using h5) (by omega) (Nat.le_refl _)); have D7 := Lib.hid (((al2 wc _ _).drew).trans (h6.below (by omega) (by simp <;> omega))); have s7 := D7.out.size; have ZC := Lib.hid (show w7.cell? ⟨wc.heap.size, 0, none⟩ = some (.int .i64 z0) from (World.cell?_of_block (a := ⟨wc.heap.size, 0, none⟩) (h6.block wc.heap.size (by simp <;> omega) (by omega))).trans (((al1 (wc.alloc (Obj.cells #[.int .i64 z0] 2)) (Obj.cells #[] 2)).cell (p := ⟨wc.heap.size, 0, none⟩) (by simp)).trans (Wd.alloc_first wc wc.heap.size _ 2 rfl))); obtain ⟨e0a, e1a⟩ := (X0.out.below B5.out (by omega)).below D7.out (by omega); obtain ⟨e2a, e3a, e4a, e5a⟩ := (Y0.out.below B5.out (by omega)).below D7.out (by omega); obtain ⟨e6a, e7a⟩ := X5.out.below D7.out (by omega); have e8a := ((D7.out).cell (p := ⟨bi, offi + i, none⟩) (by dsimp only; omega)).trans X4.out; have e11a := ((D7.out).cell (p := ⟨bq, oq, none⟩) (by dsimp only; omega)).trans X5Q.out; have e9a := ((D7.out).cell (p := ⟨g5, i, none⟩) (by dsimp only; omega)).trans K0.out; have e10a := ((D7.out).frozen (p := ⟨g5, i, none⟩) (by dsimp only; omega)).trans K1.out; clear h5 h6)
          | (refine Wd.step_push_any (by rfl) _ _ (by rfl) wc.heap.size w7.heap.size c7 _ _ 1 1 A7 (some ⟨wc.heap.size, 0, none⟩) zt [z0] (by rfl) (by first | exact O7.out | (rw [Nat.zero_add]; exact O7.out)) (by rfl) (by exact Wd.ints_one ZC.out) (by omega) (Nat.le_refl _) (by omega) ?_; intro A8 c8 w8 h5 h6; have O8 := Lib.hid (show Own w8 wc.heap.size w8.heap.size A8 (0 + 1) c8 (zt ++ [z0]) from (by first | exact h5 | (rw [Nat.zero_add] at h5; exact h5))); have D8 := Lib.hid (D7.out.trans (h6.below (Nat.le_refl _) (by omega))); have s8 := D8.out.size; obtain ⟨e0b, e1b⟩ := (X0.out.below B5.out (by omega)).below D8.out (by omega); obtain ⟨e2b, e3b, e4b, e5b⟩ := (Y0.out.below B5.out (by omega)).below D8.out (by omega); obtain ⟨e6b, e7b⟩ := X5.out.below D8.out (by omega); have e8b := ((D8.out).cell (p := ⟨bi, offi + i, none⟩) (by dsimp only; omega)).trans X4.out; have e11b := ((D8.out).cell (p := ⟨bq, oq, none⟩) (by dsimp only; omega)).trans X5Q.out; have e9b := ((D8.out).cell (p := ⟨g5, i, none⟩) (by dsimp only; omega)).trans K0.out; have e10b := ((D8.out).frozen (p := ⟨g5, i, none⟩) (by dsimp only; omega)).trans K1.out; clear h5 h6)
          | (go_at_call 58; (refine (FN.out A8 c8 _ (by exact O8.out.ints)).mono ?_); rintro e w6 ⟨R6, t6, rfl, hc6, hm6, hb6'⟩; have B6 := Lib.hid (D8.out.trans (hb6'.mono s8)); have z6 := B6.out.size; have M6 := Lib.hid (show Rw.In ⟨R6, t6, zo⟩ w6 wc.heap.size w6.heap.size from ⟨hc6.1, hc6.2, hm6.wide s8 (Nat.le_refl _)⟩); obtain ⟨e0, e1⟩ := (X0.out.below B5.out (by omega)).below B6.out (by omega); obtain ⟨e2, e3, e4, e5⟩ := (Y0.out.below B5.out (by omega)).below B6.out (by omega); obtain ⟨e6, e7⟩ := X5.out.below B6.out (by omega); have e8 := ((B6.out).cell (p := ⟨bi, offi + i, none⟩) (by dsimp only; omega)).trans X4.out; have e11 := ((B6.out).cell (p := ⟨bq, oq, none⟩) (by dsimp only; omega)).trans X5Q.out; have e9 := ((B6.out).cell (p := ⟨g5, i, none⟩) (by dsimp only; omega)).trans K0.out; have e10 := ((B6.out).frozen (p := ⟨g5, i, none⟩) (by dsimp only; omega)).trans K1.out; clear hb6' hc6 hm6)
          | (go_at_call 58; (refine (FNZ.out A8 c8 _ (by exact O8.out.ints)).mono ?_); rintro e w6 ⟨R6, t6, rfl, hc6, hm6, hb6'⟩; have B6 := Lib.hid (D8.out.trans (hb6'.mono s8)); have z6 := B6.out.size; have M6 := Lib.hid (show Rw.In ⟨R6, t6, zo⟩ w6 wc.heap.size w6.heap.size from ⟨hc6.1, hc6.2, hm6.wide s8 (Nat.le_refl _)⟩); obtain ⟨e0, e1⟩ := (X0.out.below B5.out (by omega)).below B6.out (by omega); obtain ⟨e2, e3, e4, e5⟩ := (Y0.out.below B5.out (by omega)).below B6.out (by omega); obtain ⟨e6, e7⟩ := X5.out.below B6.out (by omega); have e8 := ((B6.out).cell (p := ⟨bi, offi + i, none⟩) (by dsimp only; omega)).trans X4.out; have e11 := ((B6.out).cell (p := ⟨bq, oq, none⟩) (by dsimp only; omega)).trans X5Q.out; have e9 := ((B6.out).cell (p := ⟨g5, i, none⟩) (by dsimp only; omega)).trans K0.out; have e10 := ((B6.out).frozen (p := ⟨g5, i, none⟩) (by dsimp only; omega)).trans K1.out; clear hb6' hc6 hm6))
      all_goals
        have D6 := Lib.hid (DW.out.trans (B6.out.mono (by omega)))
        have O6 := Lib.hid (((O5.out.below B6.out (by omega)).wide (lo' := lo5) (hi' := w6.heap.size) (Nat.le_refl _) (by omega)).set_ i ⟨R6, t6, zo⟩ (M6.out.wide (by omega) (Nat.le_refl _)) (M6.out.off (.inl (by omega))) (fun r' hr' => Apart.of_in M6.out (O5.out.mine r' hr') (.inr (by omega))))
        have VAL := Lib.hid (show vals (rs5.set i ⟨R6, t6, zo⟩) = (vals rs).set i zo from by rw [vals_set, V5.out])
        obtain ⟨s0, s1⟩ := (Z0.out.below B5.out (by omega)).below B6.out (by omega)
        have f0 := (G0.out.below B5.out (by omega)).below B6.out (by omega)
        unfold Free at f0
        clear e0 e1 e2 e3 e4 e5 e8 e9 e10 x0 x1 m0 m1 m2 m3 y0 y1 k0 k1 x4 x5
        go_wp2
        refine bodyPost_ret (v := .agg #[.int .i64 r, .slice (some ⟨g5, 0, none⟩) rs5.length c5]) (by simp [results, Try.results35, s0, s1, go_sem]) rfl ?_
        refine ⟨some ⟨g5, 0, none⟩, c5, rs5.set i ⟨R6, t6, zo⟩, by rw [List.length_set], ?_, VAL.out, ((D6.out.setCell (by dsimp only; omega) _).setCell (by dsimp only; omega) _).setCell (by dsimp only; omega) _⟩
        exact ((O6.out.far (p := ⟨w.heap.size + 1 + 1, 0, none⟩) (.inl (by dsimp only; omega)) _).far (p := ⟨w.heap.size + 1 + 1, 1, none⟩) (.inl (by dsimp only; omega)) _).wide (by omega) (by simp [World.setCell])
    · have PP := PQ
      have hcp2 : ¬ 1 = ci := by omega
      go_region_held3 (fun W => (W.cell? ⟨pb, 1, none⟩ = some (.slice (some ⟨g5, 0, none⟩) rs5.length c5)) ∧ (W.cell? ⟨w.heap.size + 1, 1, none⟩ = some (.int .i64 (i : Int))) ∧ (W.cell? ⟨bq, oq, none⟩ = some (.int .i64 z0))) (go_keep)
        (first
          | (refine Wd.step_push_any (by rfl) _ _ (by rfl) wc.heap.size (wc.heap.size + 1) 0 w.heap.size 0 (n - 1) (ci - 1) (some ⟨wc.heap.size, 0, none⟩) (some ⟨bq, oq + 1, none⟩) [] zt (by rfl) (by exact Wd.own_nil wc) (by rfl) (by exact PP.out.below ((DW.out.trans ((al1 wc _).mono DW.out.size)).drew)) (by simp) (by simp) (by omega) ?_; intro A7 c7 w7 h5 h6; have O7 := Lib.hid (show Own w7 wc.heap.size w7.heap.size A7 (n - 1) c7 zt from by simpa using h5); have D7 := Lib.hid (((al1 wc _).drew).trans (h6.below (Nat.le_refl _) (by simp))); have s7 := D7.out.size; obtain ⟨e0a, e1a⟩ := (X0.out.below B5.out (by omega)).below D7.out (by omega); obtain ⟨e2a, e3a, e4a, e5a⟩ := (Y0.out.below B5.out (by omega)).below D7.out (by omega); obtain ⟨e6a, e7a⟩ := X5.out.below D7.out (by omega); have e8a := ((D7.out).cell (p := ⟨bi, offi + i, none⟩) (by dsimp only; omega)).trans X4.out; have e11a := ((D7.out).cell (p := ⟨bq, oq, none⟩) (by dsimp only; omega)).trans X5Q.out; have e9a := ((D7.out).cell (p := ⟨g5, i, none⟩) (by dsimp only; omega)).trans K0.out; have e10a := ((D7.out).frozen (p := ⟨g5, i, none⟩) (by dsimp only; omega)).trans K1.out; clear h5 h6)
          | (refine Wd.step_push_any (by rfl) _ _ (by rfl) wc.heap.size w7.heap.size c7 _ _ 1 1 A7 (some ⟨w7.heap.size, 0, none⟩) zt [z0] (by rfl) (by first | exact O7.out.al (Nat.le_refl _) (al1 w7 _) | (rw [Nat.zero_add]; exact O7.out.al (Nat.le_refl _) (al1 w7 _))) (by rfl) (by exact Wd.ints_one (Wd.alloc_first w7 _ _ _ rfl)) (by simp; omega) (by simp) (by omega) ?_; intro A8 c8 w8 h5 h6; have O8 := Lib.hid (show Own w8 wc.heap.size w8.heap.size A8 ((n - 1) + 1) c8 (zt ++ [z0]) from (by first | exact h5 | (rw [Nat.zero_add] at h5; exact h5))); have D8 := Lib.hid (D7.out.trans (((al1 w7 _).mono s7).trans (h6.below (Nat.le_refl _) (by simp; omega)))); have s8 := D8.out.size; obtain ⟨e0b, e1b⟩ := (X0.out.below B5.out (by omega)).below D8.out (by omega); obtain ⟨e2b, e3b, e4b, e5b⟩ := (Y0.out.below B5.out (by omega)).below D8.out (by omega); obtain ⟨e6b, e7b⟩ := X5.out.below D8.out (by omega); have e8b := ((D8.out).cell (p := ⟨bi, offi + i, none⟩) (by dsimp only; omega)).trans X4.out; have e11b := ((D8.out).cell (p := ⟨bq, oq, none⟩) (by dsimp only; omega)).trans X5Q.out; have e9b := ((D8.out).cell (p := ⟨g5, i, none⟩) (by dsimp only; omega)).trans K0.out; have e10b := ((D8.out).frozen (p := ⟨g5, i, none⟩) (by dsimp only; omega)).trans K1.out; clear h5 h6)
          | (refine Wd.step_push_any (by rfl) _ _ (by rfl) wc.heap.size (wc.heap.size + 1) 0 w.heap.size 0 (n - 1) (ci - 1) (some ⟨wc.heap.size, 0, none⟩) (some ⟨bq, oq + 1, none⟩) [] zt (by rfl) (by exact (Wd.own_nil wc).al (by simp) ((al1 _ _).drew)) (by rfl) (by exact PP.out.below ((DW.out.trans ((al2 wc _ _).mono DW.out.size)).drew)) (by simp <;> omega) (by simp <;> omega) (by omega) ?_; intro A7 c7 w7 h5 h6; have O7 := Lib.hid (show Own w7 wc.heap.size w7.heap.size A7 (n - 1) c7 zt from by simpa using h5); have D7 := Lib.hid (((al2 wc _ _).drew).trans (h6.below (Nat.le_refl _) (by simp <;> omega))); have s7 := D7.out.size; have ZC := Lib.hid (show w7.cell? ⟨wc.heap.size + 1, 0, none⟩ = some (.int .i64 z0) from (World.cell?_of_block (a := ⟨wc.heap.size + 1, 0, none⟩) (h6.block (wc.heap.size + 1) (by simp) (by omega))).trans (Wd.alloc_first (wc.alloc (Obj.cells #[] 2)) (wc.heap.size + 1) _ 2 (by simp))); obtain ⟨e0a, e1a⟩ := (X0.out.below B5.out (by omega)).below D7.out (by omega); obtain ⟨e2a, e3a, e4a, e5a⟩ := (Y0.out.below B5.out (by omega)).below D7.out (by omega); obtain ⟨e6a, e7a⟩ := X5.out.below D7.out (by omega); have e8a := ((D7.out).cell (p := ⟨bi, offi + i, none⟩) (by dsimp only; omega)).trans X4.out; have e11a := ((D7.out).cell (p := ⟨bq, oq, none⟩) (by dsimp only; omega)).trans X5Q.out; have e9a := ((D7.out).cell (p := ⟨g5, i, none⟩) (by dsimp only; omega)).trans K0.out; have e10a := ((D7.out).frozen (p := ⟨g5, i, none⟩) (by dsimp only; omega)).trans K1.out; clear h5 h6)
          | (refine Wd.step_push_any (by rfl) _ _ (by rfl) wc.heap.size w7.heap.size c7 _ _ 1 1 A7 (some ⟨wc.heap.size + 1, 0, none⟩) zt [z0] (by rfl) (by first | exact O7.out | (rw [Nat.zero_add]; exact O7.out)) (by rfl) (by exact Wd.ints_one ZC.out) (by omega) (Nat.le_refl _) (by omega) ?_; intro A8 c8 w8 h5 h6; have O8 := Lib.hid (show Own w8 wc.heap.size w8.heap.size A8 ((n - 1) + 1) c8 (zt ++ [z0]) from (by first | exact h5 | (rw [Nat.zero_add] at h5; exact h5))); have D8 := Lib.hid (D7.out.trans (h6.below (Nat.le_refl _) (by omega))); have s8 := D8.out.size; obtain ⟨e0b, e1b⟩ := (X0.out.below B5.out (by omega)).below D8.out (by omega); obtain ⟨e2b, e3b, e4b, e5b⟩ := (Y0.out.below B5.out (by omega)).below D8.out (by omega); obtain ⟨e6b, e7b⟩ := X5.out.below D8.out (by omega); have e8b := ((D8.out).cell (p := ⟨bi, offi + i, none⟩) (by dsimp only; omega)).trans X4.out; have e11b := ((D8.out).cell (p := ⟨bq, oq, none⟩) (by dsimp only; omega)).trans X5Q.out; have e9b := ((D8.out).cell (p := ⟨g5, i, none⟩) (by dsimp only; omega)).trans K0.out; have e10b := ((D8.out).frozen (p := ⟨g5, i, none⟩) (by dsimp only; omega)).trans K1.out; clear h5 h6)
          | (refine Wd.step_push_any (by rfl) _ _ (by rfl) (wc.heap.size + 1) (wc.heap.size + 1 + 1) 0 w.heap.size 0 (n - 1) (ci - 1) (some ⟨wc.heap.size + 1, 0, none⟩) (some ⟨bq, oq + 1, none⟩) [] zt (by rfl) (by have h9 := Wd.own_nil (wc.alloc (Obj.cells #[.int .i64 z0] 2)); simp only [World.size_alloc] at h9; exact h9) (by rfl) (by exact PP.out.below ((DW.out.trans ((al2 wc _ _).mono DW.out.size)).drew)) (by simp <;> omega) (by simp <;> omega) (by omega) ?_; intro A7 c7 w7 h5 h6; have O7 := Lib.hid (show Own w7 wc.heap.size w7.heap.size A7 (n - 1) c7 zt from Own.wide (by simpa using h5) (by omega) (Nat.le_refl _)); have D7 := Lib.hid (((al2 wc _ _).drew).trans (h6.below (by omega) (by simp <;> omega))); have s7 := D7.out.size; have ZC := Lib.hid (show w7.cell? ⟨wc.heap.size, 0, none⟩ = some (.int .i64 z0) from (World.cell?_of_block (a := ⟨wc.heap.size, 0, none⟩) (h6.block wc.heap.size (by simp <;> omega) (by omega))).trans (((al1 (wc.alloc (Obj.cells #[.int .i64 z0] 2)) (Obj.cells #[] 2)).cell (p := ⟨wc.heap.size, 0, none⟩) (by simp)).trans (Wd.alloc_first wc wc.heap.size _ 2 rfl))); obtain ⟨e0a, e1a⟩ := (X0.out.below B5.out (by omega)).below D7.out (by omega); obtain ⟨e2a, e3a, e4a, e5a⟩ := (Y0.out.below B5.out (by omega)).below D7.out (by omega); obtain ⟨e6a, e7a⟩ := X5.out.below D7.out (by omega); have e8a := ((D7.out).cell (p := ⟨bi, offi + i, none⟩) (by dsimp only; omega)).trans X4.out; have e11a := ((D7.out).cell (p := ⟨bq, oq, none⟩) (by dsimp only; omega)).trans X5Q.out; have e9a := ((D7.out).cell (p := ⟨g5, i, none⟩) (by dsimp only; omega)).trans K0.out; have e10a := ((D7.out).frozen (p := ⟨g5, i, none⟩) (by dsimp only; omega)).trans K1.out; clear h5 h6)
          | (refine Wd.step_push_any (by rfl) _ _ (by rfl) wc.heap.size w7.heap.size c7 _ _ 1 1 A7 (some ⟨wc.heap.size, 0, none⟩) zt [z0] (by rfl) (by first | exact O7.out | (rw [Nat.zero_add]; exact O7.out)) (by rfl) (by exact Wd.ints_one ZC.out) (by omega) (Nat.le_refl _) (by omega) ?_; intro A8 c8 w8 h5 h6; have O8 := Lib.hid (show Own w8 wc.heap.size w8.heap.size A8 ((n - 1) + 1) c8 (zt ++ [z0]) from (by first | exact h5 | (rw [Nat.zero_add] at h5; exact h5))); have D8 := Lib.hid (D7.out.trans (h6.below (Nat.le_refl _) (by omega))); have s8 := D8.out.size; obtain ⟨e0b, e1b⟩ := (X0.out.below B5.out (by omega)).below D8.out (by omega); obtain ⟨e2b, e3b, e4b, e5b⟩ := (Y0.out.below B5.out (by omega)).below D8.out (by omega); obtain ⟨e6b, e7b⟩ := X5.out.below D8.out (by omega); have e8b := ((D8.out).cell (p := ⟨bi, offi + i, none⟩) (by dsimp only; omega)).trans X4.out; have e11b := ((D8.out).cell (p := ⟨bq, oq, none⟩) (by dsimp only; omega)).trans X5Q.out; have e9b := ((D8.out).cell (p := ⟨g5, i, none⟩) (by dsimp only; omega)).trans K0.out; have e10b := ((D8.out).frozen (p := ⟨g5, i, none⟩) (by dsimp only; omega)).trans K1.out; clear h5 h6)
          | (go_at_call 58; (refine (FN.out A8 c8 _ (by exact O8.out.ints)).mono ?_); rintro e w6 ⟨R6, t6, rfl, hc6, hm6, hb6'⟩; have B6 := Lib.hid (D8.out.trans (hb6'.mono s8)); have z6 := B6.out.size; have M6 := Lib.hid (show Rw.In ⟨R6, t6, zo⟩ w6 wc.heap.size w6.heap.size from ⟨hc6.1, hc6.2, hm6.wide s8 (Nat.le_refl _)⟩); obtain ⟨e0, e1⟩ := (X0.out.below B5.out (by omega)).below B6.out (by omega); obtain ⟨e2, e3, e4, e5⟩ := (Y0.out.below B5.out (by omega)).below B6.out (by omega); obtain ⟨e6, e7⟩ := X5.out.below B6.out (by omega); have e8 := ((B6.out).cell (p := ⟨bi, offi + i, none⟩) (by dsimp only; omega)).trans X4.out; have e11 := ((B6.out).cell (p := ⟨bq, oq, none⟩) (by dsimp only; omega)).trans X5Q.out; have e9 := ((B6.out).cell (p := ⟨g5, i, none⟩) (by dsimp only; omega)).trans K0.out; have e10 := ((B6.out).frozen (p := ⟨g5, i, none⟩) (by dsimp only; omega)).trans K1.out; clear hb6' hc6 hm6)
          | (go_at_call 58; (refine (FNZ.out A8 c8 _ (by exact O8.out.ints)).mono ?_); rintro e w6 ⟨R6, t6, rfl, hc6, hm6, hb6'⟩; have B6 := Lib.hid (D8.out.trans (hb6'.mono s8)); have z6 := B6.out.size; have M6 := Lib.hid (show Rw.In ⟨R6, t6, zo⟩ w6 wc.heap.size w6.heap.size from ⟨hc6.1, hc6.2, hm6.wide s8 (Nat.le_refl _)⟩); obtain ⟨e0, e1⟩ := (X0.out.below B5.out (by omega)).below B6.out (by omega); obtain ⟨e2, e3, e4, e5⟩ := (Y0.out.below B5.out (by omega)).below B6.out (by omega); obtain ⟨e6, e7⟩ := X5.out.below B6.out (by omega); have e8 := ((B6.out).cell (p := ⟨bi, offi + i, none⟩) (by dsimp only; omega)).trans X4.out; have e11 := ((B6.out).cell (p := ⟨bq, oq, none⟩) (by dsimp only; omega)).trans X5Q.out; have e9 := ((B6.out).cell (p := ⟨g5, i, none⟩) (by dsimp only; omega)).trans K0.out; have e10 := ((B6.out).frozen (p := ⟨g5, i, none⟩) (by dsimp only; omega)).trans K1.out; clear hb6' hc6 hm6))
      all_goals
        have D6 := Lib.hid (DW.out.trans (B6.out.mono (by omega)))
        have O6 := Lib.hid (((O5.out.below B6.out (by omega)).wide (lo' := lo5) (hi' := w6.heap.size) (Nat.le_refl _) (by omega)).set_ i ⟨R6, t6, zo⟩ (M6.out.wide (by omega) (Nat.le_refl _)) (M6.out.off (.inl (by omega))) (fun r' hr' => Apart.of_in M6.out (O5.out.mine r' hr') (.inr (by omega))))
        have VAL := Lib.hid (show vals (rs5.set i ⟨R6, t6, zo⟩) = (vals rs).set i zo from by rw [vals_set, V5.out])
        obtain ⟨s0, s1⟩ := (Z0.out.below B5.out (by omega)).below B6.out (by omega)
        have f0 := (G0.out.below B5.out (by omega)).below B6.out (by omega)
        unfold Free at f0
        clear e0 e1 e2 e3 e4 e5 e8 e9 e10 x0 x1 m0 m1 m2 m3 y0 y1 k0 k1 x4 x5
        go_wp2
        refine bodyPost_ret (v := .agg #[.int .i64 r, .slice (some ⟨g5, 0, none⟩) rs5.length c5]) (by simp [results, Try.results35, s0, s1, go_sem]) rfl ?_
        refine ⟨some ⟨g5, 0, none⟩, c5, rs5.set i ⟨R6, t6, zo⟩, by rw [List.length_set], ?_, VAL.out, ((D6.out.setCell (by dsimp only; omega) _).setCell (by dsimp only; omega) _).setCell (by dsimp only; omega) _⟩
        exact ((O6.out.far (p := ⟨w.heap.size + 1 + 1, 0, none⟩) (.inl (by dsimp only; omega)) _).far (p := ⟨w.heap.size + 1 + 1, 1, none⟩) (.inl (by dsimp only; omega)) _).wide (by omega) (by simp [World.setCell])


set_option maxRecDepth 100000 in
set_option maxHeartbeats 16000000 in
theorem move_rotZ (I J r : Int) (A Aw : Option Addr) (c nw cw : Nat) (rs : List Rw) (w : World) (h : RdS w w.heap.size A rs) (hn : rs.length ≤ 1048576) (hrow : ∀ q ∈ rs, q.zs.length ≤ 1048576) (i : Nat) (hI : I = i) (hi : i < rs.length) (h0 : (rs.getD i nilRw).zs = []) :
    Calls Try.prog 35 #[.agg #[.int .i64 r, .slice A rs.length c], .agg #[.int .i64 2, .int .i64 I, .int .i64 J, .slice Aw nw cw]] w (ResPr w r (vals rs)) := by
  have CP := Lib.hid (fun (W : World) (hb : Below w.heap.size w W) => copy_spec (-1) A rs.length c rs W (h.into hb) rfl hn hrow)
  rw [exc_none (by decide)] at CP
  have P0 := Lib.hid (BoxG.new w 26 (.int .i64 r) (.slice A rs.length c))
  have M0 := Lib.hid (BoxT.new (w.alloc (Obj.cells #[.int .i64 r, .slice A rs.length c] 26)) 36 (.int .i64 2) (.int .i64 I) (.int .i64 J) (.slice Aw nw cw))
  have R0 := Lib.hid (BoxG.new ((w.alloc (Obj.cells #[.int .i64 r, .slice A rs.length c] 26)).alloc (Obj.cells #[.int .i64 2, .int .i64 I, .int .i64 J, .slice Aw nw cw] 36)) 26 (.int .i64 0) (.slice none 0 0))
  have F0 := Lib.hid (Free.new ((w.alloc (Obj.cells #[.int .i64 r, .slice A rs.length c] 26)).alloc (Obj.cells #[.int .i64 2, .int .i64 I, .int .i64 J, .slice Aw nw cw] 36)) 26 #[.int .i64 0, .slice none 0 0])
  have D3 := Lib.hid (al3 w (Obj.cells #[.int .i64 r, .slice A rs.length c] 26) (Obj.cells #[.int .i64 2, .int .i64 I, .int .i64 J, .slice Aw nw cw] 36) (Obj.cells #[.int .i64 0, .slice none 0 0] 26))
  obtain ⟨V, hV⟩ : ∃ V, V = (((w.alloc (Obj.cells #[.int .i64 r, .slice A rs.length c] 26)).alloc (Obj.cells #[.int .i64 2, .int .i64 I, .int .i64 J, .slice Aw nw cw] 36)).alloc (Obj.cells #[.int .i64 0, .slice none 0 0] 26)) := ⟨_, rfl⟩
  have sV : w.heap.size + 1 + 1 < V.heap.size := by rw [hV]; simp
  have X0 := Lib.hid (show BoxG V w.heap.size (.int .i64 r) (.slice A rs.length c) from by rw [hV]; exact (P0.out.below (al1 _ _) (by simp)).below (al1 _ _) (by simp; omega))
  have Y0 := Lib.hid (show BoxT V (w.heap.size + 1) (.int .i64 2) (.int .i64 I) (.int .i64 J) (.slice Aw nw cw) from by rw [hV]; simpa using M0.out.below (al1 _ _) (by simp))
  have Z0 := Lib.hid (show BoxG V (w.heap.size + 1 + 1) (.int .i64 0) (.slice none 0 0) from by rw [hV]; simpa using R0.out)
  have G0 := Lib.hid (show Free V (w.heap.size + 1 + 1) from by rw [hV]; simpa using F0.out)
  have DV := Lib.hid (show Below w.heap.size w V from by rw [hV]; exact D3.out)
  have HR := Lib.hid h
  have ROW := Lib.hid hrow
  have NN := Lib.hid hn
  clear h hrow hn P0 M0 R0 F0 D3
  obtain ⟨bi, offi, Ai, ci, zi, hAi, hbi, hri, hci, hic, him, hii⟩ := HR.out.at_ (j := i) hi
  rw [hri] at h0
  dsimp only at h0
  rw [h0] at hci
  subst hAi
  have CI := Lib.hid hci
  subst hI
  clear hri hci hic him hii h0
  go_enter Try.func35, Try.ntmps35
  go_upto_region 1 with fail
  rw [← hV]
  clear hV
  have v0 : w.heap.size < V.heap.size := by omega
  have v1 : w.heap.size + 1 < V.heap.size := by omega
  have n1 : ¬ w.heap.size = V.heap.size := by omega
  have n2 : ¬ V.heap.size = w.heap.size := by omega
  go_cut [5] (fun p W => CutM V r (vals rs) p W)
  case first =>
    obtain ⟨x0, x1⟩ := X0.out
    go_region_held3 (fun W => (W.cell? ⟨w.heap.size, 0, none⟩ = some (.int .i64 r)) ∧ (W.cell? ⟨w.heap.size, 1, none⟩ = some (.slice (some ⟨bi, offi, none⟩) rs.length c))) (go_keep)
      (first
        | (go_at_call 47; (refine (CP.out _ ?_).mono ?_; (first | exact DV.out.drew | exact (DV.out.trans ((al1 _ _).mono DV.out.size)).drew)); rintro e w6 ⟨A6, c6, rs6, rfl, ho6, hv6, hb6'⟩; have hb6 := undrew hb6'; have B6 := Lib.hid hb6; have O6 := Lib.hid ho6; have V6 := Lib.hid hv6; have z6 := hb6.size; have hx : w.heap.size < w6.heap.size := (by (try simp at z6); omega); first | (obtain ⟨e0, e1⟩ := X0.out.below hb6 (by omega)) | (obtain ⟨e0, e1⟩ := (X0.out.below (al1 _ _) (by omega)).below hb6 (by simp; omega)); (try (have bz := (BoxG.new V 26 (.int .i64 0) (.slice none 0 0)).below hb6 (by simp); have BZ := Lib.hid bz; obtain ⟨b0, b1⟩ := bz; have bf := (Free.new V 26 #[.int .i64 0, .slice none 0 0]).below hb6 (by simp); have BF := Lib.hid bf; unfold Free at bf)); clear hb6 hb6' ho6 hv6))
    all_goals
      go_wp2_with fail
      go_meet
      first
        | exact CutM.late (by simpa using O6.out) V6.out B6.out
        | exact CutM.early (by simpa using O6.out) V6.out B6.out BZ.out BF.out
  case rest =>
    obtain ⟨pb, A5, c5, rs5, lo5, hi5, rfl, hx5, hf5, ho5, hl5, hh5, hp5, hq5, hd5, hb5, hv5⟩ := hcut
    have X5 := Lib.hid hx5
    have F5 := Lib.hid hf5
    have O5 := Lib.hid ho5
    have B5 := Lib.hid hb5
    have V5 := Lib.hid hv5
    clear hx5 hf5 ho5 hb5 hv5
    obtain ⟨x0, x1⟩ := X0.out.below B5.out (by omega)
    obtain ⟨m0, m1, m2, m3⟩ := Y0.out.below B5.out (by omega)
    have DW := Lib.hid (DV.out.trans (B5.out.mono (by omega)))
    have x4 := (DW.out.cell (p := ⟨bi, offi + i, none⟩) hbi).trans CI.out
    simp only [List.length_nil] at x4
    have i0 : (0 : Int) ≤ (i : Int) := by omega
    have i1 : (i : Int) < (rs.length : Int) := by omega
    obtain ⟨y0, y1⟩ := X5.out
    obtain ⟨s0, s1⟩ := Z0.out.below B5.out (by omega)
    have f0 := G0.out.below B5.out (by omega)
    unfold Free at f0
    go_wp2
    refine bodyPost_ret (v := .agg #[.int .i64 r, .slice A5 rs5.length c5]) (by simp [results, Try.results35, s0, s1, go_sem]) rfl ?_
    refine ⟨A5, c5, rs5, rfl, ?_, V5.out, (DW.out.setCell (by dsimp only; omega) _).setCell (by dsimp only; omega) _⟩
    exact ((O5.out.far (p := ⟨w.heap.size + 1 + 1, 0, none⟩) (.inl (by dsimp only; omega)) _).far (p := ⟨w.heap.size + 1 + 1, 1, none⟩) (.inl (by dsimp only; omega)) _).wide (by omega) (by simpa [World.setCell] using hh5)

theorem move_rot (I J r : Int) (A Aw : Option Addr) (c nw cw : Nat) (rs : List Rw) (w : World) (h : RdS w w.heap.size A rs) (hn : rs.length ≤ 1048576) (hrow : ∀ q ∈ rs, q.zs.length ≤ 1048576) (i : Nat) (hI : I = i) (hp : Wd.isP r (vals rs) = true) (hi : i < rs.length) :
    Calls Try.prog 35 #[.agg #[.int .i64 r, .slice A rs.length c], .agg #[.int .i64 2, .int .i64 I, .int .i64 J, .slice Aw nw cw]] w (ResPr w r ((vals rs).set i (Wd.rd (Wd.rot (rs.getD i nilRw).zs)))) := by
  rcases Nat.eq_zero_or_pos (rs.getD i nilRw).zs.length with h0 | h0
  · have h1 := List.length_eq_zero_iff.1 h0
    have e : (vals rs).set i (Wd.rd (Wd.rot (rs.getD i nilRw).zs)) = vals rs := by
      rw [h1, show Wd.rd (Wd.rot []) = [] from rfl]
      have h2 : (vals rs).getD i [] = [] := by rw [vals_getD]; exact h1
      apply List.ext_getElem?
      intro k
      rw [List.getElem?_set]
      split
      · rename_i e; subst e
        rw [if_pos (by rw [vals_len]; exact hi)]
        rw [List.getD_eq_getElem?_getD, List.getElem?_eq_getElem (by rw [vals_len]; exact hi)] at h2
        rw [List.getElem?_eq_getElem (by rw [vals_len]; exact hi)]
        simpa using h2.symm
      · rfl
    rw [e]
    exact move_rotZ I J r A Aw c nw cw rs w h hn hrow i hI hi h1
  · exact move_rotS I J r A Aw c nw cw rs w h hn hrow i hI hp hi h0

end Go.Proofs.Ytjommpdblbbkdaa
