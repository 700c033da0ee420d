/- What the program's moves change. No condition but those that each theorem names. -/
import Derived.Test.YtjommpdblbbkdaaTzB
import Derived.Deep.RegionHeld3
namespace Go.Proofs.Ytjommpdblbbkdaa
open Go.RowKit


set_option maxRecDepth 100000 in
set_option maxHeartbeats 16000000 in
theorem chg_mul (i j : Nat) (r : Int) (A : Option Addr) (c : Nat) (rs : List Rw) (w : World) (h : RdS w w.heap.size A rs) (hp : Wd.isP r (vals rs) = true) (hi : i < rs.length) (hj : j < rs.length) :
    Calls Try.prog 60 #[.agg #[.int .i64 r, .slice A rs.length c], .iface 89 (.agg #[.int .i64 i, .int .i64 j])] w (ResPr w r ((vals rs).set i ((rs.getD i nilRw).zs ++ (rs.getD j nilRw).zs))) := by
  obtain ⟨r0, r24, r48, hz⟩ := Wd.isP_iff.1 hp
  rw [vals_len] at r48
  have RW := Lib.hid (show ∀ q ∈ rs, q.zs.length ≤ 1048576 from fun q hq => by
    have := (Wd.isW_fit (Wd.isR_iff.1 (hz _ (List.mem_map_of_mem hq))).1).1
    omega)
  have ZI := Wd.isR_iff.1 (hz _ (vals_mem hi))
  have ZL := (Wd.isW_fit ZI.1).1
  have CL := Lib.hid (fun (W : World) (hb : Below w.heap.size w W) => cloneP_any r A c rs W (h.into hb) (by omega) RW.out)
  obtain ⟨bi, offi, Ai, ci, zi, hAi, hbi, hri, hci, hic, him, hii⟩ := h.at_ (j := i) hi
  have ZJ := Wd.isR_iff.1 (hz _ (vals_mem hj))
  have ZLJ := (Wd.isW_fit ZJ.1).1
  obtain ⟨bj, offj, Aj, cj, zj, hAj, hbj, hrj, hcj, hjc, hjm, hjj⟩ := h.at_ (j := j) hj
  rw [hri] at ZI ZL ⊢
  rw [hrj] at ZJ ZLJ ⊢
  dsimp only at ZI ZL ZJ ZLJ ⊢
  subst hAi
  cases hAj
  have HI2 := Lib.hid hii
  have HJ2 := Lib.hid hjj
  have CJ := Lib.hid hcj
  obtain ⟨n, hrn⟩ : ∃ n, rs.length = n := ⟨_, rfl⟩
  have HN := Lib.hid hrn
  have CI := Lib.hid hci
  obtain ⟨zo, hzo⟩ : ∃ zo, zi ++ zj = zo := ⟨_, rfl⟩
  rw [hrn] at hi hj r48 CL ⊢
  rw [hzo]
  have ZO := Lib.hid hzo
  have P0 := Lib.hid (BoxG.new w 26 (.int .i64 r) (.slice (some ⟨bi, offi, none⟩) n c))
  have P1 := Lib.hid (BoxG.new (w.alloc (Obj.cells #[.int .i64 r, .slice (some ⟨bi, offi, none⟩) n c] 26)) 26 (.int .i64 0) (.slice none 0 0))
  have F1 := Lib.hid (Free.new (w.alloc (Obj.cells #[.int .i64 r, .slice (some ⟨bi, offi, none⟩) n c] 26)) 26 #[.int .i64 0, .slice none 0 0])
  have ta_invertRelator : ∀ w, (Instr.typeAssert (.iface 89 (.agg #[.int .i64 (i : Int), .int .i64 (j : Int)])) 67 86 true).run Try.prog w = .ok (.tuple #[.agg #[.int .i64 0], .bool false]) w := fun w => by kernel_rfl
  have ta_rotateRelator : ∀ w, (Instr.typeAssert (.iface 89 (.agg #[.int .i64 (i : Int), .int .i64 (j : Int)])) 67 87 true).run Try.prog w = .ok (.tuple #[.agg #[.int .i64 0], .bool false]) w := fun w => by kernel_rfl
  have ta_multiplyRelator : ∀ w, (Instr.typeAssert (.iface 89 (.agg #[.int .i64 (i : Int), .int .i64 (j : Int)])) 67 89 true).run Try.prog w = .ok (.tuple #[.agg #[.int .i64 (i : Int), .int .i64 (j : Int)], .bool true]) w := fun w => by kernel_rfl
  clear h hp hz hri hci hic him hii hrj hcj hjc hjm hjj ZI ZJ hrn hzo
  go_enter Try.func60, Try.ntmps60
  go_wp2_with fail
  refine (CL.out _ (al2 _ _ _)).mono ?_
  rintro e w1 ⟨A1, c1, rs1, rfl, ho, hv, hb⟩
  have L1 := Lib.hid (show rs1.length = n from by rw [← vals_len, hv, vals_len, HN.out])
  rw [L1.out]
  obtain ⟨g1, hA1, h1, h2, h3⟩ := ho.at_ (by rw [L1.out]; omega)
  subst hA1
  have z1 : w.heap.size + 1 < w1.heap.size := by have := hb.size; simp at this; omega
  have V1 := Lib.hid hv
  have O1 := Lib.hid ho
  have D1 := Lib.hid (on2 _ _ hb)
  have X0 := Lib.hid ((P0.out.below (al1 _ _) (by simp)).below hb (by simp; omega))
  have X1 := Lib.hid (show BoxG w1 (w.heap.size + 1) (.int .i64 0) (.slice none 0 0) from by simpa using P1.out.below hb (by simp))
  have Y1 := Lib.hid (show Free w1 (w.heap.size + 1) from by simpa using F1.out.below hb (by simp))
  simp only [World.size_alloc] at h1
  obtain ⟨h3a, h3b⟩ := h3 i (by rw [L1.out]; exact hi)
  have K0 := Lib.hid h3a
  have K1 := Lib.hid h3b
  clear ho hv hb h3 h3a h3b P0 P1 F1 CL
  go_upto_region 11 with fail
  obtain ⟨V, hV⟩ : ∃ V, V = (w1.alloc (Obj.cells #[.int .i64 r, .slice (some ⟨g1, 0, none⟩) n c1] 26)).alloc (Obj.cells #[.int .i64 (i : Int), .int .i64 (j : Int)] 89) := ⟨_, rfl⟩
  have DV := Lib.hid (show Below w1.heap.size w1 V from by rw [hV]; exact al2 _ _ _)
  have sV : V.heap.size = w1.heap.size + 1 + 1 := by rw [hV]; simp
  have C0 := Lib.hid (show BoxG V w1.heap.size (.int .i64 r) (.slice (some ⟨g1, 0, none⟩) n c1) from by rw [hV]; exact (BoxG.new w1 _ _ _).below (al1 _ _) (by simp))
  have C1 := Lib.hid (show BoxG V (w1.heap.size + 1) (.int .i64 (i : Int)) (.int .i64 (j : Int)) from by rw [hV]; simpa using BoxG.new (w1.alloc (Obj.cells #[.int .i64 r, .slice (some ⟨g1, 0, none⟩) n c1] 26)) 89 (.int .i64 (i : Int)) (.int .i64 (j : Int)))
  rw [← hV]
  clear hV ta_multiplyRelator
  have DW := Lib.hid (D1.out.trans (DV.out.mono (by omega)))
  have PX := Lib.hid (X0.out.below DV.out (by omega))
  have OX := Lib.hid (O1.out.below DV.out (Nat.le_refl _))
  have x4 := (DW.out.cell (p := ⟨bi, offi + i, none⟩) hbi).trans CI.out
  have X4 := Lib.hid x4
  have k0 := (DV.out.cell (p := ⟨g1, i, none⟩) h2).trans K0.out
  have k1 := (DV.out.frozen (p := ⟨g1, i, none⟩) h2).trans K1.out
  obtain ⟨p0, p1⟩ := PX.out
  obtain ⟨q0, q1⟩ := C0.out
  obtain ⟨q2, q3⟩ := C1.out
  have y4 := (DW.out.cell (p := ⟨bi, offi + j, none⟩) hbi).trans CJ.out
  have Y4 := Lib.hid y4
  have j0 : (0 : Int) ≤ (j : Int) := by omega
  have j1 : (j : Int) < (n : Int) := by omega
  have i0 : (0 : Int) ≤ (i : Int) := by omega
  have i1 : (i : Int) < (n : Int) := by omega
  have n1 : ¬ g1 = w1.heap.size := by omega
  have n2 : ¬ w1.heap.size = g1 := by omega
  have n3 : ¬ g1 = w1.heap.size + 1 := by omega
  have n4 : ¬ w1.heap.size + 1 = g1 := by omega
  have n5 : ¬ g1 = w.heap.size := by omega
  have n6 : ¬ w.heap.size = g1 := by omega
  have n7 : ¬ g1 = bi := by omega
  have n8 : ¬ bi = g1 := by omega
  have HII := HI2.out
  have HJJ := HJ2.out
  have FNV := Lib.hid (concat_any Ai Aj zi.length ci zj.length cj (w1.heap.size + 1 + 1) zi zj ((V.alloc (Obj.cells #[.slice Ai zi.length ci, .slice Aj zj.length cj] 34)).drew) (HII.into ((DW.out.alloc (by omega) _).drew)) (HJJ.into ((DW.out.alloc (by omega) _).drew)) (by omega) (show BoxG ((V.alloc (Obj.cells #[.slice Ai zi.length ci, .slice Aj zj.length cj] 34)).drew) (w1.heap.size + 1 + 1) _ _ from by rw [← sV]; exact BoxG.new V _ _ _) (show w1.heap.size + 1 + 1 < (V.alloc _).heap.size by simp; omega))
  rw [ZO.out] at FNV
  clear HII HJJ
  have v1 : w1.heap.size < V.heap.size := by omega
  have v2 : w1.heap.size + 1 < V.heap.size := by omega
  have v3 : w.heap.size < V.heap.size := by omega
  have v4 : bi < V.heap.size := by omega
  have v5 : g1 < V.heap.size := by omega
  go_region_held3 (fun W => (W.cell? ⟨w1.heap.size, 1, none⟩ = some (.slice (some ⟨g1, 0, none⟩) n c1)) ∧ (W.cell? ⟨w1.heap.size + 1, 0, none⟩ = some (.int .i64 (i : Int))) ∧ (W.cell? ⟨w1.heap.size + 1, 1, none⟩ = some (.int .i64 (j : Int))) ∧ (W.cell? ⟨w.heap.size, 1, none⟩ = some (.slice (some ⟨bi, offi, none⟩) n c)) ∧ (W.cell? ⟨bi, offi + i, none⟩ = some (.slice Ai zi.length ci)) ∧ (W.cell? ⟨bi, offi + j, none⟩ = some (.slice Aj zj.length cj))) (go_keep)
    (first
      | (go_at_call 68; (with_reducible refine FNV.out.mono ?_); rintro e w6 ⟨R6, t6, rfl, hc6, hc7, hm6, hb6'⟩; have hb6 := on1 _ (undrew hb6'); have B6 := Lib.hid hb6; have z6 := hb6.size; have M6 := Lib.hid (show Rw.In ⟨R6, t6, zo⟩ w6 V.heap.size w6.heap.size from ⟨hc6, hc7, hm6.mine.wide (show V.heap.size ≤ (V.alloc _).heap.size by simp) (Nat.le_refl _)⟩); obtain ⟨e0, e1⟩ := C0.out.below hb6 (by omega); obtain ⟨e2, e2b⟩ := C1.out.below hb6 (by omega); have e8 := (hb6.cell (p := ⟨bi, offi + j, none⟩) (by dsimp only; omega)).trans Y4.out; obtain ⟨e3, e4⟩ := PX.out.below hb6 (by omega); have e5 := (hb6.cell (p := ⟨bi, offi + i, none⟩) (by dsimp only; omega)).trans X4.out; have e6 := (hb6.cell (p := ⟨g1, i, none⟩) (by dsimp only; omega)).trans ((DV.out.cell (p := ⟨g1, i, none⟩) h2).trans K0.out); have e7 := (hb6.frozen (p := ⟨g1, i, none⟩) (by dsimp only; omega)).trans ((DV.out.frozen (p := ⟨g1, i, none⟩) h2).trans K1.out); clear hb6 hb6' hc6 hc7 hm6))
  all_goals
    have O6 := Lib.hid (OX.out.below B6.out (by omega))
    have D6 := Lib.hid (DW.out.trans (B6.out.mono (by omega)))
    obtain ⟨s0, s1⟩ := (X1.out.below DV.out (by omega)).below B6.out (by omega)
    have f0 := (Y1.out.below DV.out (by omega)).below B6.out (by omega)
    have m1 : ¬ g1 = w.heap.size + 1 := by omega
    have m2 : ¬ w.heap.size + 1 = g1 := by omega
    have VAL := Lib.hid (show vals (rs1.set i ⟨R6, t6, zo⟩) = (vals rs).set i zo from by rw [vals_set, V1.out])
    unfold Free at f0
    go_wp2
    refine bodyPost_ret (v := .agg #[.int .i64 r, .slice (some ⟨g1, 0, none⟩) n c1]) (by simp [results, Try.results60, s0, s1, go_sem]) rfl ?_
    exact ResPr.row (lo := w.heap.size + 1 + 1) (w1 := w1) (r6 := ⟨R6, t6, zo⟩) (by simpa using O6.out) (by omega) (by omega) (M6.out.wide (by omega) (Nat.le_refl _)) L1.out h2 (by omega) (by omega) (by omega) VAL.out D6.out

end Go.Proofs.Ytjommpdblbbkdaa
