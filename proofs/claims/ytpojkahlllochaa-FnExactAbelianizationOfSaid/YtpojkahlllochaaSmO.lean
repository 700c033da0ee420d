/- Contracts of the function that places a pivot and of the rounds for one place, the program's. No condition but those that each theorem names. -/
import Derived.Test.YtpojkahlllochaaSmN
namespace Go.Proofs.Ytpojkahlllochaa
open Go.RowKit

theorem Row.box {w : World} {g : Nat} {x0 x1 x2 x3 x4 x5 x6 x7 x8 x9 xa xb xc xd xe : Value} {t : TypeId} (h : Row w g #[x0, x1, x2, x3, x4, x5, x6, x7, x8, x9, xa, xb, xc, xd, xe] t) : w.cell? ⟨g, 6, none⟩ = some x6 ∧ w.cell? ⟨g, 7, none⟩ = some x7 ∧ w.cell? ⟨g, 8, none⟩ = some x8 :=
  ⟨cell_of_row w g 6 _ t (0, 0) h, cell_of_row w g 7 _ t (0, 0) h, cell_of_row w g 8 _ t (0, 0) h⟩
theorem Row.box15 {w : World} {g : Nat} {x0 x1 x2 x3 x4 x5 x6 x7 x8 x9 xa xb xc xd xe : Value} {t : TypeId} (h : Row w g #[x0, x1, x2, x3, x4, x5, x6, x7, x8, x9, xa, xb, xc, xd, xe] t) : w.cell? ⟨g, 0, none⟩ = some x0 ∧ w.cell? ⟨g, 1, none⟩ = some x1 ∧ w.cell? ⟨g, 2, none⟩ = some x2 ∧ w.cell? ⟨g, 3, none⟩ = some x3 ∧ w.cell? ⟨g, 4, none⟩ = some x4 ∧ w.cell? ⟨g, 5, none⟩ = some x5 ∧ w.cell? ⟨g, 6, none⟩ = some x6 ∧ w.cell? ⟨g, 7, none⟩ = some x7 ∧ w.cell? ⟨g, 8, none⟩ = some x8 ∧ w.cell? ⟨g, 9, none⟩ = some x9 ∧ w.cell? ⟨g, 10, none⟩ = some xa ∧ w.cell? ⟨g, 11, none⟩ = some xb ∧ w.cell? ⟨g, 12, none⟩ = some xc ∧ w.cell? ⟨g, 13, none⟩ = some xd ∧ w.cell? ⟨g, 14, none⟩ = some xe :=
  ⟨cell_of_row w g 0 _ t (0, 0) h, cell_of_row w g 1 _ t (0, 0) h, cell_of_row w g 2 _ t (0, 0) h, cell_of_row w g 3 _ t (0, 0) h, cell_of_row w g 4 _ t (0, 0) h, cell_of_row w g 5 _ t (0, 0) h, cell_of_row w g 6 _ t (0, 0) h, cell_of_row w g 7 _ t (0, 0) h, cell_of_row w g 8 _ t (0, 0) h, cell_of_row w g 9 _ t (0, 0) h, cell_of_row w g 10 _ t (0, 0) h, cell_of_row w g 11 _ t (0, 0) h, cell_of_row w g 12 _ t (0, 0) h, cell_of_row w g 13 _ t (0, 0) h, cell_of_row w g 14 _ t (0, 0) h⟩
/-- The state behind a change of sign, where the entry is negative. -/
def placed (R C k : Nat) (pv : Int) (z : Sm.St) : Sm.St := if pv < 0 then Sm.rowNeg R C k z else z
theorem placed_neg {R C k : Nat} {pv : Int} {z : Sm.St} (h : pv < 0) : placed R C k pv z = Sm.rowNeg R C k z := if_pos h
theorem placed_pos {R C k : Nat} {pv : Int} {z : Sm.St} (h : ¬ pv < 0) : placed R C k pv z = z := if_neg h
set_option maxRecDepth 100000 in
set_option maxHeartbeats 8000000 in
theorem place_ss (L : Lay) (R C k : Nat) (z : Sm.St) (w : World) (hR : R ≤ 48) (hC : C ≤ 48) (hk : k < R) (hkC : k < C) (ok : L.Ok w) (h : Five L R C w z) (g : Sm.Good R C z) (hz : Sm.ent C z.d k k ≠ 0) :
    Calls Try.prog 127 #[.agg #[.int .i64 R, .int .i64 R, .slice (some ⟨L.gl, 0, none⟩) (R * R) L.cl, .int .i64 R, .int .i64 R, .slice (some ⟨L.gli, 0, none⟩) (R * R) L.cli, .int .i64 R, .int .i64 C, .slice (some ⟨L.gd, 0, none⟩) (R * C) L.cd, .int .i64 C, .int .i64 C, .slice (some ⟨L.gr, 0, none⟩) (C * C) L.cr, .int .i64 C, .int .i64 C, .slice (some ⟨L.gri, 0, none⟩) (C * C) L.cri], .int .i64 k, .int .i64 k, .int .i64 k] w (FiveSays L R C (some (placed R C k (Sm.ent C z.d k k) z)) w) := by
  have p1 := rc_le hR hC
  have X0 := Lib.hid (Row.new w #[.int .i64 R, .int .i64 R, .slice (some ⟨L.gl, 0, none⟩) (R * R) L.cl, .int .i64 R, .int .i64 R, .slice (some ⟨L.gli, 0, none⟩) (R * R) L.cli, .int .i64 R, .int .i64 C, .slice (some ⟨L.gd, 0, none⟩) (R * C) L.cd, .int .i64 C, .int .i64 C, .slice (some ⟨L.gr, 0, none⟩) (C * C) L.cr, .int .i64 C, .int .i64 C, .slice (some ⟨L.gri, 0, none⟩) (C * C) L.cri] 120)
  have HB0 := Lib.hid (Kept.of_below (al1 w (Obj.cells #[.int .i64 R, .int .i64 R, .slice (some ⟨L.gl, 0, none⟩) (R * R) L.cl, .int .i64 R, .int .i64 R, .slice (some ⟨L.gli, 0, none⟩) (R * R) L.cli, .int .i64 R, .int .i64 C, .slice (some ⟨L.gd, 0, none⟩) (R * C) L.cd, .int .i64 C, .int .i64 C, .slice (some ⟨L.gr, 0, none⟩) (C * C) L.cr, .int .i64 C, .int .i64 C, .slice (some ⟨L.gri, 0, none⟩) (C * C) L.cri] 120)) L.b0 L.b5)
  have F0 := Lib.hid (h.below ok (al1 w (Obj.cells #[.int .i64 R, .int .i64 R, .slice (some ⟨L.gl, 0, none⟩) (R * R) L.cl, .int .i64 R, .int .i64 R, .slice (some ⟨L.gli, 0, none⟩) (R * R) L.cli, .int .i64 R, .int .i64 C, .slice (some ⟨L.gd, 0, none⟩) (R * C) L.cd, .int .i64 C, .int .i64 C, .slice (some ⟨L.gr, 0, none⟩) (C * C) L.cr, .int .i64 C, .int .i64 C, .slice (some ⟨L.gri, 0, none⟩) (C * C) L.cri] 120)))
  have OK := Lib.hid ok
  have i5 := ok.i5
  have G0 := Lib.hid g
  obtain ⟨pv, hpv⟩ : ∃ pv, z.d.getD (k * C + k) 0 = pv := ⟨_, rfl⟩
  have hpe : Sm.ent C z.d k k = pv := hpv
  rw [hpe] at hz ⊢
  have hpb := G0.out.wd (k * C + k)
  rw [hpv] at hpb
  obtain ⟨hpb0, hpb1⟩ := hpb
  have HPV := Lib.hid hpv
  have t1 : ((k : Int) != (k : Int)) = false := by simp
  have HZ := Lib.hid hz
  clear h ok g hpv hpe hz
  go_enter Try.func127, Try.ntmps127
  go_wp2_with fail
  obtain ⟨W0, hW0⟩ : ∃ W0, W0 = (w.alloc (Obj.cells #[.int .i64 R, .int .i64 R, .slice (some ⟨L.gl, 0, none⟩) (R * R) L.cl, .int .i64 R, .int .i64 R, .slice (some ⟨L.gli, 0, none⟩) (R * R) L.cli, .int .i64 R, .int .i64 C, .slice (some ⟨L.gd, 0, none⟩) (R * C) L.cd, .int .i64 C, .int .i64 C, .slice (some ⟨L.gr, 0, none⟩) (C * C) L.cr, .int .i64 C, .int .i64 C, .slice (some ⟨L.gri, 0, none⟩) (C * C) L.cri] 120)) := ⟨_, rfl⟩
  have s0 : w.heap.size < W0.heap.size := by rw [hW0]; simp
  rw [← hW0] at X0 HB0 F0
  rw [← hW0]
  clear hW0
  refine (at_impl R C (some ⟨L.gd, 0, none⟩) (R * C) L.cd _ _ (F0.out.intsD (OK.out.more (by omega))) (by omega) k k _ (by rw [castM]; omega) (by rw [castM]; have := Nat.mul_le_mul_right C (show k ≤ R by omega); omega) (castI k C k) (ij_lt hk hkC)).mono ?_
  rintro e w9 ⟨rfl, hb9⟩
  rw [HPV.out]
  have F9 := Lib.hid (F0.out.below (OK.out.more (by omega)) hb9)
  have X9 := Lib.hid (X0.out.below hb9 (by omega))
  have K9 := Lib.hid (HB0.out.trans (Kept.of_below hb9 _ _))
  have s9 : w.heap.size < w9.heap.size := by have := hb9.size; omega
  clear hb9
  by_cases hpos : 0 < pv
  · go_wp2_with fail
    go_ret
    rw [placed_pos (by omega)]
    exact ⟨rfl, F9.out, K9.out⟩
  · go_wp2_with (first | (refine wpList_load_row (by rfl) 120 (.tmp 4) (by rfl) w.heap.size (by rfl) 120 #[.int .i64 R, .int .i64 R, .slice (some ⟨L.gl, 0, none⟩) (R * R) L.cl, .int .i64 R, .int .i64 R, .slice (some ⟨L.gli, 0, none⟩) (R * R) L.cli, .int .i64 R, .int .i64 C, .slice (some ⟨L.gd, 0, none⟩) (R * C) L.cd, .int .i64 C, .int .i64 C, .slice (some ⟨L.gr, 0, none⟩) (C * C) L.cr, .int .i64 C, .int .i64 C, .slice (some ⟨L.gri, 0, none⟩) (C * C) L.cri] (0, 0) _ (by exact X9.out) Try.underlying120 (by rfl) sizeR ?_) | (refine wp_load_row 120 (.tmp 4) (by rfl) w.heap.size (by rfl) 120 #[.int .i64 R, .int .i64 R, .slice (some ⟨L.gl, 0, none⟩) (R * R) L.cl, .int .i64 R, .int .i64 R, .slice (some ⟨L.gli, 0, none⟩) (R * R) L.cli, .int .i64 R, .int .i64 C, .slice (some ⟨L.gd, 0, none⟩) (R * C) L.cd, .int .i64 C, .int .i64 C, .slice (some ⟨L.gr, 0, none⟩) (C * C) L.cr, .int .i64 C, .int .i64 C, .slice (some ⟨L.gri, 0, none⟩) (C * C) L.cri] (0, 0) _ (by exact X9.out) Try.underlying120 (by rfl) sizeR ?_))
    refine (rowNeg_impl L R C _ _ (by omega) (by omega) hR hC (OK.out.more (by omega)) F9.out k G0.out hk).mono ?_
    rintro e w10 ⟨rfl, hf, hk10⟩
    have F10 := Lib.hid hf
    have K10 := Lib.hid (K9.out.trans hk10)
    clear hf hk10
    go_wp2_with fail
    go_ret
    rw [placed_neg (by have := HZ.out; omega)]
    exact ⟨rfl, F10.out, K10.out⟩

set_option maxRecDepth 100000 in
set_option maxHeartbeats 8000000 in
theorem place_sd (L : Lay) (R C k q : Nat) (z : Sm.St) (w : World) (hR : R ≤ 48) (hC : C ≤ 48) (hk : k < R) (hkC : k < C) (hq : q < C) (hqk : q ≠ k) (ok : L.Ok w) (h : Five L R C w z) (g : Sm.Good R C z) (hz : Sm.ent C (Sm.colEx R C k q z).d k k ≠ 0) :
    Calls Try.prog 127 #[.agg #[.int .i64 R, .int .i64 R, .slice (some ⟨L.gl, 0, none⟩) (R * R) L.cl, .int .i64 R, .int .i64 R, .slice (some ⟨L.gli, 0, none⟩) (R * R) L.cli, .int .i64 R, .int .i64 C, .slice (some ⟨L.gd, 0, none⟩) (R * C) L.cd, .int .i64 C, .int .i64 C, .slice (some ⟨L.gr, 0, none⟩) (C * C) L.cr, .int .i64 C, .int .i64 C, .slice (some ⟨L.gri, 0, none⟩) (C * C) L.cri], .int .i64 k, .int .i64 k, .int .i64 q] w (FiveSays L R C (some (placed R C k (Sm.ent C (Sm.colEx R C k q z).d k k) (Sm.colEx R C k q z))) w) := by
  have p1 := rc_le hR hC
  have X0 := Lib.hid (Row.new w #[.int .i64 R, .int .i64 R, .slice (some ⟨L.gl, 0, none⟩) (R * R) L.cl, .int .i64 R, .int .i64 R, .slice (some ⟨L.gli, 0, none⟩) (R * R) L.cli, .int .i64 R, .int .i64 C, .slice (some ⟨L.gd, 0, none⟩) (R * C) L.cd, .int .i64 C, .int .i64 C, .slice (some ⟨L.gr, 0, none⟩) (C * C) L.cr, .int .i64 C, .int .i64 C, .slice (some ⟨L.gri, 0, none⟩) (C * C) L.cri] 120)
  have HB0 := Lib.hid (Kept.of_below (al1 w (Obj.cells #[.int .i64 R, .int .i64 R, .slice (some ⟨L.gl, 0, none⟩) (R * R) L.cl, .int .i64 R, .int .i64 R, .slice (some ⟨L.gli, 0, none⟩) (R * R) L.cli, .int .i64 R, .int .i64 C, .slice (some ⟨L.gd, 0, none⟩) (R * C) L.cd, .int .i64 C, .int .i64 C, .slice (some ⟨L.gr, 0, none⟩) (C * C) L.cr, .int .i64 C, .int .i64 C, .slice (some ⟨L.gri, 0, none⟩) (C * C) L.cri] 120)) L.b0 L.b5)
  have F0 := Lib.hid (h.below ok (al1 w (Obj.cells #[.int .i64 R, .int .i64 R, .slice (some ⟨L.gl, 0, none⟩) (R * R) L.cl, .int .i64 R, .int .i64 R, .slice (some ⟨L.gli, 0, none⟩) (R * R) L.cli, .int .i64 R, .int .i64 C, .slice (some ⟨L.gd, 0, none⟩) (R * C) L.cd, .int .i64 C, .int .i64 C, .slice (some ⟨L.gr, 0, none⟩) (C * C) L.cr, .int .i64 C, .int .i64 C, .slice (some ⟨L.gri, 0, none⟩) (C * C) L.cri] 120)))
  have OK := Lib.hid ok
  have i5 := ok.i5
  have G0 := Lib.hid g
  have G2 := Lib.hid ((g).colEx (a := k) (b := q))
  obtain ⟨pv, hpv⟩ : ∃ pv, (Sm.colEx R C k q z).d.getD (k * C + k) 0 = pv := ⟨_, rfl⟩
  have hpe : Sm.ent C (Sm.colEx R C k q z).d k k = pv := hpv
  rw [hpe] at hz ⊢
  have hpb := G2.out.wd (k * C + k)
  rw [hpv] at hpb
  obtain ⟨hpb0, hpb1⟩ := hpb
  have HPV := Lib.hid hpv
  have t1 : ((k : Int) != (k : Int)) = false := by simp
  have t3 : ((q : Int) != (k : Int)) = true := by simp; omega
  have HQK := Lib.hid hqk
  have HZ := Lib.hid hz
  clear h ok g hpv hpe hz hqk
  go_enter Try.func127, Try.ntmps127
  go_wp2_with (first | (refine wpList_load_row (by rfl) 120 (.tmp 4) (by rfl) w.heap.size (by rfl) 120 #[.int .i64 R, .int .i64 R, .slice (some ⟨L.gl, 0, none⟩) (R * R) L.cl, .int .i64 R, .int .i64 R, .slice (some ⟨L.gli, 0, none⟩) (R * R) L.cli, .int .i64 R, .int .i64 C, .slice (some ⟨L.gd, 0, none⟩) (R * C) L.cd, .int .i64 C, .int .i64 C, .slice (some ⟨L.gr, 0, none⟩) (C * C) L.cr, .int .i64 C, .int .i64 C, .slice (some ⟨L.gri, 0, none⟩) (C * C) L.cri] (0, 0) _ (by exact X0.out) Try.underlying120 (by rfl) sizeR ?_) | (refine wp_load_row 120 (.tmp 4) (by rfl) w.heap.size (by rfl) 120 #[.int .i64 R, .int .i64 R, .slice (some ⟨L.gl, 0, none⟩) (R * R) L.cl, .int .i64 R, .int .i64 R, .slice (some ⟨L.gli, 0, none⟩) (R * R) L.cli, .int .i64 R, .int .i64 C, .slice (some ⟨L.gd, 0, none⟩) (R * C) L.cd, .int .i64 C, .int .i64 C, .slice (some ⟨L.gr, 0, none⟩) (C * C) L.cr, .int .i64 C, .int .i64 C, .slice (some ⟨L.gri, 0, none⟩) (C * C) L.cri] (0, 0) _ (by exact X0.out) Try.underlying120 (by rfl) sizeR ?_))
  obtain ⟨W0, hW0⟩ : ∃ W0, W0 = (w.alloc (Obj.cells #[.int .i64 R, .int .i64 R, .slice (some ⟨L.gl, 0, none⟩) (R * R) L.cl, .int .i64 R, .int .i64 R, .slice (some ⟨L.gli, 0, none⟩) (R * R) L.cli, .int .i64 R, .int .i64 C, .slice (some ⟨L.gd, 0, none⟩) (R * C) L.cd, .int .i64 C, .int .i64 C, .slice (some ⟨L.gr, 0, none⟩) (C * C) L.cr, .int .i64 C, .int .i64 C, .slice (some ⟨L.gri, 0, none⟩) (C * C) L.cri] 120)) := ⟨_, rfl⟩
  have s0 : w.heap.size < W0.heap.size := by rw [hW0]; simp
  rw [← hW0] at X0 HB0 F0
  rw [← hW0]
  clear hW0
  refine (colEx_impl L R C z _ (by omega) (by omega) hR hC (OK.out.more (by omega)) F0.out k q hkC hq (Ne.symm HQK.out)).mono ?_
  rintro e w1 ⟨rfl, hf, hk1⟩
  have F1 := Lib.hid hf
  have X1 := Lib.hid (X0.out.kept hk1 (by omega))
  have K1 := Lib.hid (HB0.out.trans hk1)
  have s1 : w.heap.size < w1.heap.size := by have := hk1.size; omega
  clear hf hk1 X0 F0
  obtain ⟨b0, b1, b2⟩ := X1.out.box
  go_wp2_with fail
  refine (at_impl R C (some ⟨L.gd, 0, none⟩) (R * C) L.cd _ _ (F1.out.intsD (OK.out.more (by omega))) (by omega) k k _ (by rw [castM]; omega) (by rw [castM]; have := Nat.mul_le_mul_right C (show k ≤ R by omega); omega) (castI k C k) (ij_lt hk hkC)).mono ?_
  rintro e w9 ⟨rfl, hb9⟩
  rw [HPV.out]
  have F9 := Lib.hid (F1.out.below (OK.out.more (by omega)) hb9)
  have X9 := Lib.hid (X1.out.below hb9 (by omega))
  have K9 := Lib.hid (K1.out.trans (Kept.of_below hb9 _ _))
  have s9 : w.heap.size < w9.heap.size := by have := hb9.size; omega
  clear hb9 b0 b1 b2
  by_cases hpos : 0 < pv
  · go_wp2_with fail
    go_ret
    rw [placed_pos (by omega)]
    exact ⟨rfl, F9.out, K9.out⟩
  · go_wp2_with (first | (refine wpList_load_row (by rfl) 120 (.tmp 4) (by rfl) w.heap.size (by rfl) 120 #[.int .i64 R, .int .i64 R, .slice (some ⟨L.gl, 0, none⟩) (R * R) L.cl, .int .i64 R, .int .i64 R, .slice (some ⟨L.gli, 0, none⟩) (R * R) L.cli, .int .i64 R, .int .i64 C, .slice (some ⟨L.gd, 0, none⟩) (R * C) L.cd, .int .i64 C, .int .i64 C, .slice (some ⟨L.gr, 0, none⟩) (C * C) L.cr, .int .i64 C, .int .i64 C, .slice (some ⟨L.gri, 0, none⟩) (C * C) L.cri] (0, 0) _ (by exact X9.out) Try.underlying120 (by rfl) sizeR ?_) | (refine wp_load_row 120 (.tmp 4) (by rfl) w.heap.size (by rfl) 120 #[.int .i64 R, .int .i64 R, .slice (some ⟨L.gl, 0, none⟩) (R * R) L.cl, .int .i64 R, .int .i64 R, .slice (some ⟨L.gli, 0, none⟩) (R * R) L.cli, .int .i64 R, .int .i64 C, .slice (some ⟨L.gd, 0, none⟩) (R * C) L.cd, .int .i64 C, .int .i64 C, .slice (some ⟨L.gr, 0, none⟩) (C * C) L.cr, .int .i64 C, .int .i64 C, .slice (some ⟨L.gri, 0, none⟩) (C * C) L.cri] (0, 0) _ (by exact X9.out) Try.underlying120 (by rfl) sizeR ?_))
    refine (rowNeg_impl L R C _ _ (by omega) (by omega) hR hC (OK.out.more (by omega)) F9.out k G2.out hk).mono ?_
    rintro e w10 ⟨rfl, hf, hk10⟩
    have F10 := Lib.hid hf
    have K10 := Lib.hid (K9.out.trans hk10)
    clear hf hk10
    go_wp2_with fail
    go_ret
    rw [placed_neg (by have := HZ.out; omega)]
    exact ⟨rfl, F10.out, K10.out⟩

set_option maxRecDepth 100000 in
set_option maxHeartbeats 8000000 in
theorem place_ds (L : Lay) (R C k p : Nat) (z : Sm.St) (w : World) (hR : R ≤ 48) (hC : C ≤ 48) (hk : k < R) (hkC : k < C) (hp : p < R) (hpk : p ≠ k) (ok : L.Ok w) (h : Five L R C w z) (g : Sm.Good R C z) (hz : Sm.ent C (Sm.rowEx R C k p z).d k k ≠ 0) :
    Calls Try.prog 127 #[.agg #[.int .i64 R, .int .i64 R, .slice (some ⟨L.gl, 0, none⟩) (R * R) L.cl, .int .i64 R, .int .i64 R, .slice (some ⟨L.gli, 0, none⟩) (R * R) L.cli, .int .i64 R, .int .i64 C, .slice (some ⟨L.gd, 0, none⟩) (R * C) L.cd, .int .i64 C, .int .i64 C, .slice (some ⟨L.gr, 0, none⟩) (C * C) L.cr, .int .i64 C, .int .i64 C, .slice (some ⟨L.gri, 0, none⟩) (C * C) L.cri], .int .i64 k, .int .i64 p, .int .i64 k] w (FiveSays L R C (some (placed R C k (Sm.ent C (Sm.rowEx R C k p z).d k k) (Sm.rowEx R C k p z))) w) := by
  have p1 := rc_le hR hC
  have X0 := Lib.hid (Row.new w #[.int .i64 R, .int .i64 R, .slice (some ⟨L.gl, 0, none⟩) (R * R) L.cl, .int .i64 R, .int .i64 R, .slice (some ⟨L.gli, 0, none⟩) (R * R) L.cli, .int .i64 R, .int .i64 C, .slice (some ⟨L.gd, 0, none⟩) (R * C) L.cd, .int .i64 C, .int .i64 C, .slice (some ⟨L.gr, 0, none⟩) (C * C) L.cr, .int .i64 C, .int .i64 C, .slice (some ⟨L.gri, 0, none⟩) (C * C) L.cri] 120)
  have HB0 := Lib.hid (Kept.of_below (al1 w (Obj.cells #[.int .i64 R, .int .i64 R, .slice (some ⟨L.gl, 0, none⟩) (R * R) L.cl, .int .i64 R, .int .i64 R, .slice (some ⟨L.gli, 0, none⟩) (R * R) L.cli, .int .i64 R, .int .i64 C, .slice (some ⟨L.gd, 0, none⟩) (R * C) L.cd, .int .i64 C, .int .i64 C, .slice (some ⟨L.gr, 0, none⟩) (C * C) L.cr, .int .i64 C, .int .i64 C, .slice (some ⟨L.gri, 0, none⟩) (C * C) L.cri] 120)) L.b0 L.b5)
  have F0 := Lib.hid (h.below ok (al1 w (Obj.cells #[.int .i64 R, .int .i64 R, .slice (some ⟨L.gl, 0, none⟩) (R * R) L.cl, .int .i64 R, .int .i64 R, .slice (some ⟨L.gli, 0, none⟩) (R * R) L.cli, .int .i64 R, .int .i64 C, .slice (some ⟨L.gd, 0, none⟩) (R * C) L.cd, .int .i64 C, .int .i64 C, .slice (some ⟨L.gr, 0, none⟩) (C * C) L.cr, .int .i64 C, .int .i64 C, .slice (some ⟨L.gri, 0, none⟩) (C * C) L.cri] 120)))
  have OK := Lib.hid ok
  have i5 := ok.i5
  have G0 := Lib.hid g
  have G1 := Lib.hid (g.rowEx (a := k) (b := p))
  obtain ⟨pv, hpv⟩ : ∃ pv, (Sm.rowEx R C k p z).d.getD (k * C + k) 0 = pv := ⟨_, rfl⟩
  have hpe : Sm.ent C (Sm.rowEx R C k p z).d k k = pv := hpv
  rw [hpe] at hz ⊢
  have hpb := G1.out.wd (k * C + k)
  rw [hpv] at hpb
  obtain ⟨hpb0, hpb1⟩ := hpb
  have HPV := Lib.hid hpv
  have t1 : ((p : Int) != (k : Int)) = true := by simp; omega
  have HPK := Lib.hid hpk
  have HZ := Lib.hid hz
  clear h ok g hpv hpe hz hpk
  go_enter Try.func127, Try.ntmps127
  go_wp2_with (first | (refine wpList_load_row (by rfl) 120 (.tmp 4) (by rfl) w.heap.size (by rfl) 120 #[.int .i64 R, .int .i64 R, .slice (some ⟨L.gl, 0, none⟩) (R * R) L.cl, .int .i64 R, .int .i64 R, .slice (some ⟨L.gli, 0, none⟩) (R * R) L.cli, .int .i64 R, .int .i64 C, .slice (some ⟨L.gd, 0, none⟩) (R * C) L.cd, .int .i64 C, .int .i64 C, .slice (some ⟨L.gr, 0, none⟩) (C * C) L.cr, .int .i64 C, .int .i64 C, .slice (some ⟨L.gri, 0, none⟩) (C * C) L.cri] (0, 0) _ (by exact X0.out) Try.underlying120 (by rfl) sizeR ?_) | (refine wp_load_row 120 (.tmp 4) (by rfl) w.heap.size (by rfl) 120 #[.int .i64 R, .int .i64 R, .slice (some ⟨L.gl, 0, none⟩) (R * R) L.cl, .int .i64 R, .int .i64 R, .slice (some ⟨L.gli, 0, none⟩) (R * R) L.cli, .int .i64 R, .int .i64 C, .slice (some ⟨L.gd, 0, none⟩) (R * C) L.cd, .int .i64 C, .int .i64 C, .slice (some ⟨L.gr, 0, none⟩) (C * C) L.cr, .int .i64 C, .int .i64 C, .slice (some ⟨L.gri, 0, none⟩) (C * C) L.cri] (0, 0) _ (by exact X0.out) Try.underlying120 (by rfl) sizeR ?_))
  obtain ⟨W0, hW0⟩ : ∃ W0, W0 = (w.alloc (Obj.cells #[.int .i64 R, .int .i64 R, .slice (some ⟨L.gl, 0, none⟩) (R * R) L.cl, .int .i64 R, .int .i64 R, .slice (some ⟨L.gli, 0, none⟩) (R * R) L.cli, .int .i64 R, .int .i64 C, .slice (some ⟨L.gd, 0, none⟩) (R * C) L.cd, .int .i64 C, .int .i64 C, .slice (some ⟨L.gr, 0, none⟩) (C * C) L.cr, .int .i64 C, .int .i64 C, .slice (some ⟨L.gri, 0, none⟩) (C * C) L.cri] 120)) := ⟨_, rfl⟩
  have s0 : w.heap.size < W0.heap.size := by rw [hW0]; simp
  rw [← hW0] at X0 HB0 F0
  rw [← hW0]
  clear hW0
  refine (rowEx_impl L R C z _ (by omega) (by omega) hR hC (OK.out.more (by omega)) F0.out k p hk hp (Ne.symm HPK.out)).mono ?_
  rintro e w1 ⟨rfl, hf, hk1⟩
  have F1 := Lib.hid hf
  have X1 := Lib.hid (X0.out.kept hk1 (by omega))
  have K1 := Lib.hid (HB0.out.trans hk1)
  have s1 : w.heap.size < w1.heap.size := by have := hk1.size; omega
  clear hf hk1 X0 F0
  obtain ⟨b0, b1, b2⟩ := X1.out.box
  go_wp2_with fail
  refine (at_impl R C (some ⟨L.gd, 0, none⟩) (R * C) L.cd _ _ (F1.out.intsD (OK.out.more (by omega))) (by omega) k k _ (by rw [castM]; omega) (by rw [castM]; have := Nat.mul_le_mul_right C (show k ≤ R by omega); omega) (castI k C k) (ij_lt hk hkC)).mono ?_
  rintro e w9 ⟨rfl, hb9⟩
  rw [HPV.out]
  have F9 := Lib.hid (F1.out.below (OK.out.more (by omega)) hb9)
  have X9 := Lib.hid (X1.out.below hb9 (by omega))
  have K9 := Lib.hid (K1.out.trans (Kept.of_below hb9 _ _))
  have s9 : w.heap.size < w9.heap.size := by have := hb9.size; omega
  clear hb9 b0 b1 b2
  by_cases hpos : 0 < pv
  · go_wp2_with fail
    go_ret
    rw [placed_pos (by omega)]
    exact ⟨rfl, F9.out, K9.out⟩
  · go_wp2_with (first | (refine wpList_load_row (by rfl) 120 (.tmp 4) (by rfl) w.heap.size (by rfl) 120 #[.int .i64 R, .int .i64 R, .slice (some ⟨L.gl, 0, none⟩) (R * R) L.cl, .int .i64 R, .int .i64 R, .slice (some ⟨L.gli, 0, none⟩) (R * R) L.cli, .int .i64 R, .int .i64 C, .slice (some ⟨L.gd, 0, none⟩) (R * C) L.cd, .int .i64 C, .int .i64 C, .slice (some ⟨L.gr, 0, none⟩) (C * C) L.cr, .int .i64 C, .int .i64 C, .slice (some ⟨L.gri, 0, none⟩) (C * C) L.cri] (0, 0) _ (by exact X9.out) Try.underlying120 (by rfl) sizeR ?_) | (refine wp_load_row 120 (.tmp 4) (by rfl) w.heap.size (by rfl) 120 #[.int .i64 R, .int .i64 R, .slice (some ⟨L.gl, 0, none⟩) (R * R) L.cl, .int .i64 R, .int .i64 R, .slice (some ⟨L.gli, 0, none⟩) (R * R) L.cli, .int .i64 R, .int .i64 C, .slice (some ⟨L.gd, 0, none⟩) (R * C) L.cd, .int .i64 C, .int .i64 C, .slice (some ⟨L.gr, 0, none⟩) (C * C) L.cr, .int .i64 C, .int .i64 C, .slice (some ⟨L.gri, 0, none⟩) (C * C) L.cri] (0, 0) _ (by exact X9.out) Try.underlying120 (by rfl) sizeR ?_))
    refine (rowNeg_impl L R C _ _ (by omega) (by omega) hR hC (OK.out.more (by omega)) F9.out k G1.out hk).mono ?_
    rintro e w10 ⟨rfl, hf, hk10⟩
    have F10 := Lib.hid hf
    have K10 := Lib.hid (K9.out.trans hk10)
    clear hf hk10
    go_wp2_with fail
    go_ret
    rw [placed_neg (by have := HZ.out; omega)]
    exact ⟨rfl, F10.out, K10.out⟩

set_option maxRecDepth 100000 in
set_option maxHeartbeats 8000000 in
theorem place_dd (L : Lay) (R C k p q : Nat) (z : Sm.St) (w : World) (hR : R ≤ 48) (hC : C ≤ 48) (hk : k < R) (hkC : k < C) (hp : p < R) (hpk : p ≠ k) (hq : q < C) (hqk : q ≠ k) (ok : L.Ok w) (h : Five L R C w z) (g : Sm.Good R C z) (hz : Sm.ent C (Sm.colEx R C k q (Sm.rowEx R C k p z)).d k k ≠ 0) :
    Calls Try.prog 127 #[.agg #[.int .i64 R, .int .i64 R, .slice (some ⟨L.gl, 0, none⟩) (R * R) L.cl, .int .i64 R, .int .i64 R, .slice (some ⟨L.gli, 0, none⟩) (R * R) L.cli, .int .i64 R, .int .i64 C, .slice (some ⟨L.gd, 0, none⟩) (R * C) L.cd, .int .i64 C, .int .i64 C, .slice (some ⟨L.gr, 0, none⟩) (C * C) L.cr, .int .i64 C, .int .i64 C, .slice (some ⟨L.gri, 0, none⟩) (C * C) L.cri], .int .i64 k, .int .i64 p, .int .i64 q] w (FiveSays L R C (some (placed R C k (Sm.ent C (Sm.colEx R C k q (Sm.rowEx R C k p z)).d k k) (Sm.colEx R C k q (Sm.rowEx R C k p z)))) w) := by
  have p1 := rc_le hR hC
  have X0 := Lib.hid (Row.new w #[.int .i64 R, .int .i64 R, .slice (some ⟨L.gl, 0, none⟩) (R * R) L.cl, .int .i64 R, .int .i64 R, .slice (some ⟨L.gli, 0, none⟩) (R * R) L.cli, .int .i64 R, .int .i64 C, .slice (some ⟨L.gd, 0, none⟩) (R * C) L.cd, .int .i64 C, .int .i64 C, .slice (some ⟨L.gr, 0, none⟩) (C * C) L.cr, .int .i64 C, .int .i64 C, .slice (some ⟨L.gri, 0, none⟩) (C * C) L.cri] 120)
  have HB0 := Lib.hid (Kept.of_below (al1 w (Obj.cells #[.int .i64 R, .int .i64 R, .slice (some ⟨L.gl, 0, none⟩) (R * R) L.cl, .int .i64 R, .int .i64 R, .slice (some ⟨L.gli, 0, none⟩) (R * R) L.cli, .int .i64 R, .int .i64 C, .slice (some ⟨L.gd, 0, none⟩) (R * C) L.cd, .int .i64 C, .int .i64 C, .slice (some ⟨L.gr, 0, none⟩) (C * C) L.cr, .int .i64 C, .int .i64 C, .slice (some ⟨L.gri, 0, none⟩) (C * C) L.cri] 120)) L.b0 L.b5)
  have F0 := Lib.hid (h.below ok (al1 w (Obj.cells #[.int .i64 R, .int .i64 R, .slice (some ⟨L.gl, 0, none⟩) (R * R) L.cl, .int .i64 R, .int .i64 R, .slice (some ⟨L.gli, 0, none⟩) (R * R) L.cli, .int .i64 R, .int .i64 C, .slice (some ⟨L.gd, 0, none⟩) (R * C) L.cd, .int .i64 C, .int .i64 C, .slice (some ⟨L.gr, 0, none⟩) (C * C) L.cr, .int .i64 C, .int .i64 C, .slice (some ⟨L.gri, 0, none⟩) (C * C) L.cri] 120)))
  have OK := Lib.hid ok
  have i5 := ok.i5
  have G0 := Lib.hid g
  have G1 := Lib.hid (g.rowEx (a := k) (b := p))
  have G2 := Lib.hid ((G1.out).colEx (a := k) (b := q))
  obtain ⟨pv, hpv⟩ : ∃ pv, (Sm.colEx R C k q (Sm.rowEx R C k p z)).d.getD (k * C + k) 0 = pv := ⟨_, rfl⟩
  have hpe : Sm.ent C (Sm.colEx R C k q (Sm.rowEx R C k p z)).d k k = pv := hpv
  rw [hpe] at hz ⊢
  have hpb := G2.out.wd (k * C + k)
  rw [hpv] at hpb
  obtain ⟨hpb0, hpb1⟩ := hpb
  have HPV := Lib.hid hpv
  have t1 : ((p : Int) != (k : Int)) = true := by simp; omega
  have t3 : ((q : Int) != (k : Int)) = true := by simp; omega
  have HPK := Lib.hid hpk
  have HQK := Lib.hid hqk
  have HZ := Lib.hid hz
  clear h ok g hpv hpe hz hpk hqk
  go_enter Try.func127, Try.ntmps127
  go_wp2_with (first | (refine wpList_load_row (by rfl) 120 (.tmp 4) (by rfl) w.heap.size (by rfl) 120 #[.int .i64 R, .int .i64 R, .slice (some ⟨L.gl, 0, none⟩) (R * R) L.cl, .int .i64 R, .int .i64 R, .slice (some ⟨L.gli, 0, none⟩) (R * R) L.cli, .int .i64 R, .int .i64 C, .slice (some ⟨L.gd, 0, none⟩) (R * C) L.cd, .int .i64 C, .int .i64 C, .slice (some ⟨L.gr, 0, none⟩) (C * C) L.cr, .int .i64 C, .int .i64 C, .slice (some ⟨L.gri, 0, none⟩) (C * C) L.cri] (0, 0) _ (by exact X0.out) Try.underlying120 (by rfl) sizeR ?_) | (refine wp_load_row 120 (.tmp 4) (by rfl) w.heap.size (by rfl) 120 #[.int .i64 R, .int .i64 R, .slice (some ⟨L.gl, 0, none⟩) (R * R) L.cl, .int .i64 R, .int .i64 R, .slice (some ⟨L.gli, 0, none⟩) (R * R) L.cli, .int .i64 R, .int .i64 C, .slice (some ⟨L.gd, 0, none⟩) (R * C) L.cd, .int .i64 C, .int .i64 C, .slice (some ⟨L.gr, 0, none⟩) (C * C) L.cr, .int .i64 C, .int .i64 C, .slice (some ⟨L.gri, 0, none⟩) (C * C) L.cri] (0, 0) _ (by exact X0.out) Try.underlying120 (by rfl) sizeR ?_))
  obtain ⟨W0, hW0⟩ : ∃ W0, W0 = (w.alloc (Obj.cells #[.int .i64 R, .int .i64 R, .slice (some ⟨L.gl, 0, none⟩) (R * R) L.cl, .int .i64 R, .int .i64 R, .slice (some ⟨L.gli, 0, none⟩) (R * R) L.cli, .int .i64 R, .int .i64 C, .slice (some ⟨L.gd, 0, none⟩) (R * C) L.cd, .int .i64 C, .int .i64 C, .slice (some ⟨L.gr, 0, none⟩) (C * C) L.cr, .int .i64 C, .int .i64 C, .slice (some ⟨L.gri, 0, none⟩) (C * C) L.cri] 120)) := ⟨_, rfl⟩
  have s0 : w.heap.size < W0.heap.size := by rw [hW0]; simp
  rw [← hW0] at X0 HB0 F0
  rw [← hW0]
  clear hW0
  refine (rowEx_impl L R C z _ (by omega) (by omega) hR hC (OK.out.more (by omega)) F0.out k p hk hp (Ne.symm HPK.out)).mono ?_
  rintro e w1 ⟨rfl, hf, hk1⟩
  have F1 := Lib.hid hf
  have X1 := Lib.hid (X0.out.kept hk1 (by omega))
  have K1 := Lib.hid (HB0.out.trans hk1)
  have s1 : w.heap.size < w1.heap.size := by have := hk1.size; omega
  clear hf hk1 X0 F0
  obtain ⟨y0, y1, y2, y3, y4, y5, y6, y7, y8, y9, y10, y11, y12, y13, y14⟩ := X1.out.box15
  go_wp2_with fail
  refine (colEx_impl L R C (Sm.rowEx R C k p z) _ (by omega) (by omega) hR hC (OK.out.more (by omega)) F1.out k q hkC hq (Ne.symm HQK.out)).mono ?_
  rintro e w2 ⟨rfl, hf, hk2⟩
  have F2 := Lib.hid hf
  have X2 := Lib.hid (X1.out.kept hk2 (by omega))
  have K2 := Lib.hid (K1.out.trans hk2)
  have s2 : w.heap.size < w2.heap.size := by have := hk2.size; omega
  clear hf hk2 X1 F1 y0 y1 y2 y3 y4 y5 y6 y7 y8 y9 y10 y11 y12 y13 y14
  obtain ⟨b0, b1, b2⟩ := X2.out.box
  go_wp2_with fail
  refine (at_impl R C (some ⟨L.gd, 0, none⟩) (R * C) L.cd _ _ (F2.out.intsD (OK.out.more (by omega))) (by omega) k k _ (by rw [castM]; omega) (by rw [castM]; have := Nat.mul_le_mul_right C (show k ≤ R by omega); omega) (castI k C k) (ij_lt hk hkC)).mono ?_
  rintro e w9 ⟨rfl, hb9⟩
  rw [HPV.out]
  have F9 := Lib.hid (F2.out.below (OK.out.more (by omega)) hb9)
  have X9 := Lib.hid (X2.out.below hb9 (by omega))
  have K9 := Lib.hid (K2.out.trans (Kept.of_below hb9 _ _))
  have s9 : w.heap.size < w9.heap.size := by have := hb9.size; omega
  clear hb9 b0 b1 b2
  by_cases hpos : 0 < pv
  · go_wp2_with fail
    go_ret
    rw [placed_pos (by omega)]
    exact ⟨rfl, F9.out, K9.out⟩
  · go_wp2_with (first | (refine wpList_load_row (by rfl) 120 (.tmp 4) (by rfl) w.heap.size (by rfl) 120 #[.int .i64 R, .int .i64 R, .slice (some ⟨L.gl, 0, none⟩) (R * R) L.cl, .int .i64 R, .int .i64 R, .slice (some ⟨L.gli, 0, none⟩) (R * R) L.cli, .int .i64 R, .int .i64 C, .slice (some ⟨L.gd, 0, none⟩) (R * C) L.cd, .int .i64 C, .int .i64 C, .slice (some ⟨L.gr, 0, none⟩) (C * C) L.cr, .int .i64 C, .int .i64 C, .slice (some ⟨L.gri, 0, none⟩) (C * C) L.cri] (0, 0) _ (by exact X9.out) Try.underlying120 (by rfl) sizeR ?_) | (refine wp_load_row 120 (.tmp 4) (by rfl) w.heap.size (by rfl) 120 #[.int .i64 R, .int .i64 R, .slice (some ⟨L.gl, 0, none⟩) (R * R) L.cl, .int .i64 R, .int .i64 R, .slice (some ⟨L.gli, 0, none⟩) (R * R) L.cli, .int .i64 R, .int .i64 C, .slice (some ⟨L.gd, 0, none⟩) (R * C) L.cd, .int .i64 C, .int .i64 C, .slice (some ⟨L.gr, 0, none⟩) (C * C) L.cr, .int .i64 C, .int .i64 C, .slice (some ⟨L.gri, 0, none⟩) (C * C) L.cri] (0, 0) _ (by exact X9.out) Try.underlying120 (by rfl) sizeR ?_))
    refine (rowNeg_impl L R C _ _ (by omega) (by omega) hR hC (OK.out.more (by omega)) F9.out k G2.out hk).mono ?_
    rintro e w10 ⟨rfl, hf, hk10⟩
    have F10 := Lib.hid hf
    have K10 := Lib.hid (K9.out.trans hk10)
    clear hf hk10
    go_wp2_with fail
    go_ret
    rw [placed_neg (by have := HZ.out; omega)]
    exact ⟨rfl, F10.out, K10.out⟩

theorem place_impl (L : Lay) (R C k p q : Nat) (z : Sm.St) (w : World) (hR : R ≤ 48) (hC : C ≤ 48) (hk : k < R) (hkC : k < C) (hp : p < R) (hq : q < C) (ok : L.Ok w) (h : Five L R C w z) (g : Sm.Good R C z) (hz : Sm.ent C z.d p q ≠ 0) :
    Calls Try.prog 127 #[.agg #[.int .i64 R, .int .i64 R, .slice (some ⟨L.gl, 0, none⟩) (R * R) L.cl, .int .i64 R, .int .i64 R, .slice (some ⟨L.gli, 0, none⟩) (R * R) L.cli, .int .i64 R, .int .i64 C, .slice (some ⟨L.gd, 0, none⟩) (R * C) L.cd, .int .i64 C, .int .i64 C, .slice (some ⟨L.gr, 0, none⟩) (C * C) L.cr, .int .i64 C, .int .i64 C, .slice (some ⟨L.gri, 0, none⟩) (C * C) L.cri], .int .i64 k, .int .i64 p, .int .i64 q] w (FiveSays L R C (some (Sm.place R C k p q z)) w) := by
  have he := Sm.swapped_piv g hk hkC hp hq
  unfold Sm.place
  unfold Sm.swapped at he ⊢
  by_cases e1 : p = k
  · subst e1
    have e3 : Sm.rowEx R C p p z = z := by unfold Sm.rowEx; simp [Sm.exch_self]
    rw [e3] at he ⊢
    by_cases e2 : q = p
    · subst e2
      have e4 : Sm.colEx R C q q z = z := by unfold Sm.colEx; simp [Sm.exch_self]
      rw [e4] at he ⊢
      exact place_ss L R C q z w hR hC hk hkC ok h g hz
    · exact place_sd L R C p q z w hR hC hk hkC hq e2 ok h g (by rw [he]; exact hz)
  · by_cases e2 : q = k
    · subst e2
      have e4 : Sm.colEx R C q q (Sm.rowEx R C q p z) = Sm.rowEx R C q p z := by unfold Sm.colEx; simp [Sm.exch_self]
      rw [e4] at he ⊢
      exact place_ds L R C q p z w hR hC hk hkC hp e1 ok h g (by rw [he]; exact hz)
    · exact place_dd L R C k p q z w hR hC hk hkC hp e1 hq e2 ok h g (by rw [he]; exact hz)

end Go.Proofs.Ytpojkahlllochaa
