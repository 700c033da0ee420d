/- Contracts of the steps on a work, the specification's. No condition but those that each theorem names. -/
import Derived.Test.YtpojkahlllochaaTsB
namespace Go.Proofs.Ytpojkahlllochaa
open Go.RowKit

/-- Where a work lies beside its five matrices, all of it from a0 on and ahead of a3. -/
structure Pos (L : Lay) (gw a0 a3 : Nat) : Prop where
  bd : (a0 ≤ gw ∧ gw < a3) ∧ (a0 ≤ L.gd ∧ L.gd < a3) ∧ (a0 ≤ L.gl ∧ L.gl < a3) ∧ (a0 ≤ L.gli ∧ L.gli < a3) ∧ (a0 ≤ L.gr ∧ L.gr < a3) ∧ (a0 ≤ L.gri ∧ L.gri < a3)
  n_d_l : ¬ L.gd = L.gl
  n_d_li : ¬ L.gd = L.gli
  n_d_r : ¬ L.gd = L.gr
  n_d_ri : ¬ L.gd = L.gri
  n_l_li : ¬ L.gl = L.gli
  n_l_r : ¬ L.gl = L.gr
  n_l_ri : ¬ L.gl = L.gri
  n_li_r : ¬ L.gli = L.gr
  n_li_ri : ¬ L.gli = L.gri
  n_r_ri : ¬ L.gr = L.gri
  w_d : ¬ gw = L.gd
  w_l : ¬ gw = L.gl
  w_li : ¬ gw = L.gli
  w_r : ¬ gw = L.gr
  w_ri : ¬ gw = L.gri
/-- The five matrices of a work, each in a block of its own. -/
structure Five2 (L : Lay) (R C : Nat) (w : World) (s : Sm.St) : Prop where
  d : Own w L.gd (L.gd + 1) (some ⟨L.gd, 0, none⟩) (R * C) L.cd s.d
  l : Own w L.gl (L.gl + 1) (some ⟨L.gl, 0, none⟩) (R * R) L.cl s.l
  li : Own w L.gli (L.gli + 1) (some ⟨L.gli, 0, none⟩) (R * R) L.cli s.li
  r : Own w L.gr (L.gr + 1) (some ⟨L.gr, 0, none⟩) (C * C) L.cr s.r
  ri : Own w L.gri (L.gri + 1) (some ⟨L.gri, 0, none⟩) (C * C) L.cri s.ri
/-- A work that holds the state s and no mark. -/
structure Work (L : Lay) (R C gw : Nat) (w : World) (s : Sm.St) : Prop where
  five : Five2 L R C w s
  row : Row w gw #[.int .i64 R, .int .i64 C, .slice (some ⟨L.gd, 0, none⟩) (R * C) L.cd, .int .i64 R, .int .i64 R, .slice (some ⟨L.gl, 0, none⟩) (R * R) L.cl, .int .i64 R, .int .i64 R, .slice (some ⟨L.gli, 0, none⟩) (R * R) L.cli, .int .i64 C, .int .i64 C, .slice (some ⟨L.gr, 0, none⟩) (C * C) L.cr, .int .i64 C, .int .i64 C, .slice (some ⟨L.gri, 0, none⟩) (C * C) L.cri, .bool false] 132
/-- A work that holds the mark. -/
def Marked (L : Lay) (R C gw : Nat) (w : World) : Prop := Row w gw #[.int .i64 R, .int .i64 C, .slice (some ⟨L.gd, 0, none⟩) (R * C) L.cd, .int .i64 R, .int .i64 R, .slice (some ⟨L.gl, 0, none⟩) (R * R) L.cl, .int .i64 R, .int .i64 R, .slice (some ⟨L.gli, 0, none⟩) (R * R) L.cli, .int .i64 C, .int .i64 C, .slice (some ⟨L.gr, 0, none⟩) (C * C) L.cr, .int .i64 C, .int .i64 C, .slice (some ⟨L.gri, 0, none⟩) (C * C) L.cri, .bool true] 132
theorem Row.box16 {w : World} {g : Nat} {x0 x1 x2 x3 x4 x5 x6 x7 x8 x9 x10 x11 x12 x13 x14 x15 : Value} {t : TypeId} (h : Row w g #[x0, x1, x2, x3, x4, x5, x6, x7, x8, x9, x10, x11, x12, x13, x14, x15] t) : w.cell? ⟨g, 0, none⟩ = some x0 ∧ w.cell? ⟨g, 1, none⟩ = some x1 ∧ w.cell? ⟨g, 2, none⟩ = some x2 ∧ w.cell? ⟨g, 3, none⟩ = some x3 ∧ w.cell? ⟨g, 4, none⟩ = some x4 ∧ w.cell? ⟨g, 5, none⟩ = some x5 ∧ w.cell? ⟨g, 6, none⟩ = some x6 ∧ w.cell? ⟨g, 7, none⟩ = some x7 ∧ w.cell? ⟨g, 8, none⟩ = some x8 ∧ w.cell? ⟨g, 9, none⟩ = some x9 ∧ w.cell? ⟨g, 10, none⟩ = some x10 ∧ w.cell? ⟨g, 11, none⟩ = some x11 ∧ w.cell? ⟨g, 12, none⟩ = some x12 ∧ w.cell? ⟨g, 13, none⟩ = some x13 ∧ w.cell? ⟨g, 14, none⟩ = some x14 ∧ w.cell? ⟨g, 15, none⟩ = some x15 :=
  ⟨cell_of_row w g 0 _ t (0, 0) h, cell_of_row w g 1 _ t (0, 0) h, cell_of_row w g 2 _ t (0, 0) h, cell_of_row w g 3 _ t (0, 0) h, cell_of_row w g 4 _ t (0, 0) h, cell_of_row w g 5 _ t (0, 0) h, cell_of_row w g 6 _ t (0, 0) h, cell_of_row w g 7 _ t (0, 0) h, cell_of_row w g 8 _ t (0, 0) h, cell_of_row w g 9 _ t (0, 0) h, cell_of_row w g 10 _ t (0, 0) h, cell_of_row w g 11 _ t (0, 0) h, cell_of_row w g 12 _ t (0, 0) h, cell_of_row w g 13 _ t (0, 0) h, cell_of_row w g 14 _ t (0, 0) h, cell_of_row w g 15 _ t (0, 0) h⟩
theorem Work.kept {L : Lay} {R C gw a0 a3 lo hi : Nat} {w w' : World} {s : Sm.St} (h : Work L R C gw w s) (hp : Pos L gw a0 a3) (hs : a3 ≤ w.heap.size) (hk : Kept lo hi w w') (hd : a3 ≤ lo ∨ hi ≤ a0) : Work L R C gw w' s := by
  have hbd := hp.bd
  exact ⟨⟨h.five.d.kept hk (by omega) (by omega), h.five.l.kept hk (by omega) (by omega), h.five.li.kept hk (by omega) (by omega), h.five.r.kept hk (by omega) (by omega), h.five.ri.kept hk (by omega) (by omega)⟩, h.row.kept hk (by omega)⟩
theorem Work.below {L : Lay} {R C gw a0 a3 : Nat} {w w' : World} {s : Sm.St} (h : Work L R C gw w s) (hp : Pos L gw a0 a3) (hs : a3 ≤ w.heap.size) (hb : Below w.heap.size w w') : Work L R C gw w' s := by
  have hbd := hp.bd
  exact ⟨⟨h.five.d.below hb (by omega), h.five.l.below hb (by omega), h.five.li.below hb (by omega), h.five.r.below hb (by omega), h.five.ri.below hb (by omega)⟩, h.row.below hb h.row.lt⟩
/-- What a step on a work answers. -/
def WorkOut (L : Lay) (R C gw a0 a3 : Nat) (o : Option Sm.St) (w : World) (e : Ending) (w' : World) : Prop :=
  e = .returned (.tuple #[]) ∧ Kept a0 a3 w w' ∧ match o with
  | some s => Work L R C gw w' s
  | none => Marked L R C gw w'

set_option maxHeartbeats 2000000 in
theorem rows_bad (gw : Nat) (R C : Nat) (i k q : Int) (A : Option Addr) (n c : Nat) (cs : Array Value) (w : World) (hr : Row w gw cs 132) (hbad : cs[15]? = some (.bool true)) :
    Calls Try.prog 151 #[.pointer (some ⟨gw, 0, none⟩), .agg #[.int .i64 R, .int .i64 C, .slice A n c], .int .i64 i, .int .i64 k, .int .i64 q] w fun e w' => e = .returned (.tuple #[]) ∧ Below w.heap.size w w' := by
  have hc := cell_of_row w gw 15 cs _ (0, 0) hr
  have hlt := hr.lt
  rw [hbad] at hc
  clear hr hbad
  by_cases h0 : 0 < C
  all_goals
    go_enter Try.func151, Try.ntmps151
    go_wp2
    refine wp_loop_rounds 1 ?_
    rw [rounds_succ]
    go_wp2
    go_end0
    exact ⟨rfl, al1 _ _⟩

set_option maxHeartbeats 2000000 in
theorem cols_bad (gw : Nat) (R C : Nat) (i k q : Int) (A : Option Addr) (n c : Nat) (cs : Array Value) (w : World) (hr : Row w gw cs 132) (hbad : cs[15]? = some (.bool true)) :
    Calls Try.prog 152 #[.pointer (some ⟨gw, 0, none⟩), .agg #[.int .i64 R, .int .i64 C, .slice A n c], .int .i64 i, .int .i64 k, .int .i64 q] w fun e w' => e = .returned (.tuple #[]) ∧ Below w.heap.size w w' := by
  have hc := cell_of_row w gw 15 cs _ (0, 0) hr
  have hlt := hr.lt
  rw [hbad] at hc
  clear hr hbad
  by_cases h0 : 0 < R
  all_goals
    go_enter Try.func152, Try.ntmps152
    go_wp2
    refine wp_loop_rounds 1 ?_
    rw [rounds_succ]
    go_wp2
    go_end0
    exact ⟨rfl, al1 _ _⟩

set_option maxRecDepth 100000 in
set_option maxHeartbeats 8000000 in
theorem row_work (L : Lay) (R C gw a0 a3 i k : Nat) (q : Int) (s : Sm.St) (w : World) (hR : R ≤ 48) (hC : C ≤ 48) (hi : i < R) (hk : k < R) (hp : Pos L gw a0 a3) (hs : a3 ≤ w.heap.size) (h : Work L R C gw w s) (g : Sm.Good R C s) (hq : -4000000000000 ≤ q ∧ q ≤ 4000000000000) :
    Calls Try.prog 136 #[.pointer (some ⟨gw, 0, none⟩), .int .i64 i, .int .i64 k, .int .i64 q] w (WorkOut L R C gw a0 a3 (Sm.rowSub R C i k q s) w) := by
  have hbd := hp.bd
  have HPS := Lib.hid hp
  clear hp
  by_cases hz : q = 0
  · subst hz
    rw [Sm.rowSub, if_pos rfl]
    have H := Lib.hid h
    clear h
    go_enter Try.func136, Try.ntmps136
    go_wp2
    go_end0
    exact ⟨rfl, Kept.refl _ _ _, H.out⟩
  have t1 : (q != 0) = true := by simpa using hz
  have t2 : (q == 0) = false := by simpa using hz
  have SB := Lib.hid (show Sm.rowSub R C i k q s = rowOut (Sm.subl (i * C) (k * C) 1 q s.d C) (Sm.subl (i * R) (k * R) 1 q s.l R) (Sm.subl k i R (-q) s.li R) s by rw [Sm.rowSub, if_neg hz]; rfl)
  rw [SB.out]
  have Hl0 := Lib.hid h.five.l
  have Hli0 := Lib.hid h.five.li
  have Hd0 := Lib.hid h.five.d
  have Hr0 := Lib.hid h.five.r
  have Hri0 := Lib.hid h.five.ri
  have R0 := Lib.hid h.row
  have G := Lib.hid g
  have HQ := Lib.hid hq
  have HQ2 := Lib.hid (show -4000000000000 ≤ -q ∧ -q ≤ 4000000000000 by omega)
  clear h g hz SB
  obtain ⟨q0, q1⟩ := hq
  obtain ⟨y0, y1, y2, y3, y4, y5, y6, y7, y8, y9, y10, y11, y12, y13, y14, y15⟩ := R0.out.box16
  go_enter Try.func136, Try.ntmps136
  go_wp2_with fail
  refine (rows_spec a0 a3 gw R C i k q _ _ L.cd s.d L.gd (L.gd + 1) #[.int .i64 R, .int .i64 C, .slice (some ⟨L.gd, 0, none⟩) (R * C) L.cd, .int .i64 R, .int .i64 R, .slice (some ⟨L.gl, 0, none⟩) (R * R) L.cl, .int .i64 R, .int .i64 R, .slice (some ⟨L.gli, 0, none⟩) (R * R) L.cli, .int .i64 C, .int .i64 C, .slice (some ⟨L.gr, 0, none⟩) (C * C) L.cr, .int .i64 C, .int .i64 C, .slice (some ⟨L.gri, 0, none⟩) (C * C) L.cri, .bool false] _ Hd0.out R0.out rfl rfl (by omega) (by omega) (by omega) (by omega) (by omega) (by have := HPS.out.w_d; omega) rfl (by omega) (by omega) hi hk HQ.out G.out.wd).mono ?_
  rintro e w1 ⟨rfl, hq0⟩
  cases e0 : Sm.subl (i * C) (k * C) 1 q s.d C with
  | none =>
    rw [e0] at hq0
    obtain ⟨hrow, hk9⟩ := hq0
    have MK := Lib.hid (show Row w1 gw #[.int .i64 R, .int .i64 C, .slice (some ⟨L.gd, 0, none⟩) (R * C) L.cd, .int .i64 R, .int .i64 R, .slice (some ⟨L.gl, 0, none⟩) (R * R) L.cl, .int .i64 R, .int .i64 R, .slice (some ⟨L.gli, 0, none⟩) (R * R) L.cli, .int .i64 C, .int .i64 C, .slice (some ⟨L.gr, 0, none⟩) (C * C) L.cr, .int .i64 C, .int .i64 C, .slice (some ⟨L.gri, 0, none⟩) (C * C) L.cri, .bool true] 132 from hrow)
    have KK := Lib.hid hk9
    have m1 : w.heap.size ≤ w1.heap.size := hk9.size
    have EN := Lib.hid e0
    clear hrow hk9 y0 y1 y2 y3 y4 y5 y6 y7 y8 y9 y10 y11 y12 y13 y14 y15 e0
    obtain ⟨y0, y1, y2, y3, y4, y5, y6, y7, y8, y9, y10, y11, y12, y13, y14, y15⟩ := MK.out.box16
    go_wp2_with fail
    refine (rows_bad gw R R _ _ _ _ _ _ _ _ MK.out rfl).mono ?_
    rintro e wb1 ⟨rfl, hb⟩
    have MK1 := Lib.hid (MK.out.below hb (by omega))
    have KK1 := Lib.hid (KK.out.trans (Kept.of_below hb _ _))
    have m2 : w1.heap.size ≤ wb1.heap.size := hb.size
    clear hb y0 y1 y2 y3 y4 y5 y6 y7 y8 y9 y10 y11 y12 y13 y14 y15 MK KK
    have MK := MK1
    have KK := KK1
    clear MK1 KK1
    obtain ⟨y0, y1, y2, y3, y4, y5, y6, y7, y8, y9, y10, y11, y12, y13, y14, y15⟩ := MK.out.box16
    go_wp2_with fail
    refine (cols_bad gw R R _ _ _ _ _ _ _ _ MK.out rfl).mono ?_
    rintro e wb2 ⟨rfl, hb⟩
    have MK2 := Lib.hid (MK.out.below hb (by omega))
    have KK2 := Lib.hid (KK.out.trans (Kept.of_below hb _ _))
    have m3 : wb1.heap.size ≤ wb2.heap.size := hb.size
    clear hb y0 y1 y2 y3 y4 y5 y6 y7 y8 y9 y10 y11 y12 y13 y14 y15 MK KK
    have MK := MK2
    have KK := KK2
    clear MK2 KK2
    go_wp2
    go_end0
    refine ⟨rfl, KK.out, ?_⟩
    rw [EN.out, rowOut_none (by simp)]
    exact MK.out
  | some vd =>
  rw [e0] at hq0
  obtain ⟨hown, hk9⟩ := hq0
  have E0 := Lib.hid e0
  have K1 := Lib.hid ((hk9.wide (by omega) (by omega) : Kept a0 a3 _ _))
  have Hl1 := Lib.hid (Hl0.out.kept hk9 (by omega) (by have := HPS.out.n_d_l; omega))
  clear Hl0
  have Hli1 := Lib.hid (Hli0.out.kept hk9 (by omega) (by have := HPS.out.n_d_li; omega))
  clear Hli0
  have Hd1 := Lib.hid hown
  clear Hd0
  have Hr1 := Lib.hid (Hr0.out.kept hk9 (by omega) (by have := HPS.out.n_d_r; omega))
  clear Hr0
  have Hri1 := Lib.hid (Hri0.out.kept hk9 (by omega) (by have := HPS.out.n_d_ri; omega))
  clear Hri0
  have R1 := Lib.hid (R0.out.kept hk9 (by have := HPS.out.w_d; omega))
  have u1 : w.heap.size ≤ w1.heap.size := hk9.size
  clear hown hk9 y0 y1 y2 y3 y4 y5 y6 y7 y8 y9 y10 y11 y12 y13 y14 y15 e0 R0
  obtain ⟨y0, y1, y2, y3, y4, y5, y6, y7, y8, y9, y10, y11, y12, y13, y14, y15⟩ := R1.out.box16
  go_wp2_with fail
  refine (rows_spec a0 a3 gw R R i k q _ _ L.cl s.l L.gl (L.gl + 1) #[.int .i64 R, .int .i64 C, .slice (some ⟨L.gd, 0, none⟩) (R * C) L.cd, .int .i64 R, .int .i64 R, .slice (some ⟨L.gl, 0, none⟩) (R * R) L.cl, .int .i64 R, .int .i64 R, .slice (some ⟨L.gli, 0, none⟩) (R * R) L.cli, .int .i64 C, .int .i64 C, .slice (some ⟨L.gr, 0, none⟩) (C * C) L.cr, .int .i64 C, .int .i64 C, .slice (some ⟨L.gri, 0, none⟩) (C * C) L.cri, .bool false] _ Hl1.out R1.out rfl rfl (by omega) (by omega) (by omega) (by omega) (by omega) (by have := HPS.out.w_l; omega) rfl (by omega) (by omega) hi hk HQ.out G.out.wl).mono ?_
  rintro e w2 ⟨rfl, hq1⟩
  cases e1 : Sm.subl (i * R) (k * R) 1 q s.l R with
  | none =>
    rw [e1] at hq1
    obtain ⟨hrow, hk9⟩ := hq1
    have MK := Lib.hid (show Row w2 gw #[.int .i64 R, .int .i64 C, .slice (some ⟨L.gd, 0, none⟩) (R * C) L.cd, .int .i64 R, .int .i64 R, .slice (some ⟨L.gl, 0, none⟩) (R * R) L.cl, .int .i64 R, .int .i64 R, .slice (some ⟨L.gli, 0, none⟩) (R * R) L.cli, .int .i64 C, .int .i64 C, .slice (some ⟨L.gr, 0, none⟩) (C * C) L.cr, .int .i64 C, .int .i64 C, .slice (some ⟨L.gri, 0, none⟩) (C * C) L.cri, .bool true] 132 from hrow)
    have KK := Lib.hid (K1.out.trans hk9)
    have m1 : w1.heap.size ≤ w2.heap.size := hk9.size
    have EN := Lib.hid e1
    clear hrow hk9 y0 y1 y2 y3 y4 y5 y6 y7 y8 y9 y10 y11 y12 y13 y14 y15 e1
    obtain ⟨y0, y1, y2, y3, y4, y5, y6, y7, y8, y9, y10, y11, y12, y13, y14, y15⟩ := MK.out.box16
    go_wp2_with fail
    refine (cols_bad gw R R _ _ _ _ _ _ _ _ MK.out rfl).mono ?_
    rintro e wb2 ⟨rfl, hb⟩
    have MK2 := Lib.hid (MK.out.below hb (by omega))
    have KK2 := Lib.hid (KK.out.trans (Kept.of_below hb _ _))
    have m3 : w2.heap.size ≤ wb2.heap.size := hb.size
    clear hb y0 y1 y2 y3 y4 y5 y6 y7 y8 y9 y10 y11 y12 y13 y14 y15 MK KK
    have MK := MK2
    have KK := KK2
    clear MK2 KK2
    go_wp2
    go_end0
    refine ⟨rfl, KK.out, ?_⟩
    rw [EN.out, rowOut_none (by simp)]
    exact MK.out
  | some vl =>
  rw [e1] at hq1
  obtain ⟨hown, hk9⟩ := hq1
  have E1 := Lib.hid e1
  have K2 := Lib.hid (K1.out.trans (hk9.wide (by omega) (by omega) : Kept a0 a3 _ _))
  have Hl2 := Lib.hid hown
  clear Hl1
  have Hli2 := Lib.hid (Hli1.out.kept hk9 (by omega) (by have := HPS.out.n_l_li; omega))
  clear Hli1
  have Hd2 := Lib.hid (Hd1.out.kept hk9 (by omega) (by have := HPS.out.n_d_l; omega))
  clear Hd1
  have Hr2 := Lib.hid (Hr1.out.kept hk9 (by omega) (by have := HPS.out.n_l_r; omega))
  clear Hr1
  have Hri2 := Lib.hid (Hri1.out.kept hk9 (by omega) (by have := HPS.out.n_l_ri; omega))
  clear Hri1
  have R2 := Lib.hid (R1.out.kept hk9 (by have := HPS.out.w_l; omega))
  have u2 : w1.heap.size ≤ w2.heap.size := hk9.size
  clear hown hk9 y0 y1 y2 y3 y4 y5 y6 y7 y8 y9 y10 y11 y12 y13 y14 y15 e1 R1
  obtain ⟨y0, y1, y2, y3, y4, y5, y6, y7, y8, y9, y10, y11, y12, y13, y14, y15⟩ := R2.out.box16
  go_wp2_with fail
  refine (cols_spec a0 a3 gw R R k i (-q) _ _ L.cli s.li L.gli (L.gli + 1) #[.int .i64 R, .int .i64 C, .slice (some ⟨L.gd, 0, none⟩) (R * C) L.cd, .int .i64 R, .int .i64 R, .slice (some ⟨L.gl, 0, none⟩) (R * R) L.cl, .int .i64 R, .int .i64 R, .slice (some ⟨L.gli, 0, none⟩) (R * R) L.cli, .int .i64 C, .int .i64 C, .slice (some ⟨L.gr, 0, none⟩) (C * C) L.cr, .int .i64 C, .int .i64 C, .slice (some ⟨L.gri, 0, none⟩) (C * C) L.cri, .bool false] _ Hli2.out R2.out rfl rfl (by omega) (by omega) (by omega) (by omega) (by omega) (by have := HPS.out.w_li; omega) rfl (by omega) (by omega) hk hi HQ2.out G.out.wli).mono ?_
  rintro e w3 ⟨rfl, hq2⟩
  cases e2 : Sm.subl k i R (-q) s.li R with
  | none =>
    rw [e2] at hq2
    obtain ⟨hrow, hk9⟩ := hq2
    have MK := Lib.hid (show Row w3 gw #[.int .i64 R, .int .i64 C, .slice (some ⟨L.gd, 0, none⟩) (R * C) L.cd, .int .i64 R, .int .i64 R, .slice (some ⟨L.gl, 0, none⟩) (R * R) L.cl, .int .i64 R, .int .i64 R, .slice (some ⟨L.gli, 0, none⟩) (R * R) L.cli, .int .i64 C, .int .i64 C, .slice (some ⟨L.gr, 0, none⟩) (C * C) L.cr, .int .i64 C, .int .i64 C, .slice (some ⟨L.gri, 0, none⟩) (C * C) L.cri, .bool true] 132 from hrow)
    have KK := Lib.hid (K2.out.trans hk9)
    have m1 : w2.heap.size ≤ w3.heap.size := hk9.size
    have EN := Lib.hid e2
    clear hrow hk9 y0 y1 y2 y3 y4 y5 y6 y7 y8 y9 y10 y11 y12 y13 y14 y15 e2
    go_wp2
    go_end0
    refine ⟨rfl, KK.out, ?_⟩
    rw [EN.out, rowOut_none (by simp)]
    exact MK.out
  | some vli =>
  rw [e2] at hq2
  obtain ⟨hown, hk9⟩ := hq2
  have E2 := Lib.hid e2
  have K3 := Lib.hid (K2.out.trans (hk9.wide (by omega) (by omega) : Kept a0 a3 _ _))
  have Hl3 := Lib.hid (Hl2.out.kept hk9 (by omega) (by have := HPS.out.n_l_li; omega))
  clear Hl2
  have Hli3 := Lib.hid hown
  clear Hli2
  have Hd3 := Lib.hid (Hd2.out.kept hk9 (by omega) (by have := HPS.out.n_d_li; omega))
  clear Hd2
  have Hr3 := Lib.hid (Hr2.out.kept hk9 (by omega) (by have := HPS.out.n_li_r; omega))
  clear Hr2
  have Hri3 := Lib.hid (Hri2.out.kept hk9 (by omega) (by have := HPS.out.n_li_ri; omega))
  clear Hri2
  have R3 := Lib.hid (R2.out.kept hk9 (by have := HPS.out.w_li; omega))
  have u3 : w2.heap.size ≤ w3.heap.size := hk9.size
  clear hown hk9 y0 y1 y2 y3 y4 y5 y6 y7 y8 y9 y10 y11 y12 y13 y14 y15 e2 R2
  obtain ⟨y0, y1, y2, y3, y4, y5, y6, y7, y8, y9, y10, y11, y12, y13, y14, y15⟩ := R3.out.box16
  go_wp2
  go_end0
  refine ⟨rfl, K3.out, ?_⟩
  rw [E0.out, E1.out, E2.out]
  exact ⟨⟨Hd3.out, Hl3.out, Hli3.out, Hr3.out, Hri3.out⟩, R3.out⟩

set_option maxRecDepth 100000 in
set_option maxHeartbeats 8000000 in
theorem col_work (L : Lay) (R C gw a0 a3 j k : Nat) (q : Int) (s : Sm.St) (w : World) (hR : R ≤ 48) (hC : C ≤ 48) (hi : j < C) (hk : k < C) (hp : Pos L gw a0 a3) (hs : a3 ≤ w.heap.size) (h : Work L R C gw w s) (g : Sm.Good R C s) (hq : -4000000000000 ≤ q ∧ q ≤ 4000000000000) :
    Calls Try.prog 138 #[.pointer (some ⟨gw, 0, none⟩), .int .i64 j, .int .i64 k, .int .i64 q] w (WorkOut L R C gw a0 a3 (Sm.colSub R C j k q s) w) := by
  have hbd := hp.bd
  have HPS := Lib.hid hp
  clear hp
  by_cases hz : q = 0
  · subst hz
    rw [Sm.colSub, if_pos rfl]
    have H := Lib.hid h
    clear h
    go_enter Try.func138, Try.ntmps138
    go_wp2
    go_end0
    exact ⟨rfl, Kept.refl _ _ _, H.out⟩
  have t1 : (q != 0) = true := by simpa using hz
  have t2 : (q == 0) = false := by simpa using hz
  have SB := Lib.hid (show Sm.colSub R C j k q s = colOut (Sm.subl j k C q s.d R) (Sm.subl j k C q s.r C) (Sm.subl (k * C) (j * C) 1 (-q) s.ri C) s by rw [Sm.colSub, if_neg hz]; rfl)
  rw [SB.out]
  have Hl0 := Lib.hid h.five.l
  have Hli0 := Lib.hid h.five.li
  have Hd0 := Lib.hid h.five.d
  have Hr0 := Lib.hid h.five.r
  have Hri0 := Lib.hid h.five.ri
  have R0 := Lib.hid h.row
  have G := Lib.hid g
  have HQ := Lib.hid hq
  have HQ2 := Lib.hid (show -4000000000000 ≤ -q ∧ -q ≤ 4000000000000 by omega)
  clear h g hz SB
  obtain ⟨q0, q1⟩ := hq
  obtain ⟨y0, y1, y2, y3, y4, y5, y6, y7, y8, y9, y10, y11, y12, y13, y14, y15⟩ := R0.out.box16
  go_enter Try.func138, Try.ntmps138
  go_wp2_with fail
  refine (cols_spec a0 a3 gw R C j k q _ _ L.cd s.d L.gd (L.gd + 1) #[.int .i64 R, .int .i64 C, .slice (some ⟨L.gd, 0, none⟩) (R * C) L.cd, .int .i64 R, .int .i64 R, .slice (some ⟨L.gl, 0, none⟩) (R * R) L.cl, .int .i64 R, .int .i64 R, .slice (some ⟨L.gli, 0, none⟩) (R * R) L.cli, .int .i64 C, .int .i64 C, .slice (some ⟨L.gr, 0, none⟩) (C * C) L.cr, .int .i64 C, .int .i64 C, .slice (some ⟨L.gri, 0, none⟩) (C * C) L.cri, .bool false] _ Hd0.out R0.out rfl rfl (by omega) (by omega) (by omega) (by omega) (by omega) (by have := HPS.out.w_d; omega) rfl (by omega) (by omega) hi hk HQ.out G.out.wd).mono ?_
  rintro e w1 ⟨rfl, hq0⟩
  cases e0 : Sm.subl j k C q s.d R with
  | none =>
    rw [e0] at hq0
    obtain ⟨hrow, hk9⟩ := hq0
    have MK := Lib.hid (show Row w1 gw #[.int .i64 R, .int .i64 C, .slice (some ⟨L.gd, 0, none⟩) (R * C) L.cd, .int .i64 R, .int .i64 R, .slice (some ⟨L.gl, 0, none⟩) (R * R) L.cl, .int .i64 R, .int .i64 R, .slice (some ⟨L.gli, 0, none⟩) (R * R) L.cli, .int .i64 C, .int .i64 C, .slice (some ⟨L.gr, 0, none⟩) (C * C) L.cr, .int .i64 C, .int .i64 C, .slice (some ⟨L.gri, 0, none⟩) (C * C) L.cri, .bool true] 132 from hrow)
    have KK := Lib.hid hk9
    have m1 : w.heap.size ≤ w1.heap.size := hk9.size
    have EN := Lib.hid e0
    clear hrow hk9 y0 y1 y2 y3 y4 y5 y6 y7 y8 y9 y10 y11 y12 y13 y14 y15 e0
    obtain ⟨y0, y1, y2, y3, y4, y5, y6, y7, y8, y9, y10, y11, y12, y13, y14, y15⟩ := MK.out.box16
    go_wp2_with fail
    refine (cols_bad gw C C _ _ _ _ _ _ _ _ MK.out rfl).mono ?_
    rintro e wb1 ⟨rfl, hb⟩
    have MK1 := Lib.hid (MK.out.below hb (by omega))
    have KK1 := Lib.hid (KK.out.trans (Kept.of_below hb _ _))
    have m2 : w1.heap.size ≤ wb1.heap.size := hb.size
    clear hb y0 y1 y2 y3 y4 y5 y6 y7 y8 y9 y10 y11 y12 y13 y14 y15 MK KK
    have MK := MK1
    have KK := KK1
    clear MK1 KK1
    obtain ⟨y0, y1, y2, y3, y4, y5, y6, y7, y8, y9, y10, y11, y12, y13, y14, y15⟩ := MK.out.box16
    go_wp2_with fail
    refine (rows_bad gw C C _ _ _ _ _ _ _ _ MK.out rfl).mono ?_
    rintro e wb2 ⟨rfl, hb⟩
    have MK2 := Lib.hid (MK.out.below hb (by omega))
    have KK2 := Lib.hid (KK.out.trans (Kept.of_below hb _ _))
    have m3 : wb1.heap.size ≤ wb2.heap.size := hb.size
    clear hb y0 y1 y2 y3 y4 y5 y6 y7 y8 y9 y10 y11 y12 y13 y14 y15 MK KK
    have MK := MK2
    have KK := KK2
    clear MK2 KK2
    go_wp2
    go_end0
    refine ⟨rfl, KK.out, ?_⟩
    rw [EN.out, colOut_none (by simp)]
    exact MK.out
  | some vd =>
  rw [e0] at hq0
  obtain ⟨hown, hk9⟩ := hq0
  have E0 := Lib.hid e0
  have K1 := Lib.hid ((hk9.wide (by omega) (by omega) : Kept a0 a3 _ _))
  have Hl1 := Lib.hid (Hl0.out.kept hk9 (by omega) (by have := HPS.out.n_d_l; omega))
  clear Hl0
  have Hli1 := Lib.hid (Hli0.out.kept hk9 (by omega) (by have := HPS.out.n_d_li; omega))
  clear Hli0
  have Hd1 := Lib.hid hown
  clear Hd0
  have Hr1 := Lib.hid (Hr0.out.kept hk9 (by omega) (by have := HPS.out.n_d_r; omega))
  clear Hr0
  have Hri1 := Lib.hid (Hri0.out.kept hk9 (by omega) (by have := HPS.out.n_d_ri; omega))
  clear Hri0
  have R1 := Lib.hid (R0.out.kept hk9 (by have := HPS.out.w_d; omega))
  have u1 : w.heap.size ≤ w1.heap.size := hk9.size
  clear hown hk9 y0 y1 y2 y3 y4 y5 y6 y7 y8 y9 y10 y11 y12 y13 y14 y15 e0 R0
  obtain ⟨y0, y1, y2, y3, y4, y5, y6, y7, y8, y9, y10, y11, y12, y13, y14, y15⟩ := R1.out.box16
  go_wp2_with fail
  refine (cols_spec a0 a3 gw C C j k q _ _ L.cr s.r L.gr (L.gr + 1) #[.int .i64 R, .int .i64 C, .slice (some ⟨L.gd, 0, none⟩) (R * C) L.cd, .int .i64 R, .int .i64 R, .slice (some ⟨L.gl, 0, none⟩) (R * R) L.cl, .int .i64 R, .int .i64 R, .slice (some ⟨L.gli, 0, none⟩) (R * R) L.cli, .int .i64 C, .int .i64 C, .slice (some ⟨L.gr, 0, none⟩) (C * C) L.cr, .int .i64 C, .int .i64 C, .slice (some ⟨L.gri, 0, none⟩) (C * C) L.cri, .bool false] _ Hr1.out R1.out rfl rfl (by omega) (by omega) (by omega) (by omega) (by omega) (by have := HPS.out.w_r; omega) rfl (by omega) (by omega) hi hk HQ.out G.out.wr).mono ?_
  rintro e w2 ⟨rfl, hq1⟩
  cases e1 : Sm.subl j k C q s.r C with
  | none =>
    rw [e1] at hq1
    obtain ⟨hrow, hk9⟩ := hq1
    have MK := Lib.hid (show Row w2 gw #[.int .i64 R, .int .i64 C, .slice (some ⟨L.gd, 0, none⟩) (R * C) L.cd, .int .i64 R, .int .i64 R, .slice (some ⟨L.gl, 0, none⟩) (R * R) L.cl, .int .i64 R, .int .i64 R, .slice (some ⟨L.gli, 0, none⟩) (R * R) L.cli, .int .i64 C, .int .i64 C, .slice (some ⟨L.gr, 0, none⟩) (C * C) L.cr, .int .i64 C, .int .i64 C, .slice (some ⟨L.gri, 0, none⟩) (C * C) L.cri, .bool true] 132 from hrow)
    have KK := Lib.hid (K1.out.trans hk9)
    have m1 : w1.heap.size ≤ w2.heap.size := hk9.size
    have EN := Lib.hid e1
    clear hrow hk9 y0 y1 y2 y3 y4 y5 y6 y7 y8 y9 y10 y11 y12 y13 y14 y15 e1
    obtain ⟨y0, y1, y2, y3, y4, y5, y6, y7, y8, y9, y10, y11, y12, y13, y14, y15⟩ := MK.out.box16
    go_wp2_with fail
    refine (rows_bad gw C C _ _ _ _ _ _ _ _ MK.out rfl).mono ?_
    rintro e wb2 ⟨rfl, hb⟩
    have MK2 := Lib.hid (MK.out.below hb (by omega))
    have KK2 := Lib.hid (KK.out.trans (Kept.of_below hb _ _))
    have m3 : w2.heap.size ≤ wb2.heap.size := hb.size
    clear hb y0 y1 y2 y3 y4 y5 y6 y7 y8 y9 y10 y11 y12 y13 y14 y15 MK KK
    have MK := MK2
    have KK := KK2
    clear MK2 KK2
    go_wp2
    go_end0
    refine ⟨rfl, KK.out, ?_⟩
    rw [EN.out, colOut_none (by simp)]
    exact MK.out
  | some vr =>
  rw [e1] at hq1
  obtain ⟨hown, hk9⟩ := hq1
  have E1 := Lib.hid e1
  have K2 := Lib.hid (K1.out.trans (hk9.wide (by omega) (by omega) : Kept a0 a3 _ _))
  have Hl2 := Lib.hid (Hl1.out.kept hk9 (by omega) (by have := HPS.out.n_l_r; omega))
  clear Hl1
  have Hli2 := Lib.hid (Hli1.out.kept hk9 (by omega) (by have := HPS.out.n_li_r; omega))
  clear Hli1
  have Hd2 := Lib.hid (Hd1.out.kept hk9 (by omega) (by have := HPS.out.n_d_r; omega))
  clear Hd1
  have Hr2 := Lib.hid hown
  clear Hr1
  have Hri2 := Lib.hid (Hri1.out.kept hk9 (by omega) (by have := HPS.out.n_r_ri; omega))
  clear Hri1
  have R2 := Lib.hid (R1.out.kept hk9 (by have := HPS.out.w_r; omega))
  have u2 : w1.heap.size ≤ w2.heap.size := hk9.size
  clear hown hk9 y0 y1 y2 y3 y4 y5 y6 y7 y8 y9 y10 y11 y12 y13 y14 y15 e1 R1
  obtain ⟨y0, y1, y2, y3, y4, y5, y6, y7, y8, y9, y10, y11, y12, y13, y14, y15⟩ := R2.out.box16
  go_wp2_with fail
  refine (rows_spec a0 a3 gw C C k j (-q) _ _ L.cri s.ri L.gri (L.gri + 1) #[.int .i64 R, .int .i64 C, .slice (some ⟨L.gd, 0, none⟩) (R * C) L.cd, .int .i64 R, .int .i64 R, .slice (some ⟨L.gl, 0, none⟩) (R * R) L.cl, .int .i64 R, .int .i64 R, .slice (some ⟨L.gli, 0, none⟩) (R * R) L.cli, .int .i64 C, .int .i64 C, .slice (some ⟨L.gr, 0, none⟩) (C * C) L.cr, .int .i64 C, .int .i64 C, .slice (some ⟨L.gri, 0, none⟩) (C * C) L.cri, .bool false] _ Hri2.out R2.out rfl rfl (by omega) (by omega) (by omega) (by omega) (by omega) (by have := HPS.out.w_ri; omega) rfl (by omega) (by omega) hk hi HQ2.out G.out.wri).mono ?_
  rintro e w3 ⟨rfl, hq2⟩
  cases e2 : Sm.subl (k * C) (j * C) 1 (-q) s.ri C with
  | none =>
    rw [e2] at hq2
    obtain ⟨hrow, hk9⟩ := hq2
    have MK := Lib.hid (show Row w3 gw #[.int .i64 R, .int .i64 C, .slice (some ⟨L.gd, 0, none⟩) (R * C) L.cd, .int .i64 R, .int .i64 R, .slice (some ⟨L.gl, 0, none⟩) (R * R) L.cl, .int .i64 R, .int .i64 R, .slice (some ⟨L.gli, 0, none⟩) (R * R) L.cli, .int .i64 C, .int .i64 C, .slice (some ⟨L.gr, 0, none⟩) (C * C) L.cr, .int .i64 C, .int .i64 C, .slice (some ⟨L.gri, 0, none⟩) (C * C) L.cri, .bool true] 132 from hrow)
    have KK := Lib.hid (K2.out.trans hk9)
    have m1 : w2.heap.size ≤ w3.heap.size := hk9.size
    have EN := Lib.hid e2
    clear hrow hk9 y0 y1 y2 y3 y4 y5 y6 y7 y8 y9 y10 y11 y12 y13 y14 y15 e2
    go_wp2
    go_end0
    refine ⟨rfl, KK.out, ?_⟩
    rw [EN.out, colOut_none (by simp)]
    exact MK.out
  | some vri =>
  rw [e2] at hq2
  obtain ⟨hown, hk9⟩ := hq2
  have E2 := Lib.hid e2
  have K3 := Lib.hid (K2.out.trans (hk9.wide (by omega) (by omega) : Kept a0 a3 _ _))
  have Hl3 := Lib.hid (Hl2.out.kept hk9 (by omega) (by have := HPS.out.n_l_ri; omega))
  clear Hl2
  have Hli3 := Lib.hid (Hli2.out.kept hk9 (by omega) (by have := HPS.out.n_li_ri; omega))
  clear Hli2
  have Hd3 := Lib.hid (Hd2.out.kept hk9 (by omega) (by have := HPS.out.n_d_ri; omega))
  clear Hd2
  have Hr3 := Lib.hid (Hr2.out.kept hk9 (by omega) (by have := HPS.out.n_r_ri; omega))
  clear Hr2
  have Hri3 := Lib.hid hown
  clear Hri2
  have R3 := Lib.hid (R2.out.kept hk9 (by have := HPS.out.w_ri; omega))
  have u3 : w2.heap.size ≤ w3.heap.size := hk9.size
  clear hown hk9 y0 y1 y2 y3 y4 y5 y6 y7 y8 y9 y10 y11 y12 y13 y14 y15 e2 R2
  obtain ⟨y0, y1, y2, y3, y4, y5, y6, y7, y8, y9, y10, y11, y12, y13, y14, y15⟩ := R3.out.box16
  go_wp2
  go_end0
  refine ⟨rfl, K3.out, ?_⟩
  rw [E0.out, E1.out, E2.out]
  exact ⟨⟨Hd3.out, Hl3.out, Hli3.out, Hr3.out, Hri3.out⟩, R3.out⟩

end Go.Proofs.Ytpojkahlllochaa
