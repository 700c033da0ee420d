/- The laws' helpers over reductions: comparison and marks. No condition but those that each theorem names. -/
import Derived.Test.YtdbljeglnhefmaaSmS
namespace Go.Proofs.Ytdbljeglnhefmaa
open Go.RowKit

/-- The five matrices of a reduction, each read as a list. -/
def RedInts (w : World) (B : Nat) (s : Sm.St) (Al Ali Ad Ar Ari : Option Addr) : Prop :=
  Ints w B Al s.l.length s.l ∧ Ints w B Ali s.li.length s.li ∧ Ints w B Ad s.d.length s.d ∧ Ints w B Ar s.r.length s.r ∧ Ints w B Ari s.ri.length s.ri
/-- The five matrices of a reduction lie between two block numbers, each owned. -/
def RedOwn (w : World) (lo hi : Nat) (s : Sm.St) (Al Ali Ad Ar Ari : Option Addr) (cl cli cd cr cri : Nat) : Prop :=
  ∃ b1 b2 b3 b4, lo ≤ b1 ∧ b1 ≤ b2 ∧ b2 ≤ b3 ∧ b3 ≤ b4 ∧ b4 ≤ hi ∧ Own w lo b1 Ad s.d.length cd s.d ∧ Own w b1 b2 Al s.l.length cl s.l ∧ Own w b2 b3 Ali s.li.length cli s.li ∧ Own w b3 b4 Ar s.r.length cr s.r ∧ Own w b4 hi Ari s.ri.length cri s.ri
/-- No matrix is large. -/
def Small (s : Sm.St) : Prop := s.l.length ≤ 2304 ∧ s.li.length ≤ 2304 ∧ s.d.length ≤ 2304 ∧ s.r.length ≤ 2304 ∧ s.ri.length ≤ 2304
theorem RedInts.below {w w' : World} {B : Nat} {s : Sm.St} {Al Ali Ad Ar Ari : Option Addr} (h : RedInts w B s Al Ali Ad Ar Ari) (hb : Below B w w') : RedInts w' B s Al Ali Ad Ar Ari :=
  ⟨h.1.below hb, h.2.1.below hb, h.2.2.1.below hb, h.2.2.2.1.below hb, h.2.2.2.2.below hb⟩
theorem RedOwn.ints {w : World} {lo hi B : Nat} {s : Sm.St} {Al Ali Ad Ar Ari : Option Addr} {cl cli cd cr cri : Nat} (h : RedOwn w lo hi s Al Ali Ad Ar Ari cl cli cd cr cri) (hB : hi ≤ B) : RedInts w B s Al Ali Ad Ar Ari := by
  obtain ⟨b1, b2, b3, b4, i0, i1, i2, i3, i4, h1, h2, h3, h4, h5⟩ := h
  exact ⟨h2.ints.more (by omega), h3.ints.more (by omega), h1.ints.more (by omega), h4.ints.more (by omega), h5.ints.more hB⟩
theorem RedOwn.below {w w' : World} {lo hi B : Nat} {s : Sm.St} {Al Ali Ad Ar Ari : Option Addr} {cl cli cd cr cri : Nat} (h : RedOwn w lo hi s Al Ali Ad Ar Ari cl cli cd cr cri) (hb : Below B w w') (hh : hi ≤ B) : RedOwn w' lo hi s Al Ali Ad Ar Ari cl cli cd cr cri := by
  obtain ⟨b1, b2, b3, b4, i0, i1, i2, i3, i4, h1, h2, h3, h4, h5⟩ := h
  exact ⟨b1, b2, b3, b4, i0, i1, i2, i3, i4, h1.below hb (by omega), h2.below hb (by omega), h3.below hb (by omega), h4.below hb (by omega), h5.below hb hh⟩
theorem RedOwn.kept {w w' : World} {lo hi lo' hi' : Nat} {s : Sm.St} {Al Ali Ad Ar Ari : Option Addr} {cl cli cd cr cri : Nat} (h : RedOwn w lo hi s Al Ali Ad Ar Ari cl cli cd cr cri) (hk : Kept lo' hi' w w') (hd : hi ≤ lo' ∨ hi' ≤ lo) (hh : hi ≤ w.heap.size) : RedOwn w' lo hi s Al Ali Ad Ar Ari cl cli cd cr cri := by
  obtain ⟨b1, b2, b3, b4, i0, i1, i2, i3, i4, h1, h2, h3, h4, h5⟩ := h
  exact ⟨b1, b2, b3, b4, i0, i1, i2, i3, i4, h1.kept hk (by omega) (by omega), h2.kept hk (by omega) (by omega), h3.kept hk (by omega) (by omega), h4.kept hk (by omega) (by omega), h5.kept hk (by omega) (by omega)⟩

set_option maxRecDepth 100000 in
set_option maxHeartbeats 4000000 in
theorem eqR_any {R C : Int} (s : Sm.St) {Al Ali Ad Ar Ari Al' Ali' Ad' Ar' Ari' : Option Addr} {cl cli cd cr cri cl' cli' cd' cr' cri' : Nat} (B B' : Nat) (w : World) (hB : B ≤ w.heap.size) (hB' : B' ≤ w.heap.size) (h : RedInts w B s Al Ali Ad Ar Ari) (h' : RedInts w B' s Al' Ali' Ad' Ar' Ari') (hn : Small s) :
    Calls Try.prog 33 #[.agg #[.int .i64 R, .int .i64 R, .slice Al s.l.length cl, .int .i64 R, .int .i64 R, .slice Ali s.li.length cli, .int .i64 R, .int .i64 C, .slice Ad s.d.length cd, .int .i64 C, .int .i64 C, .slice Ar s.r.length cr, .int .i64 C, .int .i64 C, .slice Ari s.ri.length cri], .agg #[.int .i64 R, .int .i64 R, .slice Al' s.l.length cl', .int .i64 R, .int .i64 R, .slice Ali' s.li.length cli', .int .i64 R, .int .i64 C, .slice Ad' s.d.length cd', .int .i64 C, .int .i64 C, .slice Ar' s.r.length cr', .int .i64 C, .int .i64 C, .slice Ari' s.ri.length cri']] w fun e w' => e = .returned (.bool true) ∧ Below w.heap.size w w' := by
  obtain ⟨n1, n2, n3, n4, n5⟩ := hn
  have X0 := Lib.hid ((Row.new w #[.int .i64 R, .int .i64 R, .slice Al s.l.length cl, .int .i64 R, .int .i64 R, .slice Ali s.li.length cli, .int .i64 R, .int .i64 C, .slice Ad s.d.length cd, .int .i64 C, .int .i64 C, .slice Ar s.r.length cr, .int .i64 C, .int .i64 C, .slice Ari s.ri.length cri] 44).below (al1 (w.alloc (Obj.cells #[.int .i64 R, .int .i64 R, .slice Al s.l.length cl, .int .i64 R, .int .i64 R, .slice Ali s.li.length cli, .int .i64 R, .int .i64 C, .slice Ad s.d.length cd, .int .i64 C, .int .i64 C, .slice Ar s.r.length cr, .int .i64 C, .int .i64 C, .slice Ari s.ri.length cri] 44)) (Obj.cells #[.int .i64 R, .int .i64 R, .slice Al' s.l.length cl', .int .i64 R, .int .i64 R, .slice Ali' s.li.length cli', .int .i64 R, .int .i64 C, .slice Ad' s.d.length cd', .int .i64 C, .int .i64 C, .slice Ar' s.r.length cr', .int .i64 C, .int .i64 C, .slice Ari' s.ri.length cri'] 44)) (by simp))
  have Y0 := Lib.hid (Row.new (w.alloc (Obj.cells #[.int .i64 R, .int .i64 R, .slice Al s.l.length cl, .int .i64 R, .int .i64 R, .slice Ali s.li.length cli, .int .i64 R, .int .i64 C, .slice Ad s.d.length cd, .int .i64 C, .int .i64 C, .slice Ar s.r.length cr, .int .i64 C, .int .i64 C, .slice Ari s.ri.length cri] 44)) #[.int .i64 R, .int .i64 R, .slice Al' s.l.length cl', .int .i64 R, .int .i64 R, .slice Ali' s.li.length cli', .int .i64 R, .int .i64 C, .slice Ad' s.d.length cd', .int .i64 C, .int .i64 C, .slice Ar' s.r.length cr', .int .i64 C, .int .i64 C, .slice Ari' s.ri.length cri'] 44)
  have D0 := Lib.hid (al2 w (Obj.cells #[.int .i64 R, .int .i64 R, .slice Al s.l.length cl, .int .i64 R, .int .i64 R, .slice Ali s.li.length cli, .int .i64 R, .int .i64 C, .slice Ad s.d.length cd, .int .i64 C, .int .i64 C, .slice Ar s.r.length cr, .int .i64 C, .int .i64 C, .slice Ari s.ri.length cri] 44) (Obj.cells #[.int .i64 R, .int .i64 R, .slice Al' s.l.length cl', .int .i64 R, .int .i64 R, .slice Ali' s.li.length cli', .int .i64 R, .int .i64 C, .slice Ad' s.d.length cd', .int .i64 C, .int .i64 C, .slice Ar' s.r.length cr', .int .i64 C, .int .i64 C, .slice Ari' s.ri.length cri'] 44))
  have I0 := Lib.hid (h.below (D0.out.mono hB))
  have J0 := Lib.hid (h'.below (D0.out.mono hB'))
  simp only [World.size_alloc] at Y0
  clear h h'
  go_enter Try.func33, Try.ntmps33
  go_wp2_with fail
  obtain ⟨W0, hW0⟩ : ∃ W0, W0 = ((w.alloc (Obj.cells #[.int .i64 R, .int .i64 R, .slice Al s.l.length cl, .int .i64 R, .int .i64 R, .slice Ali s.li.length cli, .int .i64 R, .int .i64 C, .slice Ad s.d.length cd, .int .i64 C, .int .i64 C, .slice Ar s.r.length cr, .int .i64 C, .int .i64 C, .slice Ari s.ri.length cri] 44)).alloc (Obj.cells #[.int .i64 R, .int .i64 R, .slice Al' s.l.length cl', .int .i64 R, .int .i64 R, .slice Ali' s.li.length cli', .int .i64 R, .int .i64 C, .slice Ad' s.d.length cd', .int .i64 C, .int .i64 C, .slice Ar' s.r.length cr', .int .i64 C, .int .i64 C, .slice Ari' s.ri.length cri'] 44)) := ⟨_, rfl⟩
  have s0 : w.heap.size + 1 < W0.heap.size := by rw [hW0]; simp
  rw [← hW0] at X0 Y0 D0 I0 J0
  rw [← hW0]
  clear hW0
  obtain ⟨x0, x1, x2, x3, x4, x5, x6, x7, x8, x9, x10, x11, x12, x13, x14⟩ := X0.out.box15
  obtain ⟨y0, y1, y2, y3, y4, y5, y6, y7, y8, y9, y10, y11, y12, y13, y14⟩ := Y0.out.box15
  go_wp2_with fail
  refine (eqM_any _ _ _ _ _ _ _ s.l B B' _ (by omega) (by omega) I0.out.1 J0.out.1 (by omega)).mono ?_
  rintro e w1 ⟨rfl, hb⟩
  have X1 := Lib.hid (X0.out.below hb (by omega))
  have Y1 := Lib.hid (Y0.out.below hb (by omega))
  have D1 := Lib.hid (D0.out.trans (hb.mono (by omega)))
  have I1 := Lib.hid (I0.out.below (hb.mono (by omega)))
  have J1 := Lib.hid (J0.out.below (hb.mono (by omega)))
  have s1 : w.heap.size + 1 < w1.heap.size := by have := hb.size; omega
  clear hb x0 x1 x2 x3 x4 x5 x6 x7 x8 x9 x10 x11 x12 x13 x14 y0 y1 y2 y3 y4 y5 y6 y7 y8 y9 y10 y11 y12 y13 y14 X0 Y0 D0 I0 J0
  obtain ⟨x0, x1, x2, x3, x4, x5, x6, x7, x8, x9, x10, x11, x12, x13, x14⟩ := X1.out.box15
  obtain ⟨y0, y1, y2, y3, y4, y5, y6, y7, y8, y9, y10, y11, y12, y13, y14⟩ := Y1.out.box15
  go_wp2_with fail
  refine (eqM_any _ _ _ _ _ _ _ s.li B B' _ (by omega) (by omega) I1.out.2.1 J1.out.2.1 (by omega)).mono ?_
  rintro e w2 ⟨rfl, hb⟩
  have X2 := Lib.hid (X1.out.below hb (by omega))
  have Y2 := Lib.hid (Y1.out.below hb (by omega))
  have D2 := Lib.hid (D1.out.trans (hb.mono (by omega)))
  have I2 := Lib.hid (I1.out.below (hb.mono (by omega)))
  have J2 := Lib.hid (J1.out.below (hb.mono (by omega)))
  have s2 : w.heap.size + 1 < w2.heap.size := by have := hb.size; omega
  clear hb x0 x1 x2 x3 x4 x5 x6 x7 x8 x9 x10 x11 x12 x13 x14 y0 y1 y2 y3 y4 y5 y6 y7 y8 y9 y10 y11 y12 y13 y14 X1 Y1 D1 I1 J1
  obtain ⟨x0, x1, x2, x3, x4, x5, x6, x7, x8, x9, x10, x11, x12, x13, x14⟩ := X2.out.box15
  obtain ⟨y0, y1, y2, y3, y4, y5, y6, y7, y8, y9, y10, y11, y12, y13, y14⟩ := Y2.out.box15
  go_wp2_with fail
  refine (eqM_any _ _ _ _ _ _ _ s.d B B' _ (by omega) (by omega) I2.out.2.2.1 J2.out.2.2.1 (by omega)).mono ?_
  rintro e w3 ⟨rfl, hb⟩
  have X3 := Lib.hid (X2.out.below hb (by omega))
  have Y3 := Lib.hid (Y2.out.below hb (by omega))
  have D3 := Lib.hid (D2.out.trans (hb.mono (by omega)))
  have I3 := Lib.hid (I2.out.below (hb.mono (by omega)))
  have J3 := Lib.hid (J2.out.below (hb.mono (by omega)))
  have s3 : w.heap.size + 1 < w3.heap.size := by have := hb.size; omega
  clear hb x0 x1 x2 x3 x4 x5 x6 x7 x8 x9 x10 x11 x12 x13 x14 y0 y1 y2 y3 y4 y5 y6 y7 y8 y9 y10 y11 y12 y13 y14 X2 Y2 D2 I2 J2
  obtain ⟨x0, x1, x2, x3, x4, x5, x6, x7, x8, x9, x10, x11, x12, x13, x14⟩ := X3.out.box15
  obtain ⟨y0, y1, y2, y3, y4, y5, y6, y7, y8, y9, y10, y11, y12, y13, y14⟩ := Y3.out.box15
  go_wp2_with fail
  refine (eqM_any _ _ _ _ _ _ _ s.r B B' _ (by omega) (by omega) I3.out.2.2.2.1 J3.out.2.2.2.1 (by omega)).mono ?_
  rintro e w4 ⟨rfl, hb⟩
  have X4 := Lib.hid (X3.out.below hb (by omega))
  have Y4 := Lib.hid (Y3.out.below hb (by omega))
  have D4 := Lib.hid (D3.out.trans (hb.mono (by omega)))
  have I4 := Lib.hid (I3.out.below (hb.mono (by omega)))
  have J4 := Lib.hid (J3.out.below (hb.mono (by omega)))
  have s4 : w.heap.size + 1 < w4.heap.size := by have := hb.size; omega
  clear hb x0 x1 x2 x3 x4 x5 x6 x7 x8 x9 x10 x11 x12 x13 x14 y0 y1 y2 y3 y4 y5 y6 y7 y8 y9 y10 y11 y12 y13 y14 X3 Y3 D3 I3 J3
  obtain ⟨x0, x1, x2, x3, x4, x5, x6, x7, x8, x9, x10, x11, x12, x13, x14⟩ := X4.out.box15
  obtain ⟨y0, y1, y2, y3, y4, y5, y6, y7, y8, y9, y10, y11, y12, y13, y14⟩ := Y4.out.box15
  go_wp2_with fail
  refine (eqM_any _ _ _ _ _ _ _ s.ri B B' _ (by omega) (by omega) I4.out.2.2.2.2 J4.out.2.2.2.2 (by omega)).mono ?_
  rintro e w5 ⟨rfl, hb⟩
  have X5 := Lib.hid (X4.out.below hb (by omega))
  have Y5 := Lib.hid (Y4.out.below hb (by omega))
  have D5 := Lib.hid (D4.out.trans (hb.mono (by omega)))
  have I5 := Lib.hid (I4.out.below (hb.mono (by omega)))
  have J5 := Lib.hid (J4.out.below (hb.mono (by omega)))
  have s5 : w.heap.size + 1 < w5.heap.size := by have := hb.size; omega
  clear hb x0 x1 x2 x3 x4 x5 x6 x7 x8 x9 x10 x11 x12 x13 x14 y0 y1 y2 y3 y4 y5 y6 y7 y8 y9 y10 y11 y12 y13 y14 X4 Y4 D4 I4 J4
  go_wp2
  go_ret
  exact ⟨rfl, D5.out⟩

/-- The state with marks from k on in place of its entries. -/
def markSt (k : Int) (s : Sm.St) : Sm.St := ⟨marks k s.l.length, marks (k + s.l.length) s.li.length, marks (k + s.l.length + s.li.length) s.d.length, marks (k + s.l.length + s.li.length + s.d.length) s.r.length, marks (k + s.l.length + s.li.length + s.d.length + s.r.length) s.ri.length⟩
def sizeSt (s : Sm.St) : Int := s.l.length + s.li.length + s.d.length + s.r.length + s.ri.length

set_option maxRecDepth 100000 in
set_option maxHeartbeats 4000000 in
theorem markR_any {R C : Int} (s : Sm.St) {Al Ali Ad Ar Ari : Option Addr} {cl cli cd cr cri : Nat} (k : Int) (lo hi : Nat) (w : World) (h : RedOwn w lo hi s Al Ali Ad Ar Ari cl cli cd cr cri) (hhi : hi ≤ w.heap.size) (hn : Small s) (h0 : 0 ≤ k) (h1 : k ≤ 1048576) :
    Calls Try.prog 34 #[.agg #[.int .i64 R, .int .i64 R, .slice Al s.l.length cl, .int .i64 R, .int .i64 R, .slice Ali s.li.length cli, .int .i64 R, .int .i64 C, .slice Ad s.d.length cd, .int .i64 C, .int .i64 C, .slice Ar s.r.length cr, .int .i64 C, .int .i64 C, .slice Ari s.ri.length cri], .int .i64 k] w fun e w' => e = .returned (.int .i64 (k + (s.l.length : Int) + (s.li.length : Int) + (s.d.length : Int) + (s.r.length : Int) + (s.ri.length : Int))) ∧ RedOwn w' lo hi (markSt k s) Al Ali Ad Ar Ari cl cli cd cr cri ∧ Kept lo hi w w' := by
  obtain ⟨n1, n2, n3, n4, n5⟩ := hn
  obtain ⟨b1, b2, b3, b4, i0, i1, i2, i3, i4, hd, hl, hli, hr, hri⟩ := h
  have X0 := Lib.hid (Row.new w #[.int .i64 R, .int .i64 R, .slice Al s.l.length cl, .int .i64 R, .int .i64 R, .slice Ali s.li.length cli, .int .i64 R, .int .i64 C, .slice Ad s.d.length cd, .int .i64 C, .int .i64 C, .slice Ar s.r.length cr, .int .i64 C, .int .i64 C, .slice Ari s.ri.length cri] 44)
  have D0 := Lib.hid (Kept.of_below (al1 w (Obj.cells #[.int .i64 R, .int .i64 R, .slice Al s.l.length cl, .int .i64 R, .int .i64 R, .slice Ali s.li.length cli, .int .i64 R, .int .i64 C, .slice Ad s.d.length cd, .int .i64 C, .int .i64 C, .slice Ar s.r.length cr, .int .i64 C, .int .i64 C, .slice Ari s.ri.length cri] 44)) lo hi)
  have Ol0 := Lib.hid (hl.al (by omega) (al1 w (Obj.cells #[.int .i64 R, .int .i64 R, .slice Al s.l.length cl, .int .i64 R, .int .i64 R, .slice Ali s.li.length cli, .int .i64 R, .int .i64 C, .slice Ad s.d.length cd, .int .i64 C, .int .i64 C, .slice Ar s.r.length cr, .int .i64 C, .int .i64 C, .slice Ari s.ri.length cri] 44)))
  have Oli0 := Lib.hid (hli.al (by omega) (al1 w (Obj.cells #[.int .i64 R, .int .i64 R, .slice Al s.l.length cl, .int .i64 R, .int .i64 R, .slice Ali s.li.length cli, .int .i64 R, .int .i64 C, .slice Ad s.d.length cd, .int .i64 C, .int .i64 C, .slice Ar s.r.length cr, .int .i64 C, .int .i64 C, .slice Ari s.ri.length cri] 44)))
  have Od0 := Lib.hid (hd.al (by omega) (al1 w (Obj.cells #[.int .i64 R, .int .i64 R, .slice Al s.l.length cl, .int .i64 R, .int .i64 R, .slice Ali s.li.length cli, .int .i64 R, .int .i64 C, .slice Ad s.d.length cd, .int .i64 C, .int .i64 C, .slice Ar s.r.length cr, .int .i64 C, .int .i64 C, .slice Ari s.ri.length cri] 44)))
  have Or0 := Lib.hid (hr.al (by omega) (al1 w (Obj.cells #[.int .i64 R, .int .i64 R, .slice Al s.l.length cl, .int .i64 R, .int .i64 R, .slice Ali s.li.length cli, .int .i64 R, .int .i64 C, .slice Ad s.d.length cd, .int .i64 C, .int .i64 C, .slice Ar s.r.length cr, .int .i64 C, .int .i64 C, .slice Ari s.ri.length cri] 44)))
  have Ori0 := Lib.hid (hri.al (by omega) (al1 w (Obj.cells #[.int .i64 R, .int .i64 R, .slice Al s.l.length cl, .int .i64 R, .int .i64 R, .slice Ali s.li.length cli, .int .i64 R, .int .i64 C, .slice Ad s.d.length cd, .int .i64 C, .int .i64 C, .slice Ar s.r.length cr, .int .i64 C, .int .i64 C, .slice Ari s.ri.length cri] 44)))
  clear hd hl hli hr hri
  go_enter Try.func34, Try.ntmps34
  go_wp2_with fail
  obtain ⟨W0, hW0⟩ : ∃ W0, W0 = (w.alloc (Obj.cells #[.int .i64 R, .int .i64 R, .slice Al s.l.length cl, .int .i64 R, .int .i64 R, .slice Ali s.li.length cli, .int .i64 R, .int .i64 C, .slice Ad s.d.length cd, .int .i64 C, .int .i64 C, .slice Ar s.r.length cr, .int .i64 C, .int .i64 C, .slice Ari s.ri.length cri] 44)) := ⟨_, rfl⟩
  have s0 : w.heap.size < W0.heap.size := by rw [hW0]; simp
  rw [← hW0] at X0 D0 Ol0 Oli0 Od0 Or0 Ori0
  rw [← hW0]
  clear hW0
  obtain ⟨x0, x1, x2, x3, x4, x5, x6, x7, x8, x9, x10, x11, x12, x13, x14⟩ := X0.out.box15
  go_wp2_with fail
  refine (markM_any _ _ Al s.l.length cl (k) s.l b1 b2 _ Ol0.out (by omega) (by omega) (by omega) (by omega)).mono ?_
  rintro e w1 ⟨rfl, hown, hk⟩
  have X1 := Lib.hid (X0.out.kept hk (by omega))
  have D1 := Lib.hid (D0.out.trans (hk.wide (lo' := lo) (hi' := hi) (by omega) (by omega)))
  have Ol1 := Lib.hid hown
  have Oli1 := Lib.hid (Oli0.out.kept hk (by omega) (by omega))
  have Od1 := Lib.hid (Od0.out.kept hk (by omega) (by omega))
  have Or1 := Lib.hid (Or0.out.kept hk (by omega) (by omega))
  have Ori1 := Lib.hid (Ori0.out.kept hk (by omega) (by omega))
  have s1 : w.heap.size < w1.heap.size := by have := hk.size; omega
  clear hk hown x0 x1 x2 x3 x4 x5 x6 x7 x8 x9 x10 x11 x12 x13 x14 X0 D0 Ol0 Oli0 Od0 Or0 Ori0
  obtain ⟨x0, x1, x2, x3, x4, x5, x6, x7, x8, x9, x10, x11, x12, x13, x14⟩ := X1.out.box15
  go_wp2_with fail
  refine (markM_any _ _ Ali s.li.length cli (k + (s.l.length : Int)) s.li b2 b3 _ Oli1.out (by omega) (by omega) (by omega) (by omega)).mono ?_
  rintro e w2 ⟨rfl, hown, hk⟩
  have X2 := Lib.hid (X1.out.kept hk (by omega))
  have D2 := Lib.hid (D1.out.trans (hk.wide (lo' := lo) (hi' := hi) (by omega) (by omega)))
  have Ol2 := Lib.hid (Ol1.out.kept hk (by omega) (by omega))
  have Oli2 := Lib.hid hown
  have Od2 := Lib.hid (Od1.out.kept hk (by omega) (by omega))
  have Or2 := Lib.hid (Or1.out.kept hk (by omega) (by omega))
  have Ori2 := Lib.hid (Ori1.out.kept hk (by omega) (by omega))
  have s2 : w.heap.size < w2.heap.size := by have := hk.size; omega
  clear hk hown x0 x1 x2 x3 x4 x5 x6 x7 x8 x9 x10 x11 x12 x13 x14 X1 D1 Ol1 Oli1 Od1 Or1 Ori1
  obtain ⟨x0, x1, x2, x3, x4, x5, x6, x7, x8, x9, x10, x11, x12, x13, x14⟩ := X2.out.box15
  go_wp2_with fail
  refine (markM_any _ _ Ad s.d.length cd (k + (s.l.length : Int) + (s.li.length : Int)) s.d lo b1 _ Od2.out (by omega) (by omega) (by omega) (by omega)).mono ?_
  rintro e w3 ⟨rfl, hown, hk⟩
  have X3 := Lib.hid (X2.out.kept hk (by omega))
  have D3 := Lib.hid (D2.out.trans (hk.wide (lo' := lo) (hi' := hi) (by omega) (by omega)))
  have Ol3 := Lib.hid (Ol2.out.kept hk (by omega) (by omega))
  have Oli3 := Lib.hid (Oli2.out.kept hk (by omega) (by omega))
  have Od3 := Lib.hid hown
  have Or3 := Lib.hid (Or2.out.kept hk (by omega) (by omega))
  have Ori3 := Lib.hid (Ori2.out.kept hk (by omega) (by omega))
  have s3 : w.heap.size < w3.heap.size := by have := hk.size; omega
  clear hk hown x0 x1 x2 x3 x4 x5 x6 x7 x8 x9 x10 x11 x12 x13 x14 X2 D2 Ol2 Oli2 Od2 Or2 Ori2
  obtain ⟨x0, x1, x2, x3, x4, x5, x6, x7, x8, x9, x10, x11, x12, x13, x14⟩ := X3.out.box15
  go_wp2_with fail
  refine (markM_any _ _ Ar s.r.length cr (k + (s.l.length : Int) + (s.li.length : Int) + (s.d.length : Int)) s.r b3 b4 _ Or3.out (by omega) (by omega) (by omega) (by omega)).mono ?_
  rintro e w4 ⟨rfl, hown, hk⟩
  have X4 := Lib.hid (X3.out.kept hk (by omega))
  have D4 := Lib.hid (D3.out.trans (hk.wide (lo' := lo) (hi' := hi) (by omega) (by omega)))
  have Ol4 := Lib.hid (Ol3.out.kept hk (by omega) (by omega))
  have Oli4 := Lib.hid (Oli3.out.kept hk (by omega) (by omega))
  have Od4 := Lib.hid (Od3.out.kept hk (by omega) (by omega))
  have Or4 := Lib.hid hown
  have Ori4 := Lib.hid (Ori3.out.kept hk (by omega) (by omega))
  have s4 : w.heap.size < w4.heap.size := by have := hk.size; omega
  clear hk hown x0 x1 x2 x3 x4 x5 x6 x7 x8 x9 x10 x11 x12 x13 x14 X3 D3 Ol3 Oli3 Od3 Or3 Ori3
  obtain ⟨x0, x1, x2, x3, x4, x5, x6, x7, x8, x9, x10, x11, x12, x13, x14⟩ := X4.out.box15
  go_wp2_with fail
  refine (markM_any _ _ Ari s.ri.length cri (k + (s.l.length : Int) + (s.li.length : Int) + (s.d.length : Int) + (s.r.length : Int)) s.ri b4 hi _ Ori4.out (by omega) (by omega) (by omega) (by omega)).mono ?_
  rintro e w5 ⟨rfl, hown, hk⟩
  have X5 := Lib.hid (X4.out.kept hk (by omega))
  have D5 := Lib.hid (D4.out.trans (hk.wide (lo' := lo) (hi' := hi) (by omega) (by omega)))
  have Ol5 := Lib.hid (Ol4.out.kept hk (by omega) (by omega))
  have Oli5 := Lib.hid (Oli4.out.kept hk (by omega) (by omega))
  have Od5 := Lib.hid (Od4.out.kept hk (by omega) (by omega))
  have Or5 := Lib.hid (Or4.out.kept hk (by omega) (by omega))
  have Ori5 := Lib.hid hown
  have s5 : w.heap.size < w5.heap.size := by have := hk.size; omega
  clear hk hown x0 x1 x2 x3 x4 x5 x6 x7 x8 x9 x10 x11 x12 x13 x14 X4 D4 Ol4 Oli4 Od4 Or4 Ori4
  go_wp2
  go_ret
  refine ⟨rfl, ⟨b1, b2, b3, b4, i0, i1, i2, i3, i4, ?_, ?_, ?_, ?_, ?_⟩, D5.out⟩
  · simpa [markSt, marks_len] using Od5.out
  · simpa [markSt, marks_len] using Ol5.out
  · simpa [markSt, marks_len] using Oli5.out
  · simpa [markSt, marks_len] using Or5.out
  · simpa [markSt, marks_len] using Ori5.out

set_option maxRecDepth 100000 in
set_option maxHeartbeats 4000000 in
theorem heldR_any {R C : Int} (s : Sm.St) {Al Ali Ad Ar Ari : Option Addr} {cl cli cd cr cri : Nat} (k : Int) (B : Nat) (w : World) (h : RedInts w B (markSt k s) Al Ali Ad Ar Ari) (hB : B ≤ w.heap.size) (hn : Small s) (h0 : 0 ≤ k) (h1 : k ≤ 1048576) :
    Calls Try.prog 35 #[.agg #[.int .i64 R, .int .i64 R, .slice Al s.l.length cl, .int .i64 R, .int .i64 R, .slice Ali s.li.length cli, .int .i64 R, .int .i64 C, .slice Ad s.d.length cd, .int .i64 C, .int .i64 C, .slice Ar s.r.length cr, .int .i64 C, .int .i64 C, .slice Ari s.ri.length cri], .int .i64 k] w fun e w' => e = .returned (.int .i64 (k + (s.l.length : Int) + (s.li.length : Int) + (s.d.length : Int) + (s.r.length : Int) + (s.ri.length : Int))) ∧ Below w.heap.size w w' := by
  obtain ⟨n1, n2, n3, n4, n5⟩ := hn
  obtain ⟨hl, hli, hd, hr, hri⟩ := h
  simp only [markSt, marks_len] at hl hli hd hr hri
  have X0 := Lib.hid (Row.new w #[.int .i64 R, .int .i64 R, .slice Al s.l.length cl, .int .i64 R, .int .i64 R, .slice Ali s.li.length cli, .int .i64 R, .int .i64 C, .slice Ad s.d.length cd, .int .i64 C, .int .i64 C, .slice Ar s.r.length cr, .int .i64 C, .int .i64 C, .slice Ari s.ri.length cri] 44)
  have D0 := Lib.hid (al1 w (Obj.cells #[.int .i64 R, .int .i64 R, .slice Al s.l.length cl, .int .i64 R, .int .i64 R, .slice Ali s.li.length cli, .int .i64 R, .int .i64 C, .slice Ad s.d.length cd, .int .i64 C, .int .i64 C, .slice Ar s.r.length cr, .int .i64 C, .int .i64 C, .slice Ari s.ri.length cri] 44))
  have Il0 := Lib.hid (hl.below (D0.out.mono hB))
  have Ili0 := Lib.hid (hli.below (D0.out.mono hB))
  have Id0 := Lib.hid (hd.below (D0.out.mono hB))
  have Ir0 := Lib.hid (hr.below (D0.out.mono hB))
  have Iri0 := Lib.hid (hri.below (D0.out.mono hB))
  clear hd hl hli hr hri
  go_enter Try.func35, Try.ntmps35
  go_wp2_with fail
  obtain ⟨W0, hW0⟩ : ∃ W0, W0 = (w.alloc (Obj.cells #[.int .i64 R, .int .i64 R, .slice Al s.l.length cl, .int .i64 R, .int .i64 R, .slice Ali s.li.length cli, .int .i64 R, .int .i64 C, .slice Ad s.d.length cd, .int .i64 C, .int .i64 C, .slice Ar s.r.length cr, .int .i64 C, .int .i64 C, .slice Ari s.ri.length cri] 44)) := ⟨_, rfl⟩
  have s0 : w.heap.size < W0.heap.size := by rw [hW0]; simp
  rw [← hW0] at X0 D0 Il0 Ili0 Id0 Ir0 Iri0
  rw [← hW0]
  clear hW0
  obtain ⟨x0, x1, x2, x3, x4, x5, x6, x7, x8, x9, x10, x11, x12, x13, x14⟩ := X0.out.box15
  go_wp2_with fail
  refine (heldM_any _ _ Al s.l.length cl (k) B _ Il0.out (by omega) (by omega) (by omega) (by omega)).mono ?_
  rintro e w1 ⟨rfl, hb⟩
  have X1 := Lib.hid (X0.out.below hb (by omega))
  have D1 := Lib.hid (D0.out.trans (hb.mono (by omega)))
  have Il1 := Lib.hid (Il0.out.below (hb.mono (by omega)))
  have Ili1 := Lib.hid (Ili0.out.below (hb.mono (by omega)))
  have Id1 := Lib.hid (Id0.out.below (hb.mono (by omega)))
  have Ir1 := Lib.hid (Ir0.out.below (hb.mono (by omega)))
  have Iri1 := Lib.hid (Iri0.out.below (hb.mono (by omega)))
  have s1 : w.heap.size < w1.heap.size := by have := hb.size; omega
  have t1 : decide (k + (s.l.length : Int) < 0) = false := by simp; omega
  clear hb x0 x1 x2 x3 x4 x5 x6 x7 x8 x9 x10 x11 x12 x13 x14 X0 D0 Il0 Ili0 Id0 Ir0 Iri0
  obtain ⟨x0, x1, x2, x3, x4, x5, x6, x7, x8, x9, x10, x11, x12, x13, x14⟩ := X1.out.box15
  go_wp2_with fail
  refine (heldM_any _ _ Ali s.li.length cli (k + (s.l.length : Int)) B _ Ili1.out (by omega) (by omega) (by omega) (by omega)).mono ?_
  rintro e w2 ⟨rfl, hb⟩
  have X2 := Lib.hid (X1.out.below hb (by omega))
  have D2 := Lib.hid (D1.out.trans (hb.mono (by omega)))
  have Il2 := Lib.hid (Il1.out.below (hb.mono (by omega)))
  have Ili2 := Lib.hid (Ili1.out.below (hb.mono (by omega)))
  have Id2 := Lib.hid (Id1.out.below (hb.mono (by omega)))
  have Ir2 := Lib.hid (Ir1.out.below (hb.mono (by omega)))
  have Iri2 := Lib.hid (Iri1.out.below (hb.mono (by omega)))
  have s2 : w.heap.size < w2.heap.size := by have := hb.size; omega
  have t2 : decide (k + (s.l.length : Int) + (s.li.length : Int) < 0) = false := by simp; omega
  clear hb x0 x1 x2 x3 x4 x5 x6 x7 x8 x9 x10 x11 x12 x13 x14 X1 D1 Il1 Ili1 Id1 Ir1 Iri1
  obtain ⟨x0, x1, x2, x3, x4, x5, x6, x7, x8, x9, x10, x11, x12, x13, x14⟩ := X2.out.box15
  go_wp2_with fail
  refine (heldM_any _ _ Ad s.d.length cd (k + (s.l.length : Int) + (s.li.length : Int)) B _ Id2.out (by omega) (by omega) (by omega) (by omega)).mono ?_
  rintro e w3 ⟨rfl, hb⟩
  have X3 := Lib.hid (X2.out.below hb (by omega))
  have D3 := Lib.hid (D2.out.trans (hb.mono (by omega)))
  have Il3 := Lib.hid (Il2.out.below (hb.mono (by omega)))
  have Ili3 := Lib.hid (Ili2.out.below (hb.mono (by omega)))
  have Id3 := Lib.hid (Id2.out.below (hb.mono (by omega)))
  have Ir3 := Lib.hid (Ir2.out.below (hb.mono (by omega)))
  have Iri3 := Lib.hid (Iri2.out.below (hb.mono (by omega)))
  have s3 : w.heap.size < w3.heap.size := by have := hb.size; omega
  have t3 : decide (k + (s.l.length : Int) + (s.li.length : Int) + (s.d.length : Int) < 0) = false := by simp; omega
  clear hb x0 x1 x2 x3 x4 x5 x6 x7 x8 x9 x10 x11 x12 x13 x14 X2 D2 Il2 Ili2 Id2 Ir2 Iri2
  obtain ⟨x0, x1, x2, x3, x4, x5, x6, x7, x8, x9, x10, x11, x12, x13, x14⟩ := X3.out.box15
  go_wp2_with fail
  refine (heldM_any _ _ Ar s.r.length cr (k + (s.l.length : Int) + (s.li.length : Int) + (s.d.length : Int)) B _ Ir3.out (by omega) (by omega) (by omega) (by omega)).mono ?_
  rintro e w4 ⟨rfl, hb⟩
  have X4 := Lib.hid (X3.out.below hb (by omega))
  have D4 := Lib.hid (D3.out.trans (hb.mono (by omega)))
  have Il4 := Lib.hid (Il3.out.below (hb.mono (by omega)))
  have Ili4 := Lib.hid (Ili3.out.below (hb.mono (by omega)))
  have Id4 := Lib.hid (Id3.out.below (hb.mono (by omega)))
  have Ir4 := Lib.hid (Ir3.out.below (hb.mono (by omega)))
  have Iri4 := Lib.hid (Iri3.out.below (hb.mono (by omega)))
  have s4 : w.heap.size < w4.heap.size := by have := hb.size; omega
  have t4 : decide (k + (s.l.length : Int) + (s.li.length : Int) + (s.d.length : Int) + (s.r.length : Int) < 0) = false := by simp; omega
  clear hb x0 x1 x2 x3 x4 x5 x6 x7 x8 x9 x10 x11 x12 x13 x14 X3 D3 Il3 Ili3 Id3 Ir3 Iri3
  obtain ⟨x0, x1, x2, x3, x4, x5, x6, x7, x8, x9, x10, x11, x12, x13, x14⟩ := X4.out.box15
  go_wp2_with fail
  refine (heldM_any _ _ Ari s.ri.length cri (k + (s.l.length : Int) + (s.li.length : Int) + (s.d.length : Int) + (s.r.length : Int)) B _ Iri4.out (by omega) (by omega) (by omega) (by omega)).mono ?_
  rintro e w5 ⟨rfl, hb⟩
  have X5 := Lib.hid (X4.out.below hb (by omega))
  have D5 := Lib.hid (D4.out.trans (hb.mono (by omega)))
  have Il5 := Lib.hid (Il4.out.below (hb.mono (by omega)))
  have Ili5 := Lib.hid (Ili4.out.below (hb.mono (by omega)))
  have Id5 := Lib.hid (Id4.out.below (hb.mono (by omega)))
  have Ir5 := Lib.hid (Ir4.out.below (hb.mono (by omega)))
  have Iri5 := Lib.hid (Iri4.out.below (hb.mono (by omega)))
  have s5 : w.heap.size < w5.heap.size := by have := hb.size; omega
  have t5 : decide (k + (s.l.length : Int) + (s.li.length : Int) + (s.d.length : Int) + (s.r.length : Int) + (s.ri.length : Int) < 0) = false := by simp; omega
  clear hb x0 x1 x2 x3 x4 x5 x6 x7 x8 x9 x10 x11 x12 x13 x14 X4 D4 Il4 Ili4 Id4 Ir4 Iri4
  go_wp2
  go_ret
  exact ⟨rfl, D5.out⟩

theorem ResR.red {w w' : World} {R C code : Int} {s : Sm.St} {e : Ending} (h : ResR w R C s code e w') :
    ∃ (Al Ali Ad Ar Ari : Option Addr) (cl cli cd cr cri : Nat), e = .returned (.tuple #[.agg #[.int .i64 R, .int .i64 R, .slice Al s.l.length cl, .int .i64 R, .int .i64 R, .slice Ali s.li.length cli, .int .i64 R, .int .i64 C, .slice Ad s.d.length cd, .int .i64 C, .int .i64 C, .slice Ar s.r.length cr, .int .i64 C, .int .i64 C, .slice Ari s.ri.length cri], .int .i64 code]) ∧ RedOwn w' w.heap.size w'.heap.size s Al Ali Ad Ar Ari cl cli cd cr cri ∧ Below w.heap.size w w' := by
  obtain ⟨b1, b2, b3, b4, Ad, Al, Ali, Ar, Ari, cd, cl, cli, cr, cri, rfl, i0, i1, i2, i3, i4, hd, hl, hli, hr, hri, hb⟩ := h
  exact ⟨Al, Ali, Ad, Ar, Ari, cl, cli, cd, cr, cri, rfl, ⟨b1, b2, b3, b4, i0, i1, i2, i3, i4, hd, hl, hli, hr, hri⟩, hb⟩
theorem RedOwn.wide {w : World} {lo hi lo' hi' : Nat} {s : Sm.St} {Al Ali Ad Ar Ari : Option Addr} {cl cli cd cr cri : Nat} (h : RedOwn w lo hi s Al Ali Ad Ar Ari cl cli cd cr cri) (h1 : lo' ≤ lo) (h2 : hi ≤ hi') : RedOwn w lo' hi' s Al Ali Ad Ar Ari cl cli cd cr cri := by
  obtain ⟨b1, b2, b3, b4, i0, i1, i2, i3, i4, hd, hl, hli, hr, hri⟩ := h
  exact ⟨b1, b2, b3, b4, by omega, i1, i2, i3, by omega, hd.wide h1 (Nat.le_refl _), hl, hli, hr, hri.wide (Nat.le_refl _) h2⟩

end Go.Proofs.Ytdbljeglnhefmaa
