/- The laws' helpers over reductions: comparison and marks. No condition but those that each theorem names. -/
import Derived.Test.YtgmkcmdnbfolhaaSmS
namespace Go.Proofs.Ytgmkcmdnbfolhaa
open Go.RowKit

/-- The five matrices of a reduction, each read as a list. -/
def RedInts (w : World) (B : Nat) (s : Sm.St) (Al Ali Ad Ar Ari : Option Addr) : Prop :=
  Ints w B Al s.l.length s.l ∧ Ints w B Ali s.li.length s.li ∧ Ints w B Ad s.d.length s.d ∧ Ints w B Ar s.r.length s.r ∧ Ints w B Ari s.ri.length s.ri
/-- The five matrices of a reduction lie between two block numbers, each owned. -/
def RedOwn (w : World) (lo hi : Nat) (s : Sm.St) (Al Ali Ad Ar Ari : Option Addr) (cl cli cd cr cri : Nat) : Prop :=
  ∃ b1 b2 b3 b4, lo ≤ b1 ∧ b1 ≤ b2 ∧ b2 ≤ b3 ∧ b3 ≤ b4 ∧ b4 ≤ hi ∧ Own w lo b1 Ad s.d.length cd s.d ∧ Own w b1 b2 Al s.l.length cl s.l ∧ Own w b2 b3 Ali s.li.length cli s.li ∧ Own w b3 b4 Ar s.r.length cr s.r ∧ Own w b4 hi Ari s.ri.length cri s.ri
/-- No matrix is large. -/
def Small (s : Sm.St) : Prop := s.l.length ≤ 2304 ∧ s.li.length ≤ 2304 ∧ s.d.length ≤ 2304 ∧ s.r.length ≤ 2304 ∧ s.ri.length ≤ 2304
theorem RedInts.below {w w' : World} {B : Nat} {s : Sm.St} {Al Ali Ad Ar Ari : Option Addr} (h : RedInts w B s Al Ali Ad Ar Ari) (hb : Below B w w') : RedInts w' B s Al Ali Ad Ar Ari :=
  ⟨h.1.below hb, h.2.1.below hb, h.2.2.1.below hb, h.2.2.2.1.below hb, h.2.2.2.2.below hb⟩
theorem RedOwn.ints {w : World} {lo hi B : Nat} {s : Sm.St} {Al Ali Ad Ar Ari : Option Addr} {cl cli cd cr cri : Nat} (h : RedOwn w lo hi s Al Ali Ad Ar Ari cl cli cd cr cri) (hB : hi ≤ B) : RedInts w B s Al Ali Ad Ar Ari := by
  obtain ⟨b1, b2, b3, b4, i0, i1, i2, i3, i4, h1, h2, h3, h4, h5⟩ := h
  exact ⟨h2.ints.more (by omega), h3.ints.more (by omega), h1.ints.more (by omega), h4.ints.more (by omega), h5.ints.more hB⟩
theorem RedOwn.below {w w' : World} {lo hi B : Nat} {s : Sm.St} {Al Ali Ad Ar Ari : Option Addr} {cl cli cd cr cri : Nat} (h : RedOwn w lo hi s Al Ali Ad Ar Ari cl cli cd cr cri) (hb : Below B w w') (hh : hi ≤ B) : RedOwn w' lo hi s Al Ali Ad Ar Ari cl cli cd cr cri := by
  obtain ⟨b1, b2, b3, b4, i0, i1, i2, i3, i4, h1, h2, h3, h4, h5⟩ := h
  exact ⟨b1, b2, b3, b4, i0, i1, i2, i3, i4, h1.below hb (by omega), h2.below hb (by omega), h3.below hb (by omega), h4.below hb (by omega), h5.below hb hh⟩
theorem RedOwn.kept {w w' : World} {lo hi lo' hi' : Nat} {s : Sm.St} {Al Ali Ad Ar Ari : Option Addr} {cl cli cd cr cri : Nat} (h : RedOwn w lo hi s Al Ali Ad Ar Ari cl cli cd cr cri) (hk : Kept lo' hi' w w') (hd : hi ≤ lo' ∨ hi' ≤ lo) (hh : hi ≤ w.heap.size) : RedOwn w' lo hi s Al Ali Ad Ar Ari cl cli cd cr cri := by
  obtain ⟨b1, b2, b3, b4, i0, i1, i2, i3, i4, h1, h2, h3, h4, h5⟩ := h
  exact ⟨b1, b2, b3, b4, i0, i1, i2, i3, i4, h1.kept hk (by omega) (by omega), h2.kept hk (by omega) (by omega), h3.kept hk (by omega) (by omega), h4.kept hk (by omega) (by omega), h5.kept hk (by omega) (by omega)⟩

set_option maxRecDepth 100000 in
set_option maxHeartbeats 4000000 in
theorem eqR_any {R C : Int} (s : Sm.St) {Al Ali Ad Ar Ari Al' Ali' Ad' Ar' Ari' : Option Addr} {cl cli cd cr cri cl' cli' cd' cr' cri' : Nat} (B B' : Nat) (w : World) (hB : B ≤ w.heap.size) (hB' : B' ≤ w.heap.size) (h : RedInts w B s Al Ali Ad Ar Ari) (h' : RedInts w B' s Al' Ali' Ad' Ar' Ari') (hn : Small s) :
    Calls Try.prog 20 #[.agg #[.int .i64 R, .int .i64 R, .slice Al s.l.length cl, .int .i64 R, .int .i64 R, .slice Ali s.li.length cli, .int .i64 R, .int .i64 C, .slice Ad s.d.length cd, .int .i64 C, .int .i64 C, .slice Ar s.r.length cr, .int .i64 C, .int .i64 C, .slice Ari s.ri.length cri], .agg #[.int .i64 R, .int .i64 R, .slice Al' s.l.length cl', .int .i64 R, .int .i64 R, .slice Ali' s.li.length cli', .int .i64 R, .int .i64 C, .slice Ad' s.d.length cd', .int .i64 C, .int .i64 C, .slice Ar' s.r.length cr', .int .i64 C, .int .i64 C, .slice Ari' s.ri.length cri']] w fun e w' => e = .returned (.bool true) ∧ Below w.heap.size w w' := by
  obtain ⟨n1, n2, n3, n4, n5⟩ := hn
  have X0 := Lib.hid ((Row.new w #[.int .i64 R, .int .i64 R, .slice Al s.l.length cl, .int .i64 R, .int .i64 R, .slice Ali s.li.length cli, .int .i64 R, .int .i64 C, .slice Ad s.d.length cd, .int .i64 C, .int .i64 C, .slice Ar s.r.length cr, .int .i64 C, .int .i64 C, .slice Ari s.ri.length cri] 43).below (al1 (w.alloc (Obj.cells #[.int .i64 R, .int .i64 R, .slice Al s.l.length cl, .int .i64 R, .int .i64 R, .slice Ali s.li.length cli, .int .i64 R, .int .i64 C, .slice Ad s.d.length cd, .int .i64 C, .int .i64 C, .slice Ar s.r.length cr, .int .i64 C, .int .i64 C, .slice Ari s.ri.length cri] 43)) (Obj.cells #[.int .i64 R, .int .i64 R, .slice Al' s.l.length cl', .int .i64 R, .int .i64 R, .slice Ali' s.li.length cli', .int .i64 R, .int .i64 C, .slice Ad' s.d.length cd', .int .i64 C, .int .i64 C, .slice Ar' s.r.length cr', .int .i64 C, .int .i64 C, .slice Ari' s.ri.length cri'] 43)) (by simp))
  have Y0 := Lib.hid (Row.new (w.alloc (Obj.cells #[.int .i64 R, .int .i64 R, .slice Al s.l.length cl, .int .i64 R, .int .i64 R, .slice Ali s.li.length cli, .int .i64 R, .int .i64 C, .slice Ad s.d.length cd, .int .i64 C, .int .i64 C, .slice Ar s.r.length cr, .int .i64 C, .int .i64 C, .slice Ari s.ri.length cri] 43)) #[.int .i64 R, .int .i64 R, .slice Al' s.l.length cl', .int .i64 R, .int .i64 R, .slice Ali' s.li.length cli', .int .i64 R, .int .i64 C, .slice Ad' s.d.length cd', .int .i64 C, .int .i64 C, .slice Ar' s.r.length cr', .int .i64 C, .int .i64 C, .slice Ari' s.ri.length cri'] 43)
  have D0 := Lib.hid (al2 w (Obj.cells #[.int .i64 R, .int .i64 R, .slice Al s.l.length cl, .int .i64 R, .int .i64 R, .slice Ali s.li.length cli, .int .i64 R, .int .i64 C, .slice Ad s.d.length cd, .int .i64 C, .int .i64 C, .slice Ar s.r.length cr, .int .i64 C, .int .i64 C, .slice Ari s.ri.length cri] 43) (Obj.cells #[.int .i64 R, .int .i64 R, .slice Al' s.l.length cl', .int .i64 R, .int .i64 R, .slice Ali' s.li.length cli', .int .i64 R, .int .i64 C, .slice Ad' s.d.length cd', .int .i64 C, .int .i64 C, .slice Ar' s.r.length cr', .int .i64 C, .int .i64 C, .slice Ari' s.ri.length cri'] 43))
  have I0 := Lib.hid (h.below (D0.out.mono hB))
  have J0 := Lib.hid (h'.below (D0.out.mono hB'))
  simp only [World.size_alloc] at Y0
  clear h h'
  go_enter Try.func20, Try.ntmps20
  go_wp2_with fail
  obtain ⟨W0, hW0⟩ : ∃ W0, W0 = ((w.alloc (Obj.cells #[.int .i64 R, .int .i64 R, .slice Al s.l.length cl, .int .i64 R, .int .i64 R, .slice Ali s.li.length cli, .int .i64 R, .int .i64 C, .slice Ad s.d.length cd, .int .i64 C, .int .i64 C, .slice Ar s.r.length cr, .int .i64 C, .int .i64 C, .slice Ari s.ri.length cri] 43)).alloc (Obj.cells #[.int .i64 R, .int .i64 R, .slice Al' s.l.length cl', .int .i64 R, .int .i64 R, .slice Ali' s.li.length cli', .int .i64 R, .int .i64 C, .slice Ad' s.d.length cd', .int .i64 C, .int .i64 C, .slice Ar' s.r.length cr', .int .i64 C, .int .i64 C, .slice Ari' s.ri.length cri'] 43)) := ⟨_, rfl⟩
  have s0 : w.heap.size + 1 < W0.heap.size := by rw [hW0]; simp
  rw [← hW0] at X0 Y0 D0 I0 J0
  rw [← hW0]
  clear hW0
  obtain ⟨x0, x1, x2, x3, x4, x5, x6, x7, x8, x9, x10, x11, x12, x13, x14⟩ := X0.out.box15
  obtain ⟨y0, y1, y2, y3, y4, y5, y6, y7, y8, y9, y10, y11, y12, y13, y14⟩ := Y0.out.box15
  go_wp2_with fail
  refine (eqM_any _ _ _ _ _ _ _ s.l B B' _ (by omega) (by omega) I0.out.1 J0.out.1 (by omega)).mono ?_
  rintro e w1 ⟨rfl, hb⟩
  have X1 := Lib.hid (X0.out.below hb (by omega))
  have Y1 := Lib.hid (Y0.out.below hb (by omega))
  have D1 := Lib.hid (D0.out.trans (hb.mono (by omega)))
  have I1 := Lib.hid (I0.out.below (hb.mono (by omega)))
  have J1 := Lib.hid (J0.out.below (hb.mono (by omega)))
  have s1 : w.heap.size + 1 < w1.heap.size := by have := hb.size; omega
  clear hb x0 x1 x2 x3 x4 x5 x6 x7 x8 x9 x10 x11 x12 x13 x14 y0 y1 y2 y3 y4 y5 y6 y7 y8 y9 y10 y11 y12 y13 y14 X0 Y0 D0 I0 J0
  obtain ⟨x0, x1, x2, x3, x4, x5, x6, x7, x8, x9, x10, x11, x12, x13, x14⟩ := X1.out.box15
  obtain ⟨y0, y1, y2, y3, y4, y5, y6, y7, y8, y9, y10, y11, y12, y13, y14⟩ := Y1.out.box15
  go_wp2_with fail
  refine (eqM_any _ _ _ _ _ _ _ s.li B B' _ (by omega) (by omega) I1.out.2.1 J1.out.2.1 (by omega)).mono ?_
  rintro e w2 ⟨rfl, hb⟩
  have X2 := Lib.hid (X1.out.below hb (by omega))
  have Y2 := Lib.hid (Y1.out.below hb (by omega))
  have D2 := Lib.hid (D1.out.trans (hb.mono (by omega)))
  have I2 := Lib.hid (I1.out.below (hb.mono (by omega)))
  have J2 := Lib.hid (J1.out.below (hb.mono (by omega)))
  have s2 : w.heap.size + 1 < w2.heap.size := by have := hb.size; omega
  clear hb x0 x1 x2 x3 x4 x5 x6 x7 x8 x9 x10 x11 x12 x13 x14 y0 y1 y2 y3 y4 y5 y6 y7 y8 y9 y10 y11 y12 y13 y14 X1 Y1 D1 I1 J1
  obtain ⟨x0, x1, x2, x3, x4, x5, x6, x7, x8, x9, x10, x11, x12, x13, x14⟩ := X2.out.box15
  obtain ⟨y0, y1, y2, y3, y4, y5, y6, y7, y8, y9, y10, y11, y12, y13, y14⟩ := Y2.out.box15
  go_wp2_with fail
  refine (eqM_any _ _ _ _ _ _ _ s.d B B' _ (by omega) (by omega) I2.out.2.2.1 J2.out.2.2.1 (by omega)).mono ?_
  rintro e w3 ⟨rfl, hb⟩
  have X3 := Lib.hid (X2.out.below hb (by omega))
  have Y3 := Lib.hid (Y2.out.below hb (by omega))
  have D3 := Lib.hid (D2.out.trans (hb.mono (by omega)))
  have I3 := Lib.hid (I2.out.below (hb.mono (by omega)))
  have J3 := Lib.hid (J2.out.below (hb.mono (by omega)))
  have s3 : w.heap.size + 1 < w3.heap.size := by have := hb.size; omega
  clear hb x0 x1 x2 x3 x4 x5 x6 x7 x8 x9 x10 x11 x12 x13 x14 y0 y1 y2 y3 y4 y5 y6 y7 y8 y9 y10 y11 y12 y13 y14 X2 Y2 D2 I2 J2
  obtain ⟨x0, x1, x2, x3, x4, x5, x6, x7, x8, x9, x10, x11, x12, x13, x14⟩ := X3.out.box15
  obtain ⟨y0, y1, y2, y3, y4, y5, y6, y7, y8, y9, y10, y11, y12, y13, y14⟩ := Y3.out.box15
  go_wp2_with fail
  refine (eqM_any _ _ _ _ _ _ _ s.r B B' _ (by omega) (by omega) I3.out.2.2.2.1 J3.out.2.2.2.1 (by omega)).mono ?_
  rintro e w4 ⟨rfl, hb⟩
  have X4 := Lib.hid (X3.out.below hb (by omega))
  have Y4 := Lib.hid (Y3.out.below hb (by omega))
  have D4 := Lib.hid (D3.out.trans (hb.mono (by omega)))
  have I4 := Lib.hid (I3.out.below (hb.mono (by omega)))
  have J4 := Lib.hid (J3.out.below (hb.mono (by omega)))
  have s4 : w.heap.size + 1 < w4.heap.size := by have := hb.size; omega
  clear hb x0 x1 x2 x3 x4 x5 x6 x7 x8 x9 x10 x11 x12 x13 x14 y0 y1 y2 y3 y4 y5 y6 y7 y8 y9 y10 y11 y12 y13 y14 X3 Y3 D3 I3 J3
  obtain ⟨x0, x1, x2, x3, x4, x5, x6, x7, x8, x9, x10, x11, x12, x13, x14⟩ := X4.out.box15
  obtain ⟨y0, y1, y2, y3, y4, y5, y6, y7, y8, y9, y10, y11, y12, y13, y14⟩ := Y4.out.box15
  go_wp2_with fail
  refine (eqM_any _ _ _ _ _ _ _ s.ri B B' _ (by omega) (by omega) I4.out.2.2.2.2 J4.out.2.2.2.2 (by omega)).mono ?_
  rintro e w5 ⟨rfl, hb⟩
  have X5 := Lib.hid (X4.out.below hb (by omega))
  have Y5 := Lib.hid (Y4.out.below hb (by omega))
  have D5 := Lib.hid (D4.out.trans (hb.mono (by omega)))
  have I5 := Lib.hid (I4.out.below (hb.mono (by omega)))
  have J5 := Lib.hid (J4.out.below (hb.mono (by omega)))
  have s5 : w.heap.size + 1 < w5.heap.size := by have := hb.size; omega
  clear hb x0 x1 x2 x3 x4 x5 x6 x7 x8 x9 x10 x11 x12 x13 x14 y0 y1 y2 y3 y4 y5 y6 y7 y8 y9 y10 y11 y12 y13 y14 X4 Y4 D4 I4 J4
  go_wp2
  go_ret
  exact ⟨rfl, D5.out⟩

/-- The state with marks from k on in place of its entries. -/
def markSt (k : Int) (s : Sm.St) : Sm.St := ⟨marks k s.l.length, marks (k + s.l.length) s.li.length, marks (k + s.l.length + s.li.length) s.d.length, marks (k + s.l.length + s.li.length + s.d.length) s.r.length, marks (k + s.l.length + s.li.length + s.d.length + s.r.length) s.ri.length⟩
def sizeSt (s : Sm.St) : Int := s.l.length + s.li.length + s.d.length + s.r.length + s.ri.length

theorem ResR.red {w w' : World} {R C code : Int} {s : Sm.St} {e : Ending} (h : ResR w R C s code e w') :
    ∃ (Al Ali Ad Ar Ari : Option Addr) (cl cli cd cr cri : Nat), e = .returned (.tuple #[.agg #[.int .i64 R, .int .i64 R, .slice Al s.l.length cl, .int .i64 R, .int .i64 R, .slice Ali s.li.length cli, .int .i64 R, .int .i64 C, .slice Ad s.d.length cd, .int .i64 C, .int .i64 C, .slice Ar s.r.length cr, .int .i64 C, .int .i64 C, .slice Ari s.ri.length cri], .int .i64 code]) ∧ RedOwn w' w.heap.size w'.heap.size s Al Ali Ad Ar Ari cl cli cd cr cri ∧ Below w.heap.size w w' := by
  obtain ⟨b1, b2, b3, b4, Ad, Al, Ali, Ar, Ari, cd, cl, cli, cr, cri, rfl, i0, i1, i2, i3, i4, hd, hl, hli, hr, hri, hb⟩ := h
  exact ⟨Al, Ali, Ad, Ar, Ari, cl, cli, cd, cr, cri, rfl, ⟨b1, b2, b3, b4, i0, i1, i2, i3, i4, hd, hl, hli, hr, hri⟩, hb⟩
theorem RedOwn.wide {w : World} {lo hi lo' hi' : Nat} {s : Sm.St} {Al Ali Ad Ar Ari : Option Addr} {cl cli cd cr cri : Nat} (h : RedOwn w lo hi s Al Ali Ad Ar Ari cl cli cd cr cri) (h1 : lo' ≤ lo) (h2 : hi ≤ hi') : RedOwn w lo' hi' s Al Ali Ad Ar Ari cl cli cd cr cri := by
  obtain ⟨b1, b2, b3, b4, i0, i1, i2, i3, i4, hd, hl, hli, hr, hri⟩ := h
  exact ⟨b1, b2, b3, b4, by omega, i1, i2, i3, by omega, hd.wide h1 (Nat.le_refl _), hl, hli, hr, hri.wide (Nat.le_refl _) h2⟩

end Go.Proofs.Ytgmkcmdnbfolhaa
