/- The program's IsReduction. No condition but those that each theorem names. -/
import Derived.Test.YtgmkcmdnbfolhaaIsrB
import Derived.Test.YtgmkcmdnbfolhaaSmO
namespace Go.Proofs.Ytgmkcmdnbfolhaa
open Go.RowKit

/-- The five matrices of a reduction are valid and have the sides of a reduction of a matrix with r rows and q columns. -/
def FitsR (r q r0 q0 r1 q1 r2 q2 r3 q3 r4 q4 : Int) (z0 z1 z2 z3 z4 : List Int) : Prop := SizedAs r0 q0 r r z0 ∧ SizedAs r1 q1 r r z1 ∧ SizedAs r2 q2 r q z2 ∧ SizedAs r3 q3 q q z3 ∧ SizedAs r4 q4 q q z4

set_option maxRecDepth 100000 in
set_option maxHeartbeats 4000000 in
theorem fits_impl (r q : Int) (A : Option Addr) (n c : Nat) (r0 q0 r1 q1 r2 q2 r3 q3 r4 q4 : Int) (A0 A1 A2 A3 A4 : Option Addr) (n0 c0 n1 c1 n2 c2 n3 c3 n4 c4 : Nat) (z0 z1 z2 z3 z4 : List Int) (w : World) (h0 : Ints w w.heap.size A0 n0 z0) (m0 : n0 ≤ 1048576) (h1 : Ints w w.heap.size A1 n1 z1) (m1 : n1 ≤ 1048576) (h2 : Ints w w.heap.size A2 n2 z2) (m2 : n2 ≤ 1048576) (h3 : Ints w w.heap.size A3 n3 z3) (m3 : n3 ≤ 1048576) (h4 : Ints w w.heap.size A4 n4 z4) (m4 : n4 ≤ 1048576) :
    Calls Try.prog 45 #[.agg #[.int .i64 r0, .int .i64 q0, .slice A0 n0 c0, .int .i64 r1, .int .i64 q1, .slice A1 n1 c1, .int .i64 r2, .int .i64 q2, .slice A2 n2 c2, .int .i64 r3, .int .i64 q3, .slice A3 n3 c3, .int .i64 r4, .int .i64 q4, .slice A4 n4 c4], .agg #[.int .i64 r, .int .i64 q, .slice A n c]] w (SaysB (FitsR r q r0 q0 r1 q1 r2 q2 r3 q3 r4 q4 z0 z1 z2 z3 z4) w.heap.size w) := by
  have D0 := Lib.hid (al2 w (Obj.cells #[.int .i64 r0, .int .i64 q0, .slice A0 n0 c0, .int .i64 r1, .int .i64 q1, .slice A1 n1 c1, .int .i64 r2, .int .i64 q2, .slice A2 n2 c2, .int .i64 r3, .int .i64 q3, .slice A3 n3 c3, .int .i64 r4, .int .i64 q4, .slice A4 n4 c4] 43) (Obj.cells #[.int .i64 r, .int .i64 q, .slice A n c] 40))
  have X0 := Lib.hid ((Row.new w #[.int .i64 r0, .int .i64 q0, .slice A0 n0 c0, .int .i64 r1, .int .i64 q1, .slice A1 n1 c1, .int .i64 r2, .int .i64 q2, .slice A2 n2 c2, .int .i64 r3, .int .i64 q3, .slice A3 n3 c3, .int .i64 r4, .int .i64 q4, .slice A4 n4 c4] 43).below (al1 (w.alloc (Obj.cells #[.int .i64 r0, .int .i64 q0, .slice A0 n0 c0, .int .i64 r1, .int .i64 q1, .slice A1 n1 c1, .int .i64 r2, .int .i64 q2, .slice A2 n2 c2, .int .i64 r3, .int .i64 q3, .slice A3 n3 c3, .int .i64 r4, .int .i64 q4, .slice A4 n4 c4] 43)) (Obj.cells #[.int .i64 r, .int .i64 q, .slice A n c] 40)) (by simp))
  have Y0 := Lib.hid (Box3.new (w.alloc (Obj.cells #[.int .i64 r0, .int .i64 q0, .slice A0 n0 c0, .int .i64 r1, .int .i64 q1, .slice A1 n1 c1, .int .i64 r2, .int .i64 q2, .slice A2 n2 c2, .int .i64 r3, .int .i64 q3, .slice A3 n3 c3, .int .i64 r4, .int .i64 q4, .slice A4 n4 c4] 43)) 40 (.int .i64 r) (.int .i64 q) (.slice A n c))
  simp only [World.size_alloc] at Y0
  have I0 := Lib.hid h0
  have I1 := Lib.hid h1
  have I2 := Lib.hid h2
  have I3 := Lib.hid h3
  have I4 := Lib.hid h4
  clear h0 h1 h2 h3 h4
  go_enter Try.func45, Try.ntmps45
  go_wp2_with fail
  obtain ⟨W0, hW0⟩ : ∃ W0, W0 = ((w.alloc (Obj.cells #[.int .i64 r0, .int .i64 q0, .slice A0 n0 c0, .int .i64 r1, .int .i64 q1, .slice A1 n1 c1, .int .i64 r2, .int .i64 q2, .slice A2 n2 c2, .int .i64 r3, .int .i64 q3, .slice A3 n3 c3, .int .i64 r4, .int .i64 q4, .slice A4 n4 c4] 43)).alloc (Obj.cells #[.int .i64 r, .int .i64 q, .slice A n c] 40)) := ⟨_, rfl⟩
  have s0 : w.heap.size + 1 < W0.heap.size := by rw [hW0]; simp
  rw [← hW0] at X0 Y0 D0
  rw [← hW0]
  clear hW0
  obtain ⟨x0, x1, x2, x3, x4, x5, x6, x7, x8, x9, x10, x11, x12, x13, x14⟩ := X0.out.box15
  obtain ⟨y0, y1, y2⟩ := Y0.out
  go_wp2_with fail
  refine (sized_impl r0 q0 r r A0 n0 c0 z0 _ (I0.out.into D0.out) m0).mono ?_
  rintro e w1 ⟨v, rfl, hv, hb⟩
  have D1 := Lib.hid (D0.out.trans (hb.mono D0.out.size))
  have X1 := Lib.hid (X0.out.below hb (by omega))
  have Y1 := Lib.hid (Y0.out.below hb (by omega))
  have s1 : w.heap.size + 1 < w1.heap.size := by have := hb.size; omega
  have V0 := Lib.hid hv
  clear hv hb x0 x1 x2 x3 x4 x5 x6 x7 x8 x9 x10 x11 x12 x13 x14 y0 y1 y2 X0 Y0
  cases v with
  | false =>
    go_wp2
    go_ret
    exact SaysB.f (fun h => by have := V0.out.2 h.1; simp at this) D1.out
  | true =>
  have V := Lib.hid (V0.out.1 rfl)
  clear V0
  have V0 := V
  clear V
  obtain ⟨x0, x1, x2, x3, x4, x5, x6, x7, x8, x9, x10, x11, x12, x13, x14⟩ := X1.out.box15
  obtain ⟨y0, y1, y2⟩ := Y1.out
  go_wp2_with fail
  refine (sized_impl r1 q1 r r A1 n1 c1 z1 _ (I1.out.into D1.out) m1).mono ?_
  rintro e w2 ⟨v, rfl, hv, hb⟩
  have D2 := Lib.hid (D1.out.trans (hb.mono D1.out.size))
  have X2 := Lib.hid (X1.out.below hb (by omega))
  have Y2 := Lib.hid (Y1.out.below hb (by omega))
  have s2 : w.heap.size + 1 < w2.heap.size := by have := hb.size; omega
  have V1 := Lib.hid hv
  clear hv hb x0 x1 x2 x3 x4 x5 x6 x7 x8 x9 x10 x11 x12 x13 x14 y0 y1 y2 X1 Y1
  cases v with
  | false =>
    go_wp2
    go_ret
    exact SaysB.f (fun h => by have := V1.out.2 h.2.1; simp at this) D2.out
  | true =>
  have V := Lib.hid (V1.out.1 rfl)
  clear V1
  have V1 := V
  clear V
  obtain ⟨x0, x1, x2, x3, x4, x5, x6, x7, x8, x9, x10, x11, x12, x13, x14⟩ := X2.out.box15
  obtain ⟨y0, y1, y2⟩ := Y2.out
  go_wp2_with fail
  refine (sized_impl r2 q2 r q A2 n2 c2 z2 _ (I2.out.into D2.out) m2).mono ?_
  rintro e w3 ⟨v, rfl, hv, hb⟩
  have D3 := Lib.hid (D2.out.trans (hb.mono D2.out.size))
  have X3 := Lib.hid (X2.out.below hb (by omega))
  have Y3 := Lib.hid (Y2.out.below hb (by omega))
  have s3 : w.heap.size + 1 < w3.heap.size := by have := hb.size; omega
  have V2 := Lib.hid hv
  clear hv hb x0 x1 x2 x3 x4 x5 x6 x7 x8 x9 x10 x11 x12 x13 x14 y0 y1 y2 X2 Y2
  cases v with
  | false =>
    go_wp2
    go_ret
    exact SaysB.f (fun h => by have := V2.out.2 h.2.2.1; simp at this) D3.out
  | true =>
  have V := Lib.hid (V2.out.1 rfl)
  clear V2
  have V2 := V
  clear V
  obtain ⟨x0, x1, x2, x3, x4, x5, x6, x7, x8, x9, x10, x11, x12, x13, x14⟩ := X3.out.box15
  obtain ⟨y0, y1, y2⟩ := Y3.out
  go_wp2_with fail
  refine (sized_impl r3 q3 q q A3 n3 c3 z3 _ (I3.out.into D3.out) m3).mono ?_
  rintro e w4 ⟨v, rfl, hv, hb⟩
  have D4 := Lib.hid (D3.out.trans (hb.mono D3.out.size))
  have X4 := Lib.hid (X3.out.below hb (by omega))
  have Y4 := Lib.hid (Y3.out.below hb (by omega))
  have s4 : w.heap.size + 1 < w4.heap.size := by have := hb.size; omega
  have V3 := Lib.hid hv
  clear hv hb x0 x1 x2 x3 x4 x5 x6 x7 x8 x9 x10 x11 x12 x13 x14 y0 y1 y2 X3 Y3
  cases v with
  | false =>
    go_wp2
    go_ret
    exact SaysB.f (fun h => by have := V3.out.2 h.2.2.2.1; simp at this) D4.out
  | true =>
  have V := Lib.hid (V3.out.1 rfl)
  clear V3
  have V3 := V
  clear V
  obtain ⟨x0, x1, x2, x3, x4, x5, x6, x7, x8, x9, x10, x11, x12, x13, x14⟩ := X4.out.box15
  obtain ⟨y0, y1, y2⟩ := Y4.out
  go_wp2_with fail
  refine (sized_impl r4 q4 q q A4 n4 c4 z4 _ (I4.out.into D4.out) m4).mono ?_
  rintro e w5 ⟨v, rfl, hv, hb⟩
  have D5 := Lib.hid (D4.out.trans (hb.mono D4.out.size))
  have X5 := Lib.hid (X4.out.below hb (by omega))
  have Y5 := Lib.hid (Y4.out.below hb (by omega))
  have s5 : w.heap.size + 1 < w5.heap.size := by have := hb.size; omega
  have V4 := Lib.hid hv
  clear hv hb x0 x1 x2 x3 x4 x5 x6 x7 x8 x9 x10 x11 x12 x13 x14 y0 y1 y2 X4 Y4
  go_wp2
  go_ret
  exact ⟨v, rfl, ⟨fun e => ⟨V0.out, V1.out, V2.out, V3.out, V4.out.1 e⟩, fun e => V4.out.2 e.2.2.2.2⟩, D5.out⟩

/-- What makes a reduction of a matrix with R rows and C columns, all sides given. -/
def RedOk (R C : Nat) (zs z0 z1 z2 z3 z4 : List Int) : Prop :=
  SDiag R C z2 ∧ Undo R z1 z0 ∧ Undo C z4 z3 ∧ Fits R C z0 zs (R * C) ∧ Fits C C (pl R C z0 zs (R * C) (R * C)) z3 (R * C) ∧ pl C C (pl R C z0 zs (R * C) (R * C)) z3 (R * C) (R * C) = z2
/-- A reduction of a matrix. -/
def IsRed (r q : Int) (zs : List Int) (r0 q0 r1 q1 r2 q2 r3 q3 r4 q4 : Int) (z0 z1 z2 z3 z4 : List Int) : Prop :=
  MOk r q zs ∧ FitsR r q r0 q0 r1 q1 r2 q2 r3 q3 r4 q4 z0 z1 z2 z3 z4 ∧ RedOk r.toNat q.toNat zs z0 z1 z2 z3 z4

theorem pl_at (K C : Nat) (zs ys : List Int) (N : Nat) : ∀ t i : Nat, i < t → i < N → (pl K C zs ys N t).getD i 0 = dotS K C zs ys (i / C) (i % C) K
  | 0, i, h, _ => by omega
  | t + 1, i, h, hN => by
    rw [pl, List.getD_eq_getElem?_getD]
    by_cases e : i = t
    · subst e
      rw [List.getElem?_set_self (by rw [pl_len]; exact hN)]
      rfl
    · rw [List.getElem?_set_ne (by omega), ← List.getD_eq_getElem?_getD]
      exact pl_at K C zs ys N t i (by omega) hN
theorem pl_ok {R K C : Nat} {zs ys : List Int} (hR : R ≤ 48) (hC : C ≤ 48) (hF : Fits K C zs ys (R * C)) : MOk R C (pl K C zs ys (R * C) (R * C)) := by
  refine ⟨by omega, by omega, by omega, by omega, by rw [pl_len, castM], fun i hi => ?_⟩
  rw [pl_len] at hi
  rw [pl_at _ _ _ _ _ _ _ hi hi]
  exact mg_ge (Int.le_trans (dotS_le _ _ _ _ _ _ _) (hF i hi))

set_option maxRecDepth 100000 in
set_option maxHeartbeats 4000000 in
theorem isr_impl_badM (r q : Int) (A : Option Addr) (n c : Nat) (zs : List Int) (r0 q0 r1 q1 r2 q2 r3 q3 r4 q4 : Int) (A0 A1 A2 A3 A4 : Option Addr) (n0 c0 n1 c1 n2 c2 n3 c3 n4 c4 : Nat) (w : World) (h : Ints w w.heap.size A n zs) (m : n ≤ 1048576) (hP : ¬ MOk r q zs) :
    Calls Try.prog 18 #[.agg #[.int .i64 r, .int .i64 q, .slice A n c], .agg #[.int .i64 r0, .int .i64 q0, .slice A0 n0 c0, .int .i64 r1, .int .i64 q1, .slice A1 n1 c1, .int .i64 r2, .int .i64 q2, .slice A2 n2 c2, .int .i64 r3, .int .i64 q3, .slice A3 n3 c3, .int .i64 r4, .int .i64 q4, .slice A4 n4 c4]] w (fun e w' => e = .returned (.bool false) ∧ Below w.heap.size w w') := by
  have D0 := Lib.hid (al2 w (Obj.cells #[.int .i64 r, .int .i64 q, .slice A n c] 40) (Obj.cells #[.int .i64 r0, .int .i64 q0, .slice A0 n0 c0, .int .i64 r1, .int .i64 q1, .slice A1 n1 c1, .int .i64 r2, .int .i64 q2, .slice A2 n2 c2, .int .i64 r3, .int .i64 q3, .slice A3 n3 c3, .int .i64 r4, .int .i64 q4, .slice A4 n4 c4] 43))
  have Y0 := Lib.hid ((Box3.new w 40 (.int .i64 r) (.int .i64 q) (.slice A n c)).below (al1 _ (Obj.cells #[.int .i64 r0, .int .i64 q0, .slice A0 n0 c0, .int .i64 r1, .int .i64 q1, .slice A1 n1 c1, .int .i64 r2, .int .i64 q2, .slice A2 n2 c2, .int .i64 r3, .int .i64 q3, .slice A3 n3 c3, .int .i64 r4, .int .i64 q4, .slice A4 n4 c4] 43)) (by simp))
  have IM := Lib.hid ((isM_impl r q A n c zs _ (h.into D0.out) m).mono fun _ _ h => h.no hP)
  clear h hP
  obtain ⟨y0, y1, y2⟩ := Y0.out
  go_enter Try.func18, Try.ntmps18
  go_wp2_with fail
  refine IM.out.mono ?_
  rintro e w1 ⟨rfl, hb⟩
  have D1 := Lib.hid (on2 _ _ hb)
  clear hb y0 y1 y2
  go_wp2
  go_ret
  exact ⟨rfl, D1.out⟩

set_option maxRecDepth 100000 in
set_option maxHeartbeats 4000000 in
theorem isr_impl_badF (r q : Int) (A : Option Addr) (n c : Nat) (zs : List Int) (r0 q0 r1 q1 r2 q2 r3 q3 r4 q4 : Int) (A0 A1 A2 A3 A4 : Option Addr) (n0 c0 n1 c1 n2 c2 n3 c3 n4 c4 : Nat) (z0 z1 z2 z3 z4 : List Int) (w : World) (h : Ints w w.heap.size A n zs) (m : n ≤ 1048576) (h0 : Ints w w.heap.size A0 n0 z0) (m0 : n0 ≤ 1048576) (h1 : Ints w w.heap.size A1 n1 z1) (m1 : n1 ≤ 1048576) (h2 : Ints w w.heap.size A2 n2 z2) (m2 : n2 ≤ 1048576) (h3 : Ints w w.heap.size A3 n3 z3) (m3 : n3 ≤ 1048576) (h4 : Ints w w.heap.size A4 n4 z4) (m4 : n4 ≤ 1048576) (hP : MOk r q zs) (hF : ¬ FitsR r q r0 q0 r1 q1 r2 q2 r3 q3 r4 q4 z0 z1 z2 z3 z4) :
    Calls Try.prog 18 #[.agg #[.int .i64 r, .int .i64 q, .slice A n c], .agg #[.int .i64 r0, .int .i64 q0, .slice A0 n0 c0, .int .i64 r1, .int .i64 q1, .slice A1 n1 c1, .int .i64 r2, .int .i64 q2, .slice A2 n2 c2, .int .i64 r3, .int .i64 q3, .slice A3 n3 c3, .int .i64 r4, .int .i64 q4, .slice A4 n4 c4]] w (fun e w' => e = .returned (.bool false) ∧ Below w.heap.size w w') := by
  have D0 := Lib.hid (al2 w (Obj.cells #[.int .i64 r, .int .i64 q, .slice A n c] 40) (Obj.cells #[.int .i64 r0, .int .i64 q0, .slice A0 n0 c0, .int .i64 r1, .int .i64 q1, .slice A1 n1 c1, .int .i64 r2, .int .i64 q2, .slice A2 n2 c2, .int .i64 r3, .int .i64 q3, .slice A3 n3 c3, .int .i64 r4, .int .i64 q4, .slice A4 n4 c4] 43))
  have Y0 := Lib.hid ((Box3.new w 40 (.int .i64 r) (.int .i64 q) (.slice A n c)).below (al1 _ (Obj.cells #[.int .i64 r0, .int .i64 q0, .slice A0 n0 c0, .int .i64 r1, .int .i64 q1, .slice A1 n1 c1, .int .i64 r2, .int .i64 q2, .slice A2 n2 c2, .int .i64 r3, .int .i64 q3, .slice A3 n3 c3, .int .i64 r4, .int .i64 q4, .slice A4 n4 c4] 43)) (by simp))
  have X0 := Lib.hid (Row.new (w.alloc (Obj.cells #[.int .i64 r, .int .i64 q, .slice A n c] 40)) #[.int .i64 r0, .int .i64 q0, .slice A0 n0 c0, .int .i64 r1, .int .i64 q1, .slice A1 n1 c1, .int .i64 r2, .int .i64 q2, .slice A2 n2 c2, .int .i64 r3, .int .i64 q3, .slice A3 n3 c3, .int .i64 r4, .int .i64 q4, .slice A4 n4 c4] 43)
  simp only [World.size_alloc] at X0
  have IM := Lib.hid ((isM_impl r q A n c zs _ (h.into D0.out) m).mono fun _ _ h => h.yes hP)
  have I0 := Lib.hid h0
  have I1 := Lib.hid h1
  have I2 := Lib.hid h2
  have I3 := Lib.hid h3
  have I4 := Lib.hid h4
  have HF := Lib.hid hF
  clear h hP hF h0 h1 h2 h3 h4
  obtain ⟨y0, y1, y2⟩ := Y0.out
  obtain ⟨x0, x1, x2, x3, x4, x5, x6, x7, x8, x9, x10, x11, x12, x13, x14⟩ := X0.out.box15
  go_enter Try.func18, Try.ntmps18
  go_wp2_with fail
  refine IM.out.mono ?_
  rintro e w1 ⟨rfl, hb⟩
  have D1 := Lib.hid (on2 _ _ hb)
  have X1 := Lib.hid (X0.out.below hb (by simp))
  have Y1 := Lib.hid (Y0.out.below hb (by simp <;> omega))
  clear hb y0 y1 y2 x0 x1 x2 x3 x4 x5 x6 x7 x8 x9 x10 x11 x12 x13 x14 X0 Y0
  obtain ⟨x0, x1, x2, x3, x4, x5, x6, x7, x8, x9, x10, x11, x12, x13, x14⟩ := X1.out.box15
  obtain ⟨y0, y1, y2⟩ := Y1.out
  go_wp2_with fail
  refine (fits_impl r q A n c r0 q0 r1 q1 r2 q2 r3 q3 r4 q4 A0 A1 A2 A3 A4 n0 c0 n1 c1 n2 c2 n3 c3 n4 c4 z0 z1 z2 z3 z4 _ (I0.out.into D1.out) m0 (I1.out.into D1.out) m1 (I2.out.into D1.out) m2 (I3.out.into D1.out) m3 (I4.out.into D1.out) m4).mono ?_
  intro e w2 hs
  obtain ⟨rfl, hb⟩ := hs.no HF.out
  have D2 := Lib.hid (D1.out.trans (hb.mono D1.out.size))
  clear hb hs y0 y1 y2 x0 x1 x2 x3 x4 x5 x6 x7 x8 x9 x10 x11 x12 x13 x14 X1 Y1
  go_wp2
  go_ret
  exact ⟨rfl, D2.out⟩

set_option maxRecDepth 100000 in
set_option maxHeartbeats 8000000 in
theorem isr_impl_fit (R C : Nat) (A : Option Addr) (n c : Nat) (zs : List Int) (A0 A1 A2 A3 A4 : Option Addr) (n0 c0 n1 c1 n2 c2 n3 c3 n4 c4 : Nat) (z0 z1 z2 z3 z4 : List Int) (w : World) (h : Ints w w.heap.size A n zs) (m : n ≤ 1048576) (h0 : Ints w w.heap.size A0 n0 z0) (m0 : n0 ≤ 1048576) (h1 : Ints w w.heap.size A1 n1 z1) (m1 : n1 ≤ 1048576) (h2 : Ints w w.heap.size A2 n2 z2) (m2 : n2 ≤ 1048576) (h3 : Ints w w.heap.size A3 n3 z3) (m3 : n3 ≤ 1048576) (h4 : Ints w w.heap.size A4 n4 z4) (m4 : n4 ≤ 1048576) (hR : R ≤ 48) (hC : C ≤ 48) (P : MOk R C zs) (P0 : MOk R R z0) (P1 : MOk R R z1) (P2 : MOk R C z2) (P3 : MOk C C z3) (P4 : MOk C C z4) :
    Calls Try.prog 18 #[.agg #[.int .i64 R, .int .i64 C, .slice A n c], .agg #[.int .i64 R, .int .i64 R, .slice A0 n0 c0, .int .i64 R, .int .i64 R, .slice A1 n1 c1, .int .i64 R, .int .i64 C, .slice A2 n2 c2, .int .i64 C, .int .i64 C, .slice A3 n3 c3, .int .i64 C, .int .i64 C, .slice A4 n4 c4]] w (SaysB (RedOk R C zs z0 z1 z2 z3 z4) w.heap.size w) := by
  have D0 := Lib.hid (al2 w (Obj.cells #[.int .i64 R, .int .i64 C, .slice A n c] 40) (Obj.cells #[.int .i64 R, .int .i64 R, .slice A0 n0 c0, .int .i64 R, .int .i64 R, .slice A1 n1 c1, .int .i64 R, .int .i64 C, .slice A2 n2 c2, .int .i64 C, .int .i64 C, .slice A3 n3 c3, .int .i64 C, .int .i64 C, .slice A4 n4 c4] 43))
  have Y0 := Lib.hid ((Box3.new w 40 (.int .i64 R) (.int .i64 C) (.slice A n c)).below (al1 _ (Obj.cells #[.int .i64 R, .int .i64 R, .slice A0 n0 c0, .int .i64 R, .int .i64 R, .slice A1 n1 c1, .int .i64 R, .int .i64 C, .slice A2 n2 c2, .int .i64 C, .int .i64 C, .slice A3 n3 c3, .int .i64 C, .int .i64 C, .slice A4 n4 c4] 43)) (by simp))
  have X0 := Lib.hid (Row.new (w.alloc (Obj.cells #[.int .i64 R, .int .i64 C, .slice A n c] 40)) #[.int .i64 R, .int .i64 R, .slice A0 n0 c0, .int .i64 R, .int .i64 R, .slice A1 n1 c1, .int .i64 R, .int .i64 C, .slice A2 n2 c2, .int .i64 C, .int .i64 C, .slice A3 n3 c3, .int .i64 C, .int .i64 C, .slice A4 n4 c4] 43)
  simp only [World.size_alloc] at X0
  have IM := Lib.hid ((isM_impl R C A n c zs _ (h.into D0.out) m).mono fun _ _ h => h.yes P)
  have I := Lib.hid h
  have Q := Lib.hid P
  have pq := rc_le hR hC
  have NM := Lib.hid (show n2 = R * C by have := P2.2.2.2.2.1; rw [castM] at this; have := h2.1; omega)
  have I0 := Lib.hid h0
  have Q0 := Lib.hid P0
  have I1 := Lib.hid h1
  have Q1 := Lib.hid P1
  have I2 := Lib.hid h2
  have Q2 := Lib.hid P2
  have I3 := Lib.hid h3
  have Q3 := Lib.hid P3
  have I4 := Lib.hid h4
  have Q4 := Lib.hid P4
  clear h P h0 P0 h1 P1 h2 P2 h3 P3 h4 P4
  obtain ⟨y0, y1, y2⟩ := Y0.out
  obtain ⟨x0, x1, x2, x3, x4, x5, x6, x7, x8, x9, x10, x11, x12, x13, x14⟩ := X0.out.box15
  go_enter Try.func18, Try.ntmps18
  go_wp2_with fail
  refine IM.out.mono ?_
  rintro e w1 ⟨rfl, hb⟩
  have D1 := Lib.hid (on2 _ _ hb)
  have s1 : w.heap.size + 1 < w1.heap.size := by have := hb.size; simp at this; omega
  have X1 := Lib.hid (X0.out.below hb (by simp))
  have Y1 := Lib.hid (Y0.out.below hb (by simp <;> omega))
  clear hb y0 y1 y2 x0 x1 x2 x3 x4 x5 x6 x7 x8 x9 x10 x11 x12 x13 x14 X0 Y0 IM D0
  obtain ⟨x0, x1, x2, x3, x4, x5, x6, x7, x8, x9, x10, x11, x12, x13, x14⟩ := X1.out.box15
  obtain ⟨y0, y1, y2⟩ := Y1.out
  go_wp2_with fail
  refine (fits_impl R C A n c R R R R R C C C C C A0 A1 A2 A3 A4 n0 c0 n1 c1 n2 c2 n3 c3 n4 c4 z0 z1 z2 z3 z4 _ (I0.out.into D1.out) m0 (I1.out.into D1.out) m1 (I2.out.into D1.out) m2 (I3.out.into D1.out) m3 (I4.out.into D1.out) m4).mono ?_
  intro e w2 hs
  obtain ⟨rfl, hb⟩ := hs.yes ⟨⟨Q0.out, rfl, rfl⟩, ⟨Q1.out, rfl, rfl⟩, ⟨Q2.out, rfl, rfl⟩, ⟨Q3.out, rfl, rfl⟩, ⟨Q4.out, rfl, rfl⟩⟩
  clear hs
  have D2 := Lib.hid (D1.out.trans (hb.mono D1.out.size))
  have s2 : w.heap.size + 1 < w2.heap.size := by have := hb.size; omega
  have X2 := Lib.hid (X1.out.below hb (by omega))
  have Y2 := Lib.hid (Y1.out.below hb (by omega))
  clear hb y0 y1 y2 x0 x1 x2 x3 x4 x5 x6 x7 x8 x9 x10 x11 x12 x13 x14 X1 Y1
  obtain ⟨x0, x1, x2, x3, x4, x5, x6, x7, x8, x9, x10, x11, x12, x13, x14⟩ := X2.out.box15
  obtain ⟨y0, y1, y2⟩ := Y2.out
  go_wp2_with fail
  refine (sdiag_impl R C A2 n2 c2 z2 _ (I2.out.into D2.out) NM.out hR hC Q2.out).mono ?_
  rintro e w3 ⟨v, rfl, hv, hb⟩
  have V2 := Lib.hid hv
  clear hv
  have D3 := Lib.hid (D2.out.trans (hb.mono D2.out.size))
  have s3 : w.heap.size + 1 < w3.heap.size := by have := hb.size; omega
  have X3 := Lib.hid (X2.out.below hb (by omega))
  have Y3 := Lib.hid (Y2.out.below hb (by omega))
  clear hb y0 y1 y2 x0 x1 x2 x3 x4 x5 x6 x7 x8 x9 x10 x11 x12 x13 x14 X2 Y2
  cases v with
  | false =>
    go_wp2
    go_ret
    exact SaysB.f (fun h => by have := V2.out.2 h.1; simp at this) D3.out
  | true =>
  have G1 := Lib.hid (V2.out.1 rfl)
  clear V2
  obtain ⟨x0, x1, x2, x3, x4, x5, x6, x7, x8, x9, x10, x11, x12, x13, x14⟩ := X3.out.box15
  obtain ⟨y0, y1, y2⟩ := Y3.out
  go_wp2_with fail
  refine (undoes_impl R A1 A0 n1 c1 n0 c0 z1 z0 _ (I1.out.into D3.out) (I0.out.into D3.out) m1 m0 hR Q1.out Q0.out).mono ?_
  rintro e w4 ⟨v, rfl, hv, hb⟩
  have V3 := Lib.hid hv
  clear hv
  have D4 := Lib.hid (D3.out.trans (hb.mono D3.out.size))
  have s4 : w.heap.size + 1 < w4.heap.size := by have := hb.size; omega
  have X4 := Lib.hid (X3.out.below hb (by omega))
  have Y4 := Lib.hid (Y3.out.below hb (by omega))
  clear hb y0 y1 y2 x0 x1 x2 x3 x4 x5 x6 x7 x8 x9 x10 x11 x12 x13 x14 X3 Y3
  cases v with
  | false =>
    go_wp2
    go_ret
    exact SaysB.f (fun h => by have := V3.out.2 h.2.1; simp at this) D4.out
  | true =>
  have G2 := Lib.hid (V3.out.1 rfl)
  clear V3
  obtain ⟨x0, x1, x2, x3, x4, x5, x6, x7, x8, x9, x10, x11, x12, x13, x14⟩ := X4.out.box15
  obtain ⟨y0, y1, y2⟩ := Y4.out
  go_wp2_with fail
  refine (undoes_impl C A4 A3 n4 c4 n3 c3 z4 z3 _ (I4.out.into D4.out) (I3.out.into D4.out) m4 m3 hC Q4.out Q3.out).mono ?_
  rintro e w5 ⟨v, rfl, hv, hb⟩
  have V4 := Lib.hid hv
  clear hv
  have D5 := Lib.hid (D4.out.trans (hb.mono D4.out.size))
  have s5 : w.heap.size + 1 < w5.heap.size := by have := hb.size; omega
  have X5 := Lib.hid (X4.out.below hb (by omega))
  have Y5 := Lib.hid (Y4.out.below hb (by omega))
  clear hb y0 y1 y2 x0 x1 x2 x3 x4 x5 x6 x7 x8 x9 x10 x11 x12 x13 x14 X4 Y4
  cases v with
  | false =>
    go_wp2
    go_ret
    exact SaysB.f (fun h => by have := V4.out.2 h.2.2.1; simp at this) D5.out
  | true =>
  have G3 := Lib.hid (V4.out.1 rfl)
  clear V4
  have M := Lib.hid (fun W D => mul_impl_yes R R C A0 A n0 c0 n c z0 zs W (I0.out.into D) (I.out.into D) m0 m hR hR hC Q0.out Q.out)
  have PL := Lib.hid (pl_len R C z0 zs (R * C) (R * C))
  by_cases hF : Fits R C z0 zs (R * C)
  case neg =>
    have HF := Lib.hid hF
    have M1 := Lib.hid (fun W D => (M.out W D).mono fun _ _ h => h.2 HF.out)
    clear hF M
    obtain ⟨x0, x1, x2, x3, x4, x5, x6, x7, x8, x9, x10, x11, x12, x13, x14⟩ := X5.out.box15
    obtain ⟨y0, y1, y2⟩ := Y5.out
    go_wp2_with fail
    refine (M1.out _ D5.out).mono ?_
    rintro e w6 ⟨A5, c5, rfl, hown, hb⟩
    have D6 := Lib.hid (D5.out.trans (hb.mono D5.out.size))
    clear hb hown y0 y1 y2 x0 x1 x2 x3 x4 x5 x6 x7 x8 x9 x10 x11 x12 x13 x14 X5 Y5
    go_wp2
    go_ret
    exact SaysB.f (fun h => HF.out h.2.2.2.1) (D6.out.alloc D6.out.size _)
  have G4 := Lib.hid hF
  have M1 := Lib.hid (fun W D => (M.out W D).mono fun _ _ h => h.1 G4.out)
  obtain ⟨pp, hpp⟩ : ∃ pp, pl R C z0 zs (R * C) (R * C) = pp := ⟨_, rfl⟩
  have HPP := Lib.hid hpp
  have PM := Lib.hid (show MOk R C pp from by rw [← hpp]; exact pl_ok hR hC hF)
  rw [hpp] at M1 PL
  clear hF M hpp
  obtain ⟨x0, x1, x2, x3, x4, x5, x6, x7, x8, x9, x10, x11, x12, x13, x14⟩ := X5.out.box15
  obtain ⟨y0, y1, y2⟩ := Y5.out
  go_wp2_with fail
  refine (M1.out _ D5.out).mono ?_
  rintro e w6 ⟨A5, c5, rfl, hown, hb⟩
  have O6 := Lib.hid hown
  clear hown
  have D6 := Lib.hid (D5.out.trans (hb.mono D5.out.size))
  have s6 : w.heap.size + 1 < w6.heap.size := by have := hb.size; omega
  have X6 := Lib.hid (X5.out.below hb (by omega))
  have Y6 := Lib.hid (Y5.out.below hb (by omega))
  clear hb y0 y1 y2 x0 x1 x2 x3 x4 x5 x6 x7 x8 x9 x10 x11 x12 x13 x14 X5 Y5
  have B6 := Lib.hid (al1 w6 (Obj.cells #[.int .i64 R, .int .i64 C, .slice A5 pp.length c5] 40))
  have Z6 := Lib.hid (Box3.new w6 40 (.int .i64 R) (.int .i64 C) (.slice A5 pp.length c5))
  have F6 := Lib.hid (Free.new w6 40 #[.int .i64 R, .int .i64 C, .slice A5 pp.length c5])
  have D7 := Lib.hid (D6.out.trans (B6.out.mono D6.out.size))
  have M2 := Lib.hid (fun W D => mul_impl_yes R C C A5 A3 pp.length c5 n3 c3 pp z3 W ((O6.out.ints.into B6.out).into D) ((I3.out.into D7.out).into D) (by rw [PL.out]; omega) m3 hR hC hC PM.out Q3.out)
  by_cases hF : Fits C C pp z3 (R * C)
  case neg =>
    have HF := Lib.hid hF
    have M3 := Lib.hid (fun W D => (M2.out W D).mono fun _ _ h => h.2 HF.out)
    clear hF M2
    obtain ⟨x0, x1, x2, x3, x4, x5, x6, x7, x8, x9, x10, x11, x12, x13, x14⟩ := (X6.out.below B6.out (by omega)).box15
    go_wp2_with fail
    refine (M3.out _ (Below.refl _ _)).mono ?_
    rintro e w8 ⟨A8, c8, rfl, hown, hb⟩
    have D8 := Lib.hid (D7.out.trans (hb.mono D7.out.size))
    have f0 := (F6.out.below hb (by simp))
    have Z8 := Lib.hid (Z6.out.below hb (by simp))
    have s8 : w6.heap.size < w8.heap.size := by have := hb.size; simp at this; omega
    unfold Free at f0
    obtain ⟨z0', z1', z2'⟩ := Z8.out
    clear hb hown x0 x1 x2 x3 x4 x5 x6 x7 x8 x9 x10 x11 x12 x13 x14
    go_wp2
    go_ret
    exact SaysB.f (fun h => HF.out (by have := h.2.2.2.2.1; rw [HPP.out] at this; exact this)) (((D8.out.setCell (by dsimp only; omega) _).setCell (by dsimp only; omega) _).setCell (by dsimp only; omega) _)
  have G5 := Lib.hid hF
  have M3 := Lib.hid (fun W D => (M2.out W D).mono fun _ _ h => h.1 G5.out)
  have QL := Lib.hid (pl_len C C pp z3 (R * C) (R * C))
  obtain ⟨qq, hqq⟩ : ∃ qq, pl C C pp z3 (R * C) (R * C) = qq := ⟨_, rfl⟩
  have HQQ := Lib.hid hqq
  rw [hqq] at M3 QL
  clear hF M2 hqq
  obtain ⟨x0, x1, x2, x3, x4, x5, x6, x7, x8, x9, x10, x11, x12, x13, x14⟩ := (X6.out.below B6.out (by omega)).box15
  go_wp2_with fail
  refine (M3.out _ (Below.refl _ _)).mono ?_
  rintro e w8 ⟨A8, c8, rfl, hown, hb⟩
  have D8 := Lib.hid (D7.out.trans (hb.mono D7.out.size))
  have O8 := Lib.hid hown
  have f0 := (F6.out.below hb (by simp))
  have Z8 := Lib.hid (Z6.out.below hb (by simp))
  have s8 : w6.heap.size < w8.heap.size := by have := hb.size; simp at this; omega
  have X8 := Lib.hid ((X6.out.below B6.out (by omega)).below hb (by simp <;> omega))
  unfold Free at f0
  obtain ⟨z0', z1', z2'⟩ := Z8.out
  have ne : ¬ w6.heap.size = w.heap.size + 1 := by omega
  have ne' : ¬ w.heap.size + 1 = w6.heap.size := by omega
  clear hb hown x0 x1 x2 x3 x4 x5 x6 x7 x8 x9 x10 x11 x12 x13 x14
  obtain ⟨x0, x1, x2, x3, x4, x5, x6, x7, x8, x9, x10, x11, x12, x13, x14⟩ := X8.out.box15
  go_wp2_with fail
  have I8 := Lib.hid ((((O8.out.far (p := ⟨w6.heap.size, 0, none⟩) (.inl (by simp)) (.int .i64 R)).far (p := ⟨w6.heap.size, 1, none⟩) (.inl (by simp)) (.int .i64 C)).far (p := ⟨w6.heap.size, 2, none⟩) (.inl (by simp)) (.slice A8 qq.length c8)).ints)
  have D9 := Lib.hid (((D8.out.setCell (p := ⟨w6.heap.size, 0, none⟩) (by dsimp only; omega) (.int .i64 R)).setCell (p := ⟨w6.heap.size, 1, none⟩) (by dsimp only; omega) (.int .i64 C)).setCell (p := ⟨w6.heap.size, 2, none⟩) (by dsimp only; omega) (.slice A8 qq.length c8))
  refine (equals_impl R C R C A8 A2 qq.length n2 c8 c2 _ _ qq z2 _ I8.out (I2.out.into D9.out) (by rw [QL.out]; omega) m2 (by simp [World.setCell]) (Nat.le_refl _)).mono ?_
  rintro e w9 ⟨v, rfl, hv, hb⟩
  have HV := Lib.hid (show v = true ↔ qq = z2 from ⟨fun e => (hv.1 e).2.2, fun e => hv.2 ⟨rfl, rfl, e⟩⟩)
  have D10 := Lib.hid (D9.out.trans (hb.mono D9.out.size))
  clear hv hb x0 x1 x2 x3 x4 x5 x6 x7 x8 x9 x10 x11 x12 x13 x14 z0' z1' z2' f0
  go_wp2
  go_ret
  exact ⟨v, rfl, ⟨fun e => ⟨G1.out, G2.out, G3.out, G4.out, by rw [HPP.out]; exact G5.out, by rw [HPP.out, HQQ.out]; exact HV.out.1 e⟩, fun e => HV.out.2 (by have := e.2.2.2.2.2; rw [HPP.out, HQQ.out] at this; exact this)⟩, D10.out⟩

/-- The program's answer. -/
theorem isr_impl (r q : Int) (A : Option Addr) (n c : Nat) (zs : List Int) (r0 q0 r1 q1 r2 q2 r3 q3 r4 q4 : Int) (A0 A1 A2 A3 A4 : Option Addr) (n0 c0 n1 c1 n2 c2 n3 c3 n4 c4 : Nat) (z0 z1 z2 z3 z4 : List Int) (w : World) (h : Ints w w.heap.size A n zs) (m : n ≤ 1048576) (h0 : Ints w w.heap.size A0 n0 z0) (m0 : n0 ≤ 1048576) (h1 : Ints w w.heap.size A1 n1 z1) (m1 : n1 ≤ 1048576) (h2 : Ints w w.heap.size A2 n2 z2) (m2 : n2 ≤ 1048576) (h3 : Ints w w.heap.size A3 n3 z3) (m3 : n3 ≤ 1048576) (h4 : Ints w w.heap.size A4 n4 z4) (m4 : n4 ≤ 1048576) :
    Calls Try.prog 18 #[.agg #[.int .i64 r, .int .i64 q, .slice A n c], .agg #[.int .i64 r0, .int .i64 q0, .slice A0 n0 c0, .int .i64 r1, .int .i64 q1, .slice A1 n1 c1, .int .i64 r2, .int .i64 q2, .slice A2 n2 c2, .int .i64 r3, .int .i64 q3, .slice A3 n3 c3, .int .i64 r4, .int .i64 q4, .slice A4 n4 c4]] w (SaysB (IsRed r q zs r0 q0 r1 q1 r2 q2 r3 q3 r4 q4 z0 z1 z2 z3 z4) w.heap.size w) := by
  by_cases hP : MOk r q zs
  case neg => exact (isr_impl_badM r q A n c zs r0 q0 r1 q1 r2 q2 r3 q3 r4 q4 A0 A1 A2 A3 A4 n0 c0 n1 c1 n2 c2 n3 c3 n4 c4 w h m hP).mono fun e w' hh => (by
    obtain ⟨rfl, hb⟩ := hh
    exact SaysB.f (fun h => hP h.1) hb)
  by_cases hF : FitsR r q r0 q0 r1 q1 r2 q2 r3 q3 r4 q4 z0 z1 z2 z3 z4
  case neg => exact (isr_impl_badF r q A n c zs r0 q0 r1 q1 r2 q2 r3 q3 r4 q4 A0 A1 A2 A3 A4 n0 c0 n1 c1 n2 c2 n3 c3 n4 c4 z0 z1 z2 z3 z4 w h m h0 m0 h1 m1 h2 m2 h3 m3 h4 m4 hP hF).mono fun e w' hh => (by
    obtain ⟨rfl, hb⟩ := hh
    exact SaysB.f (fun h => hF h.2.1) hb)
  have F := hF
  have P := hP
  obtain ⟨a0, a1, a2, a3, _⟩ := hP
  obtain ⟨R, rfl⟩ : ∃ R : Nat, r = R := ⟨r.toNat, by omega⟩
  obtain ⟨C, rfl⟩ : ∃ C : Nat, q = C := ⟨q.toNat, by omega⟩
  obtain ⟨⟨P0, rfl, rfl⟩, ⟨P1, rfl, rfl⟩, ⟨P2, rfl, rfl⟩, ⟨P3, rfl, rfl⟩, ⟨P4, rfl, rfl⟩⟩ := hF
  refine (isr_impl_fit R C A n c zs A0 A1 A2 A3 A4 n0 c0 n1 c1 n2 c2 n3 c3 n4 c4 z0 z1 z2 z3 z4 w h m h0 m0 h1 m1 h2 m2 h3 m3 h4 m4 (by omega) (by omega) P P0 P1 P2 P3 P4).mono fun e w' hh => ?_
  obtain ⟨v, rfl, hv, hb⟩ := hh
  exact ⟨v, rfl, ⟨fun e => ⟨P, F, hv.1 e⟩, fun e => hv.2 e.2.2⟩, hb⟩
end Go.Proofs.Ytgmkcmdnbfolhaa
