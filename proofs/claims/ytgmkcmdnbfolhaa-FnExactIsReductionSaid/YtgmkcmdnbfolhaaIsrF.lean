/- The specification's IsReduction. No condition but those that each theorem names. -/
import Derived.Test.YtgmkcmdnbfolhaaIsrC
import Derived.Test.YtgmkcmdnbfolhaaIsrE
namespace Go.Proofs.Ytgmkcmdnbfolhaa
open Go.RowKit

set_option maxRecDepth 100000 in
set_option maxHeartbeats 2000000 in
theorem same_no (r q r' q' : Int) (A A' : Option Addr) (n n' c c' : Nat) (w : World) (hs : ¬ (r = r' ∧ q = q')) :
    Calls Try.prog 43 #[.agg #[.int .i64 r, .int .i64 q, .slice A n c], .agg #[.int .i64 r', .int .i64 q', .slice A' n' c']] w (fun e w' => e = .returned (.bool false) ∧ Below w.heap.size w w') := by
  have D0 := Lib.hid (al2 w (Obj.cells #[.int .i64 r, .int .i64 q, .slice A n c] 40) (Obj.cells #[.int .i64 r', .int .i64 q', .slice A' n' c'] 40))
  by_cases h1 : r = r'
  case neg =>
    have t1 : (r != r') = true := by simpa using h1
    clear h1 hs
    go_enter Try.func43, Try.ntmps43
    go_wp2
    go_ret
    exact ⟨rfl, D0.out⟩
  have h2 : ¬ q = q' := fun h => hs ⟨h1, h⟩
  have t1 : (r != r') = false := by simpa using h1
  have t2 : (q != q') = true := by simpa using h2
  clear h1 h2 hs
  go_enter Try.func43, Try.ntmps43
  go_wp2
  go_ret
  exact ⟨rfl, D0.out⟩
theorem same_any (R C R' C' : Nat) (A A' : Option Addr) (n n' c c' : Nat) (xs ys : List Int) (w : World) (h : Ints w w.heap.size A n xs) (h' : Ints w w.heap.size A' n' ys) (P : MOk R C xs) (P' : MOk R' C' ys) :
    Calls Try.prog 43 #[.agg #[.int .i64 R, .int .i64 C, .slice A n c], .agg #[.int .i64 R', .int .i64 C', .slice A' n' c']] w (SaysB ((R' = R ∧ C' = C) ∧ xs = ys) w.heap.size w) := by
  by_cases hs : (R : Int) = R' ∧ (C : Int) = C'
  · obtain ⟨e1, e2⟩ := hs
    obtain rfl : R = R' := by omega
    obtain rfl : C = C' := by omega
    have l1 := P.2.2.2.2.1
    have l2 := P'.2.2.2.2.1
    have hn : n = n' := by have := h.1; have := h'.1; omega
    have p := rc_le (R := R) (C := C) (by have := P.2.1; omega) (by have := P.2.2.2.1; omega)
    refine (same_spec R C A A' n n' c c' xs ys w hn h h' (by have := h.1; rw [castM] at l1; omega)).mono fun e w' hh => ?_
    obtain ⟨v, rfl, hv, hb⟩ := hh
    exact ⟨v, rfl, ⟨fun e => ⟨⟨rfl, rfl⟩, list_eq (by omega) fun i hi => hv.1 e i (by have := h.1; omega)⟩, fun e => hv.2 fun i _ => by rw [e.2]⟩, hb⟩
  · refine (same_no R C R' C' A A' n n' c c' w hs).mono fun e w' hh => ?_
    obtain ⟨rfl, hb⟩ := hh
    exact SaysB.f (fun h => hs (by have := h.1; omega)) hb

set_option maxRecDepth 100000 in
set_option maxHeartbeats 8000000 in
theorem isr_spec_bad (r q : Int) (A : Option Addr) (n c : Nat) (zs : List Int) (r0 q0 r1 q1 r2 q2 r3 q3 r4 q4 : Int) (A0 A1 A2 A3 A4 : Option Addr) (n0 c0 n1 c1 n2 c2 n3 c3 n4 c4 : Nat) (z0 z1 z2 z3 z4 : List Int) (w : World) (h : Ints w w.heap.size A n zs) (m : n ≤ 1048576) (h0 : Ints w w.heap.size A0 n0 z0) (m0 : n0 ≤ 1048576) (h1 : Ints w w.heap.size A1 n1 z1) (m1 : n1 ≤ 1048576) (h2 : Ints w w.heap.size A2 n2 z2) (m2 : n2 ≤ 1048576) (h3 : Ints w w.heap.size A3 n3 z3) (m3 : n3 ≤ 1048576) (h4 : Ints w w.heap.size A4 n4 z4) (m4 : n4 ≤ 1048576) (hP : ¬ (MOk r q zs ∧ MOk r0 q0 z0 ∧ MOk r1 q1 z1 ∧ MOk r2 q2 z2 ∧ MOk r3 q3 z3 ∧ MOk r4 q4 z4)) :
    Calls Try.prog 15 #[.agg #[.int .i64 r, .int .i64 q, .slice A n c], .agg #[.int .i64 r0, .int .i64 q0, .slice A0 n0 c0, .int .i64 r1, .int .i64 q1, .slice A1 n1 c1, .int .i64 r2, .int .i64 q2, .slice A2 n2 c2, .int .i64 r3, .int .i64 q3, .slice A3 n3 c3, .int .i64 r4, .int .i64 q4, .slice A4 n4 c4]] w (fun e w' => e = .returned (.bool false) ∧ Below w.heap.size w w') := by
  have D0 := Lib.hid (al2 w (Obj.cells #[.int .i64 r, .int .i64 q, .slice A n c] 40) (Obj.cells #[.int .i64 r0, .int .i64 q0, .slice A0 n0 c0, .int .i64 r1, .int .i64 q1, .slice A1 n1 c1, .int .i64 r2, .int .i64 q2, .slice A2 n2 c2, .int .i64 r3, .int .i64 q3, .slice A3 n3 c3, .int .i64 r4, .int .i64 q4, .slice A4 n4 c4] 43))
  have Y0 := Lib.hid ((Box3.new w 40 (.int .i64 r) (.int .i64 q) (.slice A n c)).below (al1 _ (Obj.cells #[.int .i64 r0, .int .i64 q0, .slice A0 n0 c0, .int .i64 r1, .int .i64 q1, .slice A1 n1 c1, .int .i64 r2, .int .i64 q2, .slice A2 n2 c2, .int .i64 r3, .int .i64 q3, .slice A3 n3 c3, .int .i64 r4, .int .i64 q4, .slice A4 n4 c4] 43)) (by simp))
  have X0 := Lib.hid (Row.new (w.alloc (Obj.cells #[.int .i64 r, .int .i64 q, .slice A n c] 40)) #[.int .i64 r0, .int .i64 q0, .slice A0 n0 c0, .int .i64 r1, .int .i64 q1, .slice A1 n1 c1, .int .i64 r2, .int .i64 q2, .slice A2 n2 c2, .int .i64 r3, .int .i64 q3, .slice A3 n3 c3, .int .i64 r4, .int .i64 q4, .slice A4 n4 c4] 43)
  simp only [World.size_alloc] at X0
  have I := Lib.hid h
  have I0 := Lib.hid h0
  have I1 := Lib.hid h1
  have I2 := Lib.hid h2
  have I3 := Lib.hid h3
  have I4 := Lib.hid h4
  have HP := Lib.hid hP
  clear hP h h0 h1 h2 h3 h4
  go_enter Try.func15, Try.ntmps15
  go_wp2_with fail
  obtain ⟨w0, hw0⟩ : ∃ w0, w0 = ((w.alloc (Obj.cells #[.int .i64 r, .int .i64 q, .slice A n c] 40)).alloc (Obj.cells #[.int .i64 r0, .int .i64 q0, .slice A0 n0 c0, .int .i64 r1, .int .i64 q1, .slice A1 n1 c1, .int .i64 r2, .int .i64 q2, .slice A2 n2 c2, .int .i64 r3, .int .i64 q3, .slice A3 n3 c3, .int .i64 r4, .int .i64 q4, .slice A4 n4 c4] 43)) := ⟨_, rfl⟩
  have s0 : w.heap.size + 1 < w0.heap.size := by rw [hw0]; simp
  rw [← hw0] at X0 Y0 D0
  rw [← hw0]
  clear hw0
  obtain ⟨x0, x1, x2, x3, x4, x5, x6, x7, x8, x9, x10, x11, x12, x13, x14⟩ := X0.out.box15
  obtain ⟨y0, y1, y2⟩ := Y0.out
  go_wp2_with fail
  refine (isM_spec r q A n c zs _ (I.out.into D0.out) m).mono ?_
  rintro e w1 ⟨v, rfl, hv, hb⟩
  have D1 := Lib.hid (D0.out.trans (hb.mono D0.out.size))
  have X1 := Lib.hid (X0.out.below hb (by omega))
  have Y1 := Lib.hid (Y0.out.below hb (by omega))
  have s1 : w.heap.size + 1 < w1.heap.size := by have := hb.size; omega
  clear hb x0 x1 x2 x3 x4 x5 x6 x7 x8 x9 x10 x11 x12 x13 x14 y0 y1 y2 X0 Y0
  cases v with
  | false =>
    go_wp2
    go_ret
    exact ⟨rfl, D1.out⟩
  | true =>
  have V0 := Lib.hid (hv.1 rfl)
  clear hv
  obtain ⟨x0, x1, x2, x3, x4, x5, x6, x7, x8, x9, x10, x11, x12, x13, x14⟩ := X1.out.box15
  obtain ⟨y0, y1, y2⟩ := Y1.out
  go_wp2_with fail
  refine (isM_spec r0 q0 A0 n0 c0 z0 _ (I0.out.into D1.out) m0).mono ?_
  rintro e w2 ⟨v, rfl, hv, hb⟩
  have D2 := Lib.hid (D1.out.trans (hb.mono D1.out.size))
  have X2 := Lib.hid (X1.out.below hb (by omega))
  have Y2 := Lib.hid (Y1.out.below hb (by omega))
  have s2 : w.heap.size + 1 < w2.heap.size := by have := hb.size; omega
  clear hb x0 x1 x2 x3 x4 x5 x6 x7 x8 x9 x10 x11 x12 x13 x14 y0 y1 y2 X1 Y1
  cases v with
  | false =>
    go_wp2
    go_ret
    exact ⟨rfl, D2.out⟩
  | true =>
  have V1 := Lib.hid (hv.1 rfl)
  clear hv
  obtain ⟨x0, x1, x2, x3, x4, x5, x6, x7, x8, x9, x10, x11, x12, x13, x14⟩ := X2.out.box15
  obtain ⟨y0, y1, y2⟩ := Y2.out
  go_wp2_with fail
  refine (isM_spec r1 q1 A1 n1 c1 z1 _ (I1.out.into D2.out) m1).mono ?_
  rintro e w3 ⟨v, rfl, hv, hb⟩
  have D3 := Lib.hid (D2.out.trans (hb.mono D2.out.size))
  have X3 := Lib.hid (X2.out.below hb (by omega))
  have Y3 := Lib.hid (Y2.out.below hb (by omega))
  have s3 : w.heap.size + 1 < w3.heap.size := by have := hb.size; omega
  clear hb x0 x1 x2 x3 x4 x5 x6 x7 x8 x9 x10 x11 x12 x13 x14 y0 y1 y2 X2 Y2
  cases v with
  | false =>
    go_wp2
    go_ret
    exact ⟨rfl, D3.out⟩
  | true =>
  have V2 := Lib.hid (hv.1 rfl)
  clear hv
  obtain ⟨x0, x1, x2, x3, x4, x5, x6, x7, x8, x9, x10, x11, x12, x13, x14⟩ := X3.out.box15
  obtain ⟨y0, y1, y2⟩ := Y3.out
  go_wp2_with fail
  refine (isM_spec r2 q2 A2 n2 c2 z2 _ (I2.out.into D3.out) m2).mono ?_
  rintro e w4 ⟨v, rfl, hv, hb⟩
  have D4 := Lib.hid (D3.out.trans (hb.mono D3.out.size))
  have X4 := Lib.hid (X3.out.below hb (by omega))
  have Y4 := Lib.hid (Y3.out.below hb (by omega))
  have s4 : w.heap.size + 1 < w4.heap.size := by have := hb.size; omega
  clear hb x0 x1 x2 x3 x4 x5 x6 x7 x8 x9 x10 x11 x12 x13 x14 y0 y1 y2 X3 Y3
  cases v with
  | false =>
    go_wp2
    go_ret
    exact ⟨rfl, D4.out⟩
  | true =>
  have V3 := Lib.hid (hv.1 rfl)
  clear hv
  obtain ⟨x0, x1, x2, x3, x4, x5, x6, x7, x8, x9, x10, x11, x12, x13, x14⟩ := X4.out.box15
  obtain ⟨y0, y1, y2⟩ := Y4.out
  go_wp2_with fail
  refine (isM_spec r3 q3 A3 n3 c3 z3 _ (I3.out.into D4.out) m3).mono ?_
  rintro e w5 ⟨v, rfl, hv, hb⟩
  have D5 := Lib.hid (D4.out.trans (hb.mono D4.out.size))
  have X5 := Lib.hid (X4.out.below hb (by omega))
  have Y5 := Lib.hid (Y4.out.below hb (by omega))
  have s5 : w.heap.size + 1 < w5.heap.size := by have := hb.size; omega
  clear hb x0 x1 x2 x3 x4 x5 x6 x7 x8 x9 x10 x11 x12 x13 x14 y0 y1 y2 X4 Y4
  cases v with
  | false =>
    go_wp2
    go_ret
    exact ⟨rfl, D5.out⟩
  | true =>
  have V4 := Lib.hid (hv.1 rfl)
  clear hv
  obtain ⟨x0, x1, x2, x3, x4, x5, x6, x7, x8, x9, x10, x11, x12, x13, x14⟩ := X5.out.box15
  obtain ⟨y0, y1, y2⟩ := Y5.out
  go_wp2_with fail
  refine (isM_spec r4 q4 A4 n4 c4 z4 _ (I4.out.into D5.out) m4).mono ?_
  rintro e w6 ⟨v, rfl, hv, hb⟩
  have D6 := Lib.hid (D5.out.trans (hb.mono D5.out.size))
  have X6 := Lib.hid (X5.out.below hb (by omega))
  have Y6 := Lib.hid (Y5.out.below hb (by omega))
  have s6 : w.heap.size + 1 < w6.heap.size := by have := hb.size; omega
  clear hb x0 x1 x2 x3 x4 x5 x6 x7 x8 x9 x10 x11 x12 x13 x14 y0 y1 y2 X5 Y5
  cases v with
  | false =>
    go_wp2
    go_ret
    exact ⟨rfl, D6.out⟩
  | true =>
  have V5 := Lib.hid (hv.1 rfl)
  clear hv
  exact absurd (show MOk r q zs ∧ MOk r0 q0 z0 ∧ MOk r1 q1 z1 ∧ MOk r2 q2 z2 ∧ MOk r3 q3 z3 ∧ MOk r4 q4 z4 from ⟨V0.out, V1.out, V2.out, V3.out, V4.out, V5.out⟩) HP.out

set_option maxRecDepth 100000 in
set_option maxHeartbeats 8000000 in
theorem isr_spec_sizeL (r q : Int) (A : Option Addr) (n c : Nat) (zs : List Int) (r0 q0 r1 q1 r2 q2 r3 q3 r4 q4 : Int) (A0 A1 A2 A3 A4 : Option Addr) (n0 c0 n1 c1 n2 c2 n3 c3 n4 c4 : Nat) (z0 z1 z2 z3 z4 : List Int) (w : World) (h : Ints w w.heap.size A n zs) (m : n ≤ 1048576) (h0 : Ints w w.heap.size A0 n0 z0) (m0 : n0 ≤ 1048576) (h1 : Ints w w.heap.size A1 n1 z1) (m1 : n1 ≤ 1048576) (h2 : Ints w w.heap.size A2 n2 z2) (m2 : n2 ≤ 1048576) (h3 : Ints w w.heap.size A3 n3 z3) (m3 : n3 ≤ 1048576) (h4 : Ints w w.heap.size A4 n4 z4) (m4 : n4 ≤ 1048576) (P : MOk r q zs) (P0 : MOk r0 q0 z0) (P1 : MOk r1 q1 z1) (P2 : MOk r2 q2 z2) (P3 : MOk r3 q3 z3) (P4 : MOk r4 q4 z4) (hs : ¬ (r0 = r ∧ q0 = r ∧ r1 = r ∧ q1 = r)) :
    Calls Try.prog 15 #[.agg #[.int .i64 r, .int .i64 q, .slice A n c], .agg #[.int .i64 r0, .int .i64 q0, .slice A0 n0 c0, .int .i64 r1, .int .i64 q1, .slice A1 n1 c1, .int .i64 r2, .int .i64 q2, .slice A2 n2 c2, .int .i64 r3, .int .i64 q3, .slice A3 n3 c3, .int .i64 r4, .int .i64 q4, .slice A4 n4 c4]] w (fun e w' => e = .returned (.bool false) ∧ Below w.heap.size w w') := by
  have D0 := Lib.hid (al2 w (Obj.cells #[.int .i64 r, .int .i64 q, .slice A n c] 40) (Obj.cells #[.int .i64 r0, .int .i64 q0, .slice A0 n0 c0, .int .i64 r1, .int .i64 q1, .slice A1 n1 c1, .int .i64 r2, .int .i64 q2, .slice A2 n2 c2, .int .i64 r3, .int .i64 q3, .slice A3 n3 c3, .int .i64 r4, .int .i64 q4, .slice A4 n4 c4] 43))
  have Y0 := Lib.hid ((Box3.new w 40 (.int .i64 r) (.int .i64 q) (.slice A n c)).below (al1 _ (Obj.cells #[.int .i64 r0, .int .i64 q0, .slice A0 n0 c0, .int .i64 r1, .int .i64 q1, .slice A1 n1 c1, .int .i64 r2, .int .i64 q2, .slice A2 n2 c2, .int .i64 r3, .int .i64 q3, .slice A3 n3 c3, .int .i64 r4, .int .i64 q4, .slice A4 n4 c4] 43)) (by simp))
  have X0 := Lib.hid (Row.new (w.alloc (Obj.cells #[.int .i64 r, .int .i64 q, .slice A n c] 40)) #[.int .i64 r0, .int .i64 q0, .slice A0 n0 c0, .int .i64 r1, .int .i64 q1, .slice A1 n1 c1, .int .i64 r2, .int .i64 q2, .slice A2 n2 c2, .int .i64 r3, .int .i64 q3, .slice A3 n3 c3, .int .i64 r4, .int .i64 q4, .slice A4 n4 c4] 43)
  simp only [World.size_alloc] at X0
  have I := Lib.hid h
  have I0 := Lib.hid h0
  have I1 := Lib.hid h1
  have I2 := Lib.hid h2
  have I3 := Lib.hid h3
  have I4 := Lib.hid h4
  have Q := Lib.hid P
  have Q0 := Lib.hid P0
  have Q1 := Lib.hid P1
  have Q2 := Lib.hid P2
  have Q3 := Lib.hid P3
  have Q4 := Lib.hid P4
  have HS := Lib.hid hs
  clear h P hs h0 P0 h1 P1 h2 P2 h3 P3 h4 P4
  go_enter Try.func15, Try.ntmps15
  go_wp2_with fail
  obtain ⟨w0, hw0⟩ : ∃ w0, w0 = ((w.alloc (Obj.cells #[.int .i64 r, .int .i64 q, .slice A n c] 40)).alloc (Obj.cells #[.int .i64 r0, .int .i64 q0, .slice A0 n0 c0, .int .i64 r1, .int .i64 q1, .slice A1 n1 c1, .int .i64 r2, .int .i64 q2, .slice A2 n2 c2, .int .i64 r3, .int .i64 q3, .slice A3 n3 c3, .int .i64 r4, .int .i64 q4, .slice A4 n4 c4] 43)) := ⟨_, rfl⟩
  have s0 : w.heap.size + 1 < w0.heap.size := by rw [hw0]; simp
  rw [← hw0] at X0 Y0 D0
  rw [← hw0]
  clear hw0
  obtain ⟨x0, x1, x2, x3, x4, x5, x6, x7, x8, x9, x10, x11, x12, x13, x14⟩ := X0.out.box15
  obtain ⟨y0, y1, y2⟩ := Y0.out
  go_wp2_with fail
  refine ((isM_spec r q A n c zs _ (I.out.into D0.out) m).mono fun _ _ h => h.yes Q.out).mono ?_
  rintro e w1 ⟨rfl, hb⟩
  have D1 := Lib.hid (D0.out.trans (hb.mono D0.out.size))
  have X1 := Lib.hid (X0.out.below hb (by omega))
  have Y1 := Lib.hid (Y0.out.below hb (by omega))
  have s1 : w.heap.size + 1 < w1.heap.size := by have := hb.size; omega
  clear hb x0 x1 x2 x3 x4 x5 x6 x7 x8 x9 x10 x11 x12 x13 x14 y0 y1 y2 X0 Y0
  obtain ⟨x0, x1, x2, x3, x4, x5, x6, x7, x8, x9, x10, x11, x12, x13, x14⟩ := X1.out.box15
  obtain ⟨y0, y1, y2⟩ := Y1.out
  go_wp2_with fail
  refine ((isM_spec r0 q0 A0 n0 c0 z0 _ (I0.out.into D1.out) m0).mono fun _ _ h => h.yes Q0.out).mono ?_
  rintro e w2 ⟨rfl, hb⟩
  have D2 := Lib.hid (D1.out.trans (hb.mono D1.out.size))
  have X2 := Lib.hid (X1.out.below hb (by omega))
  have Y2 := Lib.hid (Y1.out.below hb (by omega))
  have s2 : w.heap.size + 1 < w2.heap.size := by have := hb.size; omega
  clear hb x0 x1 x2 x3 x4 x5 x6 x7 x8 x9 x10 x11 x12 x13 x14 y0 y1 y2 X1 Y1
  obtain ⟨x0, x1, x2, x3, x4, x5, x6, x7, x8, x9, x10, x11, x12, x13, x14⟩ := X2.out.box15
  obtain ⟨y0, y1, y2⟩ := Y2.out
  go_wp2_with fail
  refine ((isM_spec r1 q1 A1 n1 c1 z1 _ (I1.out.into D2.out) m1).mono fun _ _ h => h.yes Q1.out).mono ?_
  rintro e w3 ⟨rfl, hb⟩
  have D3 := Lib.hid (D2.out.trans (hb.mono D2.out.size))
  have X3 := Lib.hid (X2.out.below hb (by omega))
  have Y3 := Lib.hid (Y2.out.below hb (by omega))
  have s3 : w.heap.size + 1 < w3.heap.size := by have := hb.size; omega
  clear hb x0 x1 x2 x3 x4 x5 x6 x7 x8 x9 x10 x11 x12 x13 x14 y0 y1 y2 X2 Y2
  obtain ⟨x0, x1, x2, x3, x4, x5, x6, x7, x8, x9, x10, x11, x12, x13, x14⟩ := X3.out.box15
  obtain ⟨y0, y1, y2⟩ := Y3.out
  go_wp2_with fail
  refine ((isM_spec r2 q2 A2 n2 c2 z2 _ (I2.out.into D3.out) m2).mono fun _ _ h => h.yes Q2.out).mono ?_
  rintro e w4 ⟨rfl, hb⟩
  have D4 := Lib.hid (D3.out.trans (hb.mono D3.out.size))
  have X4 := Lib.hid (X3.out.below hb (by omega))
  have Y4 := Lib.hid (Y3.out.below hb (by omega))
  have s4 : w.heap.size + 1 < w4.heap.size := by have := hb.size; omega
  clear hb x0 x1 x2 x3 x4 x5 x6 x7 x8 x9 x10 x11 x12 x13 x14 y0 y1 y2 X3 Y3
  obtain ⟨x0, x1, x2, x3, x4, x5, x6, x7, x8, x9, x10, x11, x12, x13, x14⟩ := X4.out.box15
  obtain ⟨y0, y1, y2⟩ := Y4.out
  go_wp2_with fail
  refine ((isM_spec r3 q3 A3 n3 c3 z3 _ (I3.out.into D4.out) m3).mono fun _ _ h => h.yes Q3.out).mono ?_
  rintro e w5 ⟨rfl, hb⟩
  have D5 := Lib.hid (D4.out.trans (hb.mono D4.out.size))
  have X5 := Lib.hid (X4.out.below hb (by omega))
  have Y5 := Lib.hid (Y4.out.below hb (by omega))
  have s5 : w.heap.size + 1 < w5.heap.size := by have := hb.size; omega
  clear hb x0 x1 x2 x3 x4 x5 x6 x7 x8 x9 x10 x11 x12 x13 x14 y0 y1 y2 X4 Y4
  obtain ⟨x0, x1, x2, x3, x4, x5, x6, x7, x8, x9, x10, x11, x12, x13, x14⟩ := X5.out.box15
  obtain ⟨y0, y1, y2⟩ := Y5.out
  go_wp2_with fail
  refine ((isM_spec r4 q4 A4 n4 c4 z4 _ (I4.out.into D5.out) m4).mono fun _ _ h => h.yes Q4.out).mono ?_
  rintro e w6 ⟨rfl, hb⟩
  have D6 := Lib.hid (D5.out.trans (hb.mono D5.out.size))
  have X6 := Lib.hid (X5.out.below hb (by omega))
  have Y6 := Lib.hid (Y5.out.below hb (by omega))
  have s6 : w.heap.size + 1 < w6.heap.size := by have := hb.size; omega
  clear hb x0 x1 x2 x3 x4 x5 x6 x7 x8 x9 x10 x11 x12 x13 x14 y0 y1 y2 X5 Y5
  obtain ⟨x0, x1, x2, x3, x4, x5, x6, x7, x8, x9, x10, x11, x12, x13, x14⟩ := X6.out.box15
  obtain ⟨y0, y1, y2⟩ := Y6.out
  go_wp2_with fail
  refine (linv_no r0 q0 r1 q1 r A0 A1 n0 c0 n1 c1 _ HS.out).mono ?_
  rintro e w7 ⟨rfl, hb⟩
  have D7 := Lib.hid (D6.out.trans (hb.mono D6.out.size))
  have X7 := Lib.hid (X6.out.below hb (by omega))
  have Y7 := Lib.hid (Y6.out.below hb (by omega))
  have s7 : w.heap.size + 1 < w7.heap.size := by have := hb.size; omega
  clear hb x0 x1 x2 x3 x4 x5 x6 x7 x8 x9 x10 x11 x12 x13 x14 y0 y1 y2 X6 Y6
  go_wp2
  go_ret
  exact ⟨rfl, D7.out⟩

set_option maxRecDepth 100000 in
set_option maxHeartbeats 8000000 in
theorem isr_spec_sizeR (r q : Int) (A : Option Addr) (n c : Nat) (zs : List Int) (r0 q0 r1 q1 r2 q2 r3 q3 r4 q4 : Int) (A0 A1 A2 A3 A4 : Option Addr) (n0 c0 n1 c1 n2 c2 n3 c3 n4 c4 : Nat) (z0 z1 z2 z3 z4 : List Int) (w : World) (h : Ints w w.heap.size A n zs) (m : n ≤ 1048576) (h0 : Ints w w.heap.size A0 n0 z0) (m0 : n0 ≤ 1048576) (h1 : Ints w w.heap.size A1 n1 z1) (m1 : n1 ≤ 1048576) (h2 : Ints w w.heap.size A2 n2 z2) (m2 : n2 ≤ 1048576) (h3 : Ints w w.heap.size A3 n3 z3) (m3 : n3 ≤ 1048576) (h4 : Ints w w.heap.size A4 n4 z4) (m4 : n4 ≤ 1048576) (P : MOk r q zs) (P0 : MOk r0 q0 z0) (P1 : MOk r1 q1 z1) (P2 : MOk r2 q2 z2) (P3 : MOk r3 q3 z3) (P4 : MOk r4 q4 z4) (e0 : r0 = r) (e1 : q0 = r) (e2 : r1 = r) (e3 : q1 = r) (hs : ¬ (r3 = q ∧ q3 = q ∧ r4 = q ∧ q4 = q)) :
    Calls Try.prog 15 #[.agg #[.int .i64 r, .int .i64 q, .slice A n c], .agg #[.int .i64 r0, .int .i64 q0, .slice A0 n0 c0, .int .i64 r1, .int .i64 q1, .slice A1 n1 c1, .int .i64 r2, .int .i64 q2, .slice A2 n2 c2, .int .i64 r3, .int .i64 q3, .slice A3 n3 c3, .int .i64 r4, .int .i64 q4, .slice A4 n4 c4]] w (fun e w' => e = .returned (.bool false) ∧ Below w.heap.size w w') := by
  subst r0 q0 r1 q1
  have D0 := Lib.hid (al2 w (Obj.cells #[.int .i64 r, .int .i64 q, .slice A n c] 40) (Obj.cells #[.int .i64 r, .int .i64 r, .slice A0 n0 c0, .int .i64 r, .int .i64 r, .slice A1 n1 c1, .int .i64 r2, .int .i64 q2, .slice A2 n2 c2, .int .i64 r3, .int .i64 q3, .slice A3 n3 c3, .int .i64 r4, .int .i64 q4, .slice A4 n4 c4] 43))
  have Y0 := Lib.hid ((Box3.new w 40 (.int .i64 r) (.int .i64 q) (.slice A n c)).below (al1 _ (Obj.cells #[.int .i64 r, .int .i64 r, .slice A0 n0 c0, .int .i64 r, .int .i64 r, .slice A1 n1 c1, .int .i64 r2, .int .i64 q2, .slice A2 n2 c2, .int .i64 r3, .int .i64 q3, .slice A3 n3 c3, .int .i64 r4, .int .i64 q4, .slice A4 n4 c4] 43)) (by simp))
  have X0 := Lib.hid (Row.new (w.alloc (Obj.cells #[.int .i64 r, .int .i64 q, .slice A n c] 40)) #[.int .i64 r, .int .i64 r, .slice A0 n0 c0, .int .i64 r, .int .i64 r, .slice A1 n1 c1, .int .i64 r2, .int .i64 q2, .slice A2 n2 c2, .int .i64 r3, .int .i64 q3, .slice A3 n3 c3, .int .i64 r4, .int .i64 q4, .slice A4 n4 c4] 43)
  simp only [World.size_alloc] at X0
  have I := Lib.hid h
  have I0 := Lib.hid h0
  have I1 := Lib.hid h1
  have I2 := Lib.hid h2
  have I3 := Lib.hid h3
  have I4 := Lib.hid h4
  have Q := Lib.hid P
  have Q0 := Lib.hid P0
  have Q1 := Lib.hid P1
  have Q2 := Lib.hid P2
  have Q3 := Lib.hid P3
  have Q4 := Lib.hid P4
  have HS := Lib.hid hs
  clear h P hs h0 P0 h1 P1 h2 P2 h3 P3 h4 P4
  obtain ⟨a0, a1, a2, a3, _⟩ := id Q.out
  obtain ⟨R, hR⟩ : ∃ R : Nat, r = R := ⟨r.toNat, by omega⟩
  have LI := Lib.hid (fun W D => linv_yes R A0 A1 n0 c0 n1 c1 z0 z1 W (I0.out.into D) (I1.out.into D) m0 m1 (by omega) (by have := Q0.out; rw [hR] at this; exact this) (by have := Q1.out; rw [hR] at this; exact this))
  rw [← hR] at LI
  clear hR a0 a1 a2 a3
  go_enter Try.func15, Try.ntmps15
  go_wp2_with fail
  obtain ⟨w0, hw0⟩ : ∃ w0, w0 = ((w.alloc (Obj.cells #[.int .i64 r, .int .i64 q, .slice A n c] 40)).alloc (Obj.cells #[.int .i64 r, .int .i64 r, .slice A0 n0 c0, .int .i64 r, .int .i64 r, .slice A1 n1 c1, .int .i64 r2, .int .i64 q2, .slice A2 n2 c2, .int .i64 r3, .int .i64 q3, .slice A3 n3 c3, .int .i64 r4, .int .i64 q4, .slice A4 n4 c4] 43)) := ⟨_, rfl⟩
  have s0 : w.heap.size + 1 < w0.heap.size := by rw [hw0]; simp
  rw [← hw0] at X0 Y0 D0
  rw [← hw0]
  clear hw0
  obtain ⟨x0, x1, x2, x3, x4, x5, x6, x7, x8, x9, x10, x11, x12, x13, x14⟩ := X0.out.box15
  obtain ⟨y0, y1, y2⟩ := Y0.out
  go_wp2_with fail
  refine ((isM_spec r q A n c zs _ (I.out.into D0.out) m).mono fun _ _ h => h.yes Q.out).mono ?_
  rintro e w1 ⟨rfl, hb⟩
  have D1 := Lib.hid (D0.out.trans (hb.mono D0.out.size))
  have X1 := Lib.hid (X0.out.below hb (by omega))
  have Y1 := Lib.hid (Y0.out.below hb (by omega))
  have s1 : w.heap.size + 1 < w1.heap.size := by have := hb.size; omega
  clear hb x0 x1 x2 x3 x4 x5 x6 x7 x8 x9 x10 x11 x12 x13 x14 y0 y1 y2 X0 Y0
  obtain ⟨x0, x1, x2, x3, x4, x5, x6, x7, x8, x9, x10, x11, x12, x13, x14⟩ := X1.out.box15
  obtain ⟨y0, y1, y2⟩ := Y1.out
  go_wp2_with fail
  refine ((isM_spec r r A0 n0 c0 z0 _ (I0.out.into D1.out) m0).mono fun _ _ h => h.yes Q0.out).mono ?_
  rintro e w2 ⟨rfl, hb⟩
  have D2 := Lib.hid (D1.out.trans (hb.mono D1.out.size))
  have X2 := Lib.hid (X1.out.below hb (by omega))
  have Y2 := Lib.hid (Y1.out.below hb (by omega))
  have s2 : w.heap.size + 1 < w2.heap.size := by have := hb.size; omega
  clear hb x0 x1 x2 x3 x4 x5 x6 x7 x8 x9 x10 x11 x12 x13 x14 y0 y1 y2 X1 Y1
  obtain ⟨x0, x1, x2, x3, x4, x5, x6, x7, x8, x9, x10, x11, x12, x13, x14⟩ := X2.out.box15
  obtain ⟨y0, y1, y2⟩ := Y2.out
  go_wp2_with fail
  refine ((isM_spec r r A1 n1 c1 z1 _ (I1.out.into D2.out) m1).mono fun _ _ h => h.yes Q1.out).mono ?_
  rintro e w3 ⟨rfl, hb⟩
  have D3 := Lib.hid (D2.out.trans (hb.mono D2.out.size))
  have X3 := Lib.hid (X2.out.below hb (by omega))
  have Y3 := Lib.hid (Y2.out.below hb (by omega))
  have s3 : w.heap.size + 1 < w3.heap.size := by have := hb.size; omega
  clear hb x0 x1 x2 x3 x4 x5 x6 x7 x8 x9 x10 x11 x12 x13 x14 y0 y1 y2 X2 Y2
  obtain ⟨x0, x1, x2, x3, x4, x5, x6, x7, x8, x9, x10, x11, x12, x13, x14⟩ := X3.out.box15
  obtain ⟨y0, y1, y2⟩ := Y3.out
  go_wp2_with fail
  refine ((isM_spec r2 q2 A2 n2 c2 z2 _ (I2.out.into D3.out) m2).mono fun _ _ h => h.yes Q2.out).mono ?_
  rintro e w4 ⟨rfl, hb⟩
  have D4 := Lib.hid (D3.out.trans (hb.mono D3.out.size))
  have X4 := Lib.hid (X3.out.below hb (by omega))
  have Y4 := Lib.hid (Y3.out.below hb (by omega))
  have s4 : w.heap.size + 1 < w4.heap.size := by have := hb.size; omega
  clear hb x0 x1 x2 x3 x4 x5 x6 x7 x8 x9 x10 x11 x12 x13 x14 y0 y1 y2 X3 Y3
  obtain ⟨x0, x1, x2, x3, x4, x5, x6, x7, x8, x9, x10, x11, x12, x13, x14⟩ := X4.out.box15
  obtain ⟨y0, y1, y2⟩ := Y4.out
  go_wp2_with fail
  refine ((isM_spec r3 q3 A3 n3 c3 z3 _ (I3.out.into D4.out) m3).mono fun _ _ h => h.yes Q3.out).mono ?_
  rintro e w5 ⟨rfl, hb⟩
  have D5 := Lib.hid (D4.out.trans (hb.mono D4.out.size))
  have X5 := Lib.hid (X4.out.below hb (by omega))
  have Y5 := Lib.hid (Y4.out.below hb (by omega))
  have s5 : w.heap.size + 1 < w5.heap.size := by have := hb.size; omega
  clear hb x0 x1 x2 x3 x4 x5 x6 x7 x8 x9 x10 x11 x12 x13 x14 y0 y1 y2 X4 Y4
  obtain ⟨x0, x1, x2, x3, x4, x5, x6, x7, x8, x9, x10, x11, x12, x13, x14⟩ := X5.out.box15
  obtain ⟨y0, y1, y2⟩ := Y5.out
  go_wp2_with fail
  refine ((isM_spec r4 q4 A4 n4 c4 z4 _ (I4.out.into D5.out) m4).mono fun _ _ h => h.yes Q4.out).mono ?_
  rintro e w6 ⟨rfl, hb⟩
  have D6 := Lib.hid (D5.out.trans (hb.mono D5.out.size))
  have X6 := Lib.hid (X5.out.below hb (by omega))
  have Y6 := Lib.hid (Y5.out.below hb (by omega))
  have s6 : w.heap.size + 1 < w6.heap.size := by have := hb.size; omega
  clear hb x0 x1 x2 x3 x4 x5 x6 x7 x8 x9 x10 x11 x12 x13 x14 y0 y1 y2 X5 Y5
  obtain ⟨x0, x1, x2, x3, x4, x5, x6, x7, x8, x9, x10, x11, x12, x13, x14⟩ := X6.out.box15
  obtain ⟨y0, y1, y2⟩ := Y6.out
  go_wp2_with fail
  refine (LI.out _ D6.out).mono ?_
  rintro e w7 ⟨v, rfl, hv, hb⟩
  have D7 := Lib.hid (D6.out.trans (hb.mono D6.out.size))
  have X7 := Lib.hid (X6.out.below hb (by omega))
  have Y7 := Lib.hid (Y6.out.below hb (by omega))
  have s7 : w.heap.size + 1 < w7.heap.size := by have := hb.size; omega
  clear hb x0 x1 x2 x3 x4 x5 x6 x7 x8 x9 x10 x11 x12 x13 x14 y0 y1 y2 X6 Y6
  clear hv
  cases v with
  | false =>
    go_wp2
    go_ret
    exact ⟨rfl, D7.out⟩
  | true =>
  obtain ⟨x0, x1, x2, x3, x4, x5, x6, x7, x8, x9, x10, x11, x12, x13, x14⟩ := X7.out.box15
  obtain ⟨y0, y1, y2⟩ := Y7.out
  go_wp2_with fail
  refine (linv_no r3 q3 r4 q4 q A3 A4 n3 c3 n4 c4 _ HS.out).mono ?_
  rintro e w8 ⟨rfl, hb⟩
  have D8 := Lib.hid (D7.out.trans (hb.mono D7.out.size))
  have X8 := Lib.hid (X7.out.below hb (by omega))
  have Y8 := Lib.hid (Y7.out.below hb (by omega))
  have s8 : w.heap.size + 1 < w8.heap.size := by have := hb.size; omega
  clear hb x0 x1 x2 x3 x4 x5 x6 x7 x8 x9 x10 x11 x12 x13 x14 y0 y1 y2 X7 Y7
  go_wp2
  go_ret
  exact ⟨rfl, D8.out⟩

/-- As RedOk, the form of the diagonal being asked ahead of its sides. -/
def RedOk2 (R C R2 C2 : Nat) (zs z0 z1 z2 z3 z4 : List Int) : Prop :=
  Undo R z1 z0 ∧ Undo C z4 z3 ∧ SDiag R2 C2 z2 ∧ Fits R C z0 zs (R * C) ∧ Fits C C (pl R C z0 zs (R * C) (R * C)) z3 (R * C) ∧ (R2 = R ∧ C2 = C) ∧ pl C C (pl R C z0 zs (R * C) (R * C)) z3 (R * C) (R * C) = z2

set_option maxRecDepth 100000 in
set_option maxHeartbeats 16000000 in
theorem isr_spec_fit (R C R2 C2 : Nat) (A : Option Addr) (n c : Nat) (zs : List Int) (A0 A1 A2 A3 A4 : Option Addr) (n0 c0 n1 c1 n2 c2 n3 c3 n4 c4 : Nat) (z0 z1 z2 z3 z4 : List Int) (w : World) (h : Ints w w.heap.size A n zs) (m : n ≤ 1048576) (h0 : Ints w w.heap.size A0 n0 z0) (m0 : n0 ≤ 1048576) (h1 : Ints w w.heap.size A1 n1 z1) (m1 : n1 ≤ 1048576) (h2 : Ints w w.heap.size A2 n2 z2) (m2 : n2 ≤ 1048576) (h3 : Ints w w.heap.size A3 n3 z3) (m3 : n3 ≤ 1048576) (h4 : Ints w w.heap.size A4 n4 z4) (m4 : n4 ≤ 1048576) (hR : R ≤ 48) (hC : C ≤ 48) (hR2 : R2 ≤ 48) (hC2 : C2 ≤ 48) (P : MOk R C zs) (P0 : MOk R R z0) (P1 : MOk R R z1) (P2 : MOk R2 C2 z2) (P3 : MOk C C z3) (P4 : MOk C C z4) :
    Calls Try.prog 15 #[.agg #[.int .i64 R, .int .i64 C, .slice A n c], .agg #[.int .i64 R, .int .i64 R, .slice A0 n0 c0, .int .i64 R, .int .i64 R, .slice A1 n1 c1, .int .i64 R2, .int .i64 C2, .slice A2 n2 c2, .int .i64 C, .int .i64 C, .slice A3 n3 c3, .int .i64 C, .int .i64 C, .slice A4 n4 c4]] w (SaysB (RedOk2 R C R2 C2 zs z0 z1 z2 z3 z4) w.heap.size w) := by
  have D0 := Lib.hid (al2 w (Obj.cells #[.int .i64 R, .int .i64 C, .slice A n c] 40) (Obj.cells #[.int .i64 R, .int .i64 R, .slice A0 n0 c0, .int .i64 R, .int .i64 R, .slice A1 n1 c1, .int .i64 R2, .int .i64 C2, .slice A2 n2 c2, .int .i64 C, .int .i64 C, .slice A3 n3 c3, .int .i64 C, .int .i64 C, .slice A4 n4 c4] 43))
  have Y0 := Lib.hid ((Box3.new w 40 (.int .i64 R) (.int .i64 C) (.slice A n c)).below (al1 _ (Obj.cells #[.int .i64 R, .int .i64 R, .slice A0 n0 c0, .int .i64 R, .int .i64 R, .slice A1 n1 c1, .int .i64 R2, .int .i64 C2, .slice A2 n2 c2, .int .i64 C, .int .i64 C, .slice A3 n3 c3, .int .i64 C, .int .i64 C, .slice A4 n4 c4] 43)) (by simp))
  have X0 := Lib.hid (Row.new (w.alloc (Obj.cells #[.int .i64 R, .int .i64 C, .slice A n c] 40)) #[.int .i64 R, .int .i64 R, .slice A0 n0 c0, .int .i64 R, .int .i64 R, .slice A1 n1 c1, .int .i64 R2, .int .i64 C2, .slice A2 n2 c2, .int .i64 C, .int .i64 C, .slice A3 n3 c3, .int .i64 C, .int .i64 C, .slice A4 n4 c4] 43)
  simp only [World.size_alloc] at X0
  have I := Lib.hid h
  have I0 := Lib.hid h0
  have I1 := Lib.hid h1
  have I2 := Lib.hid h2
  have I3 := Lib.hid h3
  have I4 := Lib.hid h4
  have Q := Lib.hid P
  have Q0 := Lib.hid P0
  have Q1 := Lib.hid P1
  have Q2 := Lib.hid P2
  have Q3 := Lib.hid P3
  have Q4 := Lib.hid P4
  have pq := rc_le hR hC
  have NM := Lib.hid (show n2 = R2 * C2 by have := P2.2.2.2.2.1; rw [castM] at this; have := h2.1; omega)
  clear h P h0 P0 h1 P1 h2 P2 h3 P3 h4 P4
  go_enter Try.func15, Try.ntmps15
  go_wp2_with fail
  obtain ⟨w0, hw0⟩ : ∃ w0, w0 = ((w.alloc (Obj.cells #[.int .i64 R, .int .i64 C, .slice A n c] 40)).alloc (Obj.cells #[.int .i64 R, .int .i64 R, .slice A0 n0 c0, .int .i64 R, .int .i64 R, .slice A1 n1 c1, .int .i64 R2, .int .i64 C2, .slice A2 n2 c2, .int .i64 C, .int .i64 C, .slice A3 n3 c3, .int .i64 C, .int .i64 C, .slice A4 n4 c4] 43)) := ⟨_, rfl⟩
  have s0 : w.heap.size + 1 < w0.heap.size := by rw [hw0]; simp
  rw [← hw0] at X0 Y0 D0
  rw [← hw0]
  clear hw0
  obtain ⟨x0, x1, x2, x3, x4, x5, x6, x7, x8, x9, x10, x11, x12, x13, x14⟩ := X0.out.box15
  obtain ⟨y0, y1, y2⟩ := Y0.out
  go_wp2_with fail
  refine ((isM_spec R C A n c zs _ (I.out.into D0.out) m).mono fun _ _ h => h.yes Q.out).mono ?_
  rintro e w1 ⟨rfl, hb⟩
  have D1 := Lib.hid (D0.out.trans (hb.mono D0.out.size))
  have X1 := Lib.hid (X0.out.below hb (by omega))
  have Y1 := Lib.hid (Y0.out.below hb (by omega))
  have s1 : w.heap.size + 1 < w1.heap.size := by have := hb.size; omega
  clear hb x0 x1 x2 x3 x4 x5 x6 x7 x8 x9 x10 x11 x12 x13 x14 y0 y1 y2 X0 Y0
  obtain ⟨x0, x1, x2, x3, x4, x5, x6, x7, x8, x9, x10, x11, x12, x13, x14⟩ := X1.out.box15
  obtain ⟨y0, y1, y2⟩ := Y1.out
  go_wp2_with fail
  refine ((isM_spec R R A0 n0 c0 z0 _ (I0.out.into D1.out) m0).mono fun _ _ h => h.yes Q0.out).mono ?_
  rintro e w2 ⟨rfl, hb⟩
  have D2 := Lib.hid (D1.out.trans (hb.mono D1.out.size))
  have X2 := Lib.hid (X1.out.below hb (by omega))
  have Y2 := Lib.hid (Y1.out.below hb (by omega))
  have s2 : w.heap.size + 1 < w2.heap.size := by have := hb.size; omega
  clear hb x0 x1 x2 x3 x4 x5 x6 x7 x8 x9 x10 x11 x12 x13 x14 y0 y1 y2 X1 Y1
  obtain ⟨x0, x1, x2, x3, x4, x5, x6, x7, x8, x9, x10, x11, x12, x13, x14⟩ := X2.out.box15
  obtain ⟨y0, y1, y2⟩ := Y2.out
  go_wp2_with fail
  refine ((isM_spec R R A1 n1 c1 z1 _ (I1.out.into D2.out) m1).mono fun _ _ h => h.yes Q1.out).mono ?_
  rintro e w3 ⟨rfl, hb⟩
  have D3 := Lib.hid (D2.out.trans (hb.mono D2.out.size))
  have X3 := Lib.hid (X2.out.below hb (by omega))
  have Y3 := Lib.hid (Y2.out.below hb (by omega))
  have s3 : w.heap.size + 1 < w3.heap.size := by have := hb.size; omega
  clear hb x0 x1 x2 x3 x4 x5 x6 x7 x8 x9 x10 x11 x12 x13 x14 y0 y1 y2 X2 Y2
  obtain ⟨x0, x1, x2, x3, x4, x5, x6, x7, x8, x9, x10, x11, x12, x13, x14⟩ := X3.out.box15
  obtain ⟨y0, y1, y2⟩ := Y3.out
  go_wp2_with fail
  refine ((isM_spec R2 C2 A2 n2 c2 z2 _ (I2.out.into D3.out) m2).mono fun _ _ h => h.yes Q2.out).mono ?_
  rintro e w4 ⟨rfl, hb⟩
  have D4 := Lib.hid (D3.out.trans (hb.mono D3.out.size))
  have X4 := Lib.hid (X3.out.below hb (by omega))
  have Y4 := Lib.hid (Y3.out.below hb (by omega))
  have s4 : w.heap.size + 1 < w4.heap.size := by have := hb.size; omega
  clear hb x0 x1 x2 x3 x4 x5 x6 x7 x8 x9 x10 x11 x12 x13 x14 y0 y1 y2 X3 Y3
  obtain ⟨x0, x1, x2, x3, x4, x5, x6, x7, x8, x9, x10, x11, x12, x13, x14⟩ := X4.out.box15
  obtain ⟨y0, y1, y2⟩ := Y4.out
  go_wp2_with fail
  refine ((isM_spec C C A3 n3 c3 z3 _ (I3.out.into D4.out) m3).mono fun _ _ h => h.yes Q3.out).mono ?_
  rintro e w5 ⟨rfl, hb⟩
  have D5 := Lib.hid (D4.out.trans (hb.mono D4.out.size))
  have X5 := Lib.hid (X4.out.below hb (by omega))
  have Y5 := Lib.hid (Y4.out.below hb (by omega))
  have s5 : w.heap.size + 1 < w5.heap.size := by have := hb.size; omega
  clear hb x0 x1 x2 x3 x4 x5 x6 x7 x8 x9 x10 x11 x12 x13 x14 y0 y1 y2 X4 Y4
  obtain ⟨x0, x1, x2, x3, x4, x5, x6, x7, x8, x9, x10, x11, x12, x13, x14⟩ := X5.out.box15
  obtain ⟨y0, y1, y2⟩ := Y5.out
  go_wp2_with fail
  refine ((isM_spec C C A4 n4 c4 z4 _ (I4.out.into D5.out) m4).mono fun _ _ h => h.yes Q4.out).mono ?_
  rintro e w6 ⟨rfl, hb⟩
  have D6 := Lib.hid (D5.out.trans (hb.mono D5.out.size))
  have X6 := Lib.hid (X5.out.below hb (by omega))
  have Y6 := Lib.hid (Y5.out.below hb (by omega))
  have s6 : w.heap.size + 1 < w6.heap.size := by have := hb.size; omega
  clear hb x0 x1 x2 x3 x4 x5 x6 x7 x8 x9 x10 x11 x12 x13 x14 y0 y1 y2 X5 Y5
  obtain ⟨x0, x1, x2, x3, x4, x5, x6, x7, x8, x9, x10, x11, x12, x13, x14⟩ := X6.out.box15
  obtain ⟨y0, y1, y2⟩ := Y6.out
  go_wp2_with fail
  refine (linv_yes R A0 A1 n0 c0 n1 c1 z0 z1 _ (I0.out.into D6.out) (I1.out.into D6.out) m0 m1 hR Q0.out Q1.out).mono ?_
  rintro e w7 ⟨v, rfl, hv, hb⟩
  have V6 := Lib.hid hv
  clear hv
  have D7 := Lib.hid (D6.out.trans (hb.mono D6.out.size))
  have X7 := Lib.hid (X6.out.below hb (by omega))
  have Y7 := Lib.hid (Y6.out.below hb (by omega))
  have s7 : w.heap.size + 1 < w7.heap.size := by have := hb.size; omega
  clear hb x0 x1 x2 x3 x4 x5 x6 x7 x8 x9 x10 x11 x12 x13 x14 y0 y1 y2 X6 Y6
  cases v with
  | false =>
    go_wp2
    go_ret
    exact SaysB.f (fun h => by have := V6.out.2 h.1; simp at this) D7.out
  | true =>
  have G2 := Lib.hid (V6.out.1 rfl)
  clear V6
  obtain ⟨x0, x1, x2, x3, x4, x5, x6, x7, x8, x9, x10, x11, x12, x13, x14⟩ := X7.out.box15
  obtain ⟨y0, y1, y2⟩ := Y7.out
  go_wp2_with fail
  refine (linv_yes C A3 A4 n3 c3 n4 c4 z3 z4 _ (I3.out.into D7.out) (I4.out.into D7.out) m3 m4 hC Q3.out Q4.out).mono ?_
  rintro e w8 ⟨v, rfl, hv, hb⟩
  have V7 := Lib.hid hv
  clear hv
  have D8 := Lib.hid (D7.out.trans (hb.mono D7.out.size))
  have X8 := Lib.hid (X7.out.below hb (by omega))
  have Y8 := Lib.hid (Y7.out.below hb (by omega))
  have s8 : w.heap.size + 1 < w8.heap.size := by have := hb.size; omega
  clear hb x0 x1 x2 x3 x4 x5 x6 x7 x8 x9 x10 x11 x12 x13 x14 y0 y1 y2 X7 Y7
  cases v with
  | false =>
    go_wp2
    go_ret
    exact SaysB.f (fun h => by have := V7.out.2 h.2.1; simp at this) D8.out
  | true =>
  have G3 := Lib.hid (V7.out.1 rfl)
  clear V7
  obtain ⟨x0, x1, x2, x3, x4, x5, x6, x7, x8, x9, x10, x11, x12, x13, x14⟩ := X8.out.box15
  obtain ⟨y0, y1, y2⟩ := Y8.out
  go_wp2_with fail
  refine (ldiag_spec R2 C2 A2 n2 c2 z2 _ (I2.out.into D8.out) NM.out hR2 hC2 Q2.out).mono ?_
  rintro e w9 ⟨v, rfl, hv, hb⟩
  have V8 := Lib.hid hv
  clear hv
  have D9 := Lib.hid (D8.out.trans (hb.mono D8.out.size))
  have X9 := Lib.hid (X8.out.below hb (by omega))
  have Y9 := Lib.hid (Y8.out.below hb (by omega))
  have s9 : w.heap.size + 1 < w9.heap.size := by have := hb.size; omega
  clear hb x0 x1 x2 x3 x4 x5 x6 x7 x8 x9 x10 x11 x12 x13 x14 y0 y1 y2 X8 Y8
  cases v with
  | false =>
    go_wp2
    go_ret
    exact SaysB.f (fun h => by have := V8.out.2 h.2.2.1; simp at this) D9.out
  | true =>
  have G1 := Lib.hid (V8.out.1 rfl)
  clear V8
  have M := Lib.hid (fun W D => mul_spec_yes R R C A0 A n0 c0 n c z0 zs W (I0.out.into D) (I.out.into D) m0 m hR hR hC Q0.out Q.out)
  have PL := Lib.hid (pl_len R C z0 zs (R * C) (R * C))
  by_cases hF : Fits R C z0 zs (R * C)
  case neg =>
    have HF := Lib.hid hF
    have M1 := Lib.hid (fun W D => (M.out W D).mono fun _ _ h => h.2 HF.out)
    have hc0 : C ≠ 0 := fun e => hF (by subst e; intro u hu; omega)
    have M2 := Lib.hid (fun W A5 c5 D => mul_spec_unfit 0 0 C C A5 A3 0 c5 n3 c3 [] z3 W ⟨rfl, fun h => by omega⟩ (I3.out.into D) (by omega) m3 ⟨by omega, by omega, by omega, by omega, by simp, fun i hi => by simp at hi⟩ Q3.out (by omega))
    clear hF M hc0
    obtain ⟨x0, x1, x2, x3, x4, x5, x6, x7, x8, x9, x10, x11, x12, x13, x14⟩ := X9.out.box15
    obtain ⟨y0, y1, y2⟩ := Y9.out
    go_wp2_with fail
    refine (M1.out _ D9.out).mono ?_
    rintro e w10 ⟨A5, c5, rfl, hown, hb⟩
    have D10 := Lib.hid (D9.out.trans (hb.mono D9.out.size))
    have X10 := Lib.hid (X9.out.below hb (by omega))
    have Y10 := Lib.hid (Y9.out.below hb (by omega))
    have s10 : w.heap.size + 1 < w10.heap.size := by have := hb.size; omega
    clear hb x0 x1 x2 x3 x4 x5 x6 x7 x8 x9 x10 x11 x12 x13 x14 y0 y1 y2 X9 Y9
    have B10 := Lib.hid (al1 w10 (Obj.cells #[.int .i64 0, .int .i64 0, .slice A5 0 c5] 40))
    have D11 := Lib.hid (D10.out.trans (B10.out.mono D10.out.size))
    clear hown
    obtain ⟨x0, x1, x2, x3, x4, x5, x6, x7, x8, x9, x10, x11, x12, x13, x14⟩ := (X10.out.below B10.out (by omega)).box15
    go_wp2_with fail
    refine (M2.out _ A5 c5 D11.out).mono ?_
    rintro e w12 ⟨A6, c6, rfl, hown, hb⟩
    have D12 := Lib.hid (D11.out.trans (hb.mono D11.out.size))
    clear hb hown x0 x1 x2 x3 x4 x5 x6 x7 x8 x9 x10 x11 x12 x13 x14
    go_wp2
    go_ret
    exact SaysB.f (fun h => HF.out h.2.2.2.1) (D12.out.alloc D12.out.size _)
  have G4 := Lib.hid hF
  have M1 := Lib.hid (fun W D => (M.out W D).mono fun _ _ h => h.1 G4.out)
  obtain ⟨pp, hpp⟩ : ∃ pp, pl R C z0 zs (R * C) (R * C) = pp := ⟨_, rfl⟩
  have HPP := Lib.hid hpp
  have PM := Lib.hid (show MOk R C pp from by rw [← hpp]; exact pl_ok hR hC hF)
  rw [hpp] at M1 PL
  clear hF M hpp
  obtain ⟨x0, x1, x2, x3, x4, x5, x6, x7, x8, x9, x10, x11, x12, x13, x14⟩ := X9.out.box15
  obtain ⟨y0, y1, y2⟩ := Y9.out
  go_wp2_with fail
  refine (M1.out _ D9.out).mono ?_
  rintro e w10 ⟨A5, c5, rfl, hown, hb⟩
  have O10 := Lib.hid hown
  clear hown
  have D10 := Lib.hid (D9.out.trans (hb.mono D9.out.size))
  have X10 := Lib.hid (X9.out.below hb (by omega))
  have Y10 := Lib.hid (Y9.out.below hb (by omega))
  have s10 : w.heap.size + 1 < w10.heap.size := by have := hb.size; omega
  clear hb x0 x1 x2 x3 x4 x5 x6 x7 x8 x9 x10 x11 x12 x13 x14 y0 y1 y2 X9 Y9
  have B10 := Lib.hid (al1 w10 (Obj.cells #[.int .i64 R, .int .i64 C, .slice A5 pp.length c5] 40))
  have D11 := Lib.hid (D10.out.trans (B10.out.mono D10.out.size))
  have M2 := Lib.hid (fun W D => mul_spec_yes R C C A5 A3 pp.length c5 n3 c3 pp z3 W ((O10.out.ints.into B10.out).into D) ((I3.out.into D11.out).into D) (by rw [PL.out]; omega) m3 hR hC hC PM.out Q3.out)
  by_cases hF : Fits C C pp z3 (R * C)
  case neg =>
    have HF := Lib.hid hF
    have M3 := Lib.hid (fun W D => (M2.out W D).mono fun _ _ h => h.2 HF.out)
    clear hF M2
    obtain ⟨x0, x1, x2, x3, x4, x5, x6, x7, x8, x9, x10, x11, x12, x13, x14⟩ := (X10.out.below B10.out (by omega)).box15
    go_wp2_with fail
    refine (M3.out _ (Below.refl _ _)).mono ?_
    rintro e w12 ⟨A8, c8, rfl, hown, hb⟩
    have D12 := Lib.hid (D11.out.trans (hb.mono D11.out.size))
    clear hb hown x0 x1 x2 x3 x4 x5 x6 x7 x8 x9 x10 x11 x12 x13 x14
    go_wp2
    go_ret
    exact SaysB.f (fun h => HF.out (by have := h.2.2.2.2.1; rw [HPP.out] at this; exact this)) (D12.out.alloc D12.out.size _)
  have G5 := Lib.hid hF
  have M3 := Lib.hid (fun W D => (M2.out W D).mono fun _ _ h => h.1 G5.out)
  have QL := Lib.hid (pl_len C C pp z3 (R * C) (R * C))
  obtain ⟨qq, hqq⟩ : ∃ qq, pl C C pp z3 (R * C) (R * C) = qq := ⟨_, rfl⟩
  have HQQ := Lib.hid hqq
  have QM := Lib.hid (show MOk R C qq from by rw [← hqq]; exact pl_ok hR hC hF)
  rw [hqq] at M3 QL
  clear hF M2 hqq
  obtain ⟨x0, x1, x2, x3, x4, x5, x6, x7, x8, x9, x10, x11, x12, x13, x14⟩ := (X10.out.below B10.out (by omega)).box15
  go_wp2_with fail
  refine (M3.out _ (Below.refl _ _)).mono ?_
  rintro e w12 ⟨A8, c8, rfl, hown, hb⟩
  have D12 := Lib.hid (D11.out.trans (hb.mono D11.out.size))
  have O12 := Lib.hid hown
  have z12 : w10.heap.size < w12.heap.size := by have := hb.size; simp at this; omega
  have X12 := Lib.hid ((X10.out.below B10.out (by omega)).below hb (by simp <;> omega))
  clear hb hown x0 x1 x2 x3 x4 x5 x6 x7 x8 x9 x10 x11 x12 x13 x14
  have B12 := Lib.hid (al1 w12 (Obj.cells #[.int .i64 R, .int .i64 C, .slice A8 qq.length c8] 40))
  have D13 := Lib.hid (D12.out.trans (B12.out.mono D12.out.size))
  obtain ⟨x0, x1, x2, x3, x4, x5, x6, x7, x8, x9, x10, x11, x12, x13, x14⟩ := (X12.out.below B12.out (by omega)).box15
  go_wp2_with fail
  refine (same_any R C R2 C2 A8 A2 qq.length n2 c8 c2 qq z2 _ (O12.out.ints.into B12.out) (I2.out.into D13.out) QM.out Q2.out).mono ?_
  rintro e w14 ⟨v, rfl, hv, hb⟩
  have HV := Lib.hid (show v = true ↔ (R2 = R ∧ C2 = C) ∧ qq = z2 from hv)
  have D14 := Lib.hid (D13.out.trans (hb.mono D13.out.size))
  clear hv hb x0 x1 x2 x3 x4 x5 x6 x7 x8 x9 x10 x11 x12 x13 x14
  go_wp2
  go_ret
  exact ⟨v, rfl, ⟨fun e => ⟨G2.out, G3.out, G1.out, G4.out, by rw [HPP.out]; exact G5.out, (HV.out.1 e).1, by rw [HPP.out, HQQ.out]; exact (HV.out.1 e).2⟩, fun e => HV.out.2 ⟨e.2.2.2.2.2.1, by have := e.2.2.2.2.2.2; rw [HPP.out, HQQ.out] at this; exact this⟩⟩, D14.out⟩

/-- The specification's answer. -/
theorem isr_spec (r q : Int) (A : Option Addr) (n c : Nat) (zs : List Int) (r0 q0 r1 q1 r2 q2 r3 q3 r4 q4 : Int) (A0 A1 A2 A3 A4 : Option Addr) (n0 c0 n1 c1 n2 c2 n3 c3 n4 c4 : Nat) (z0 z1 z2 z3 z4 : List Int) (w : World) (h : Ints w w.heap.size A n zs) (m : n ≤ 1048576) (h0 : Ints w w.heap.size A0 n0 z0) (m0 : n0 ≤ 1048576) (h1 : Ints w w.heap.size A1 n1 z1) (m1 : n1 ≤ 1048576) (h2 : Ints w w.heap.size A2 n2 z2) (m2 : n2 ≤ 1048576) (h3 : Ints w w.heap.size A3 n3 z3) (m3 : n3 ≤ 1048576) (h4 : Ints w w.heap.size A4 n4 z4) (m4 : n4 ≤ 1048576) :
    Calls Try.prog 15 #[.agg #[.int .i64 r, .int .i64 q, .slice A n c], .agg #[.int .i64 r0, .int .i64 q0, .slice A0 n0 c0, .int .i64 r1, .int .i64 q1, .slice A1 n1 c1, .int .i64 r2, .int .i64 q2, .slice A2 n2 c2, .int .i64 r3, .int .i64 q3, .slice A3 n3 c3, .int .i64 r4, .int .i64 q4, .slice A4 n4 c4]] w (SaysB (IsRed r q zs r0 q0 r1 q1 r2 q2 r3 q3 r4 q4 z0 z1 z2 z3 z4) w.heap.size w) := by
  by_cases hP : MOk r q zs ∧ MOk r0 q0 z0 ∧ MOk r1 q1 z1 ∧ MOk r2 q2 z2 ∧ MOk r3 q3 z3 ∧ MOk r4 q4 z4
  case neg => exact (isr_spec_bad r q A n c zs r0 q0 r1 q1 r2 q2 r3 q3 r4 q4 A0 A1 A2 A3 A4 n0 c0 n1 c1 n2 c2 n3 c3 n4 c4 z0 z1 z2 z3 z4 w h m h0 m0 h1 m1 h2 m2 h3 m3 h4 m4 hP).mono fun e w' hh => (by
    obtain ⟨rfl, hb⟩ := hh
    exact SaysB.f (fun h => hP ⟨h.1, h.2.1.1.1, h.2.1.2.1.1, h.2.1.2.2.1.1, h.2.1.2.2.2.1.1, h.2.1.2.2.2.2.1⟩) hb)
  obtain ⟨P, P0, P1, P2, P3, P4⟩ := hP
  by_cases hL : r0 = r ∧ q0 = r ∧ r1 = r ∧ q1 = r
  case neg => exact (isr_spec_sizeL r q A n c zs r0 q0 r1 q1 r2 q2 r3 q3 r4 q4 A0 A1 A2 A3 A4 n0 c0 n1 c1 n2 c2 n3 c3 n4 c4 z0 z1 z2 z3 z4 w h m h0 m0 h1 m1 h2 m2 h3 m3 h4 m4 P P0 P1 P2 P3 P4 hL).mono fun e w' hh => (by
    obtain ⟨rfl, hb⟩ := hh
    exact SaysB.f (fun h => hL ⟨h.2.1.1.2.1, h.2.1.1.2.2, h.2.1.2.1.2.1, h.2.1.2.1.2.2⟩) hb)
  obtain ⟨e0, e1, e2, e3⟩ := hL
  by_cases hS : r3 = q ∧ q3 = q ∧ r4 = q ∧ q4 = q
  case neg => exact (isr_spec_sizeR r q A n c zs r0 q0 r1 q1 r2 q2 r3 q3 r4 q4 A0 A1 A2 A3 A4 n0 c0 n1 c1 n2 c2 n3 c3 n4 c4 z0 z1 z2 z3 z4 w h m h0 m0 h1 m1 h2 m2 h3 m3 h4 m4 P P0 P1 P2 P3 P4 e0 e1 e2 e3 hS).mono fun e w' hh => (by
    obtain ⟨rfl, hb⟩ := hh
    exact SaysB.f (fun h => hS ⟨h.2.1.2.2.2.1.2.1, h.2.1.2.2.2.1.2.2, h.2.1.2.2.2.2.2.1, h.2.1.2.2.2.2.2.2⟩) hb)
  obtain ⟨e4, e5, e6, e7⟩ := hS
  obtain ⟨a0, a1, a2, a3, _⟩ := id P
  obtain ⟨b0, b1, b2, b3, _⟩ := id P2
  obtain ⟨R, rfl⟩ : ∃ R : Nat, r = R := ⟨r.toNat, by omega⟩
  obtain ⟨C, rfl⟩ : ∃ C : Nat, q = C := ⟨q.toNat, by omega⟩
  obtain ⟨R2, rfl⟩ : ∃ R2 : Nat, r2 = R2 := ⟨r2.toNat, by omega⟩
  obtain ⟨C2, rfl⟩ : ∃ C2 : Nat, q2 = C2 := ⟨q2.toNat, by omega⟩
  subst e0 e1 e2 e3 e4 e5 e6 e7
  refine (isr_spec_fit R C R2 C2 A n c zs A0 A1 A2 A3 A4 n0 c0 n1 c1 n2 c2 n3 c3 n4 c4 z0 z1 z2 z3 z4 w h m h0 m0 h1 m1 h2 m2 h3 m3 h4 m4 (by omega) (by omega) (by omega) (by omega) P P0 P1 P2 P3 P4).mono fun e w' hh => ?_
  obtain ⟨v, rfl, hv, hb⟩ := hh
  refine ⟨v, rfl, ⟨fun e => ?_, fun e => hv.2 ?_⟩, hb⟩
  · obtain ⟨u1, u2, sd, f1, f2, ⟨rfl, rfl⟩, ee⟩ := hv.1 e
    exact ⟨P, ⟨⟨P0, rfl, rfl⟩, ⟨P1, rfl, rfl⟩, ⟨P2, rfl, rfl⟩, ⟨P3, rfl, rfl⟩, ⟨P4, rfl, rfl⟩⟩, sd, u1, u2, f1, f2, ee⟩
  · obtain ⟨_, ⟨_, _, ⟨_, d1, d2⟩, _⟩, sd, u1, u2, f1, f2, ee⟩ := e
    obtain rfl : R2 = R := by omega
    obtain rfl : C2 = C := by omega
    exact ⟨u1, u2, sd, f1, f2, ⟨rfl, rfl⟩, ee⟩
end Go.Proofs.Ytgmkcmdnbfolhaa
