/- Contracts of the laws' helpers over reductions of any sides: sizes, copies, comparisons. No condition but those that each theorem names. -/
import Derived.Test.YtgmkcmdnbfolhaaIsrA
import Derived.Test.YtgmkcmdnbfolhaaSmO
import Derived.Test.YtgmkcmdnbfolhaaSmR
namespace Go.Proofs.Ytgmkcmdnbfolhaa
open Go.RowKit

set_option maxRecDepth 100000 in
set_option maxHeartbeats 4000000 in
theorem szR_all (r0 q0 r1 q1 r2 q2 r3 q3 r4 q4 : Int) (A0 A1 A2 A3 A4 : Option Addr) (n0 c0 n1 c1 n2 c2 n3 c3 n4 c4 : Nat) (l : Int) (w : World) (m0 : n0 ≤ maxLen) (m1 : n1 ≤ maxLen) (m2 : n2 ≤ maxLen) (m3 : n3 ≤ maxLen) (m4 : n4 ≤ maxLen) (l0 : 0 ≤ l) (l1 : l ≤ 1048576) :
    Calls Try.prog 14 #[.agg #[.int .i64 r0, .int .i64 q0, .slice A0 n0 c0, .int .i64 r1, .int .i64 q1, .slice A1 n1 c1, .int .i64 r2, .int .i64 q2, .slice A2 n2 c2, .int .i64 r3, .int .i64 q3, .slice A3 n3 c3, .int .i64 r4, .int .i64 q4, .slice A4 n4 c4], .int .i64 l] w fun e w' => (∃ t, e = .returned (.int .i64 t) ∧ (t < 0 ∨ (0 ≤ t ∧ (n0 : Int) ≤ l ∧ (n1 : Int) ≤ l ∧ (n2 : Int) ≤ l ∧ (n3 : Int) ≤ l ∧ (n4 : Int) ≤ l))) ∧ Below w.heap.size w w' := by
  have D0 := Lib.hid (al1 w (Obj.cells #[.int .i64 r0, .int .i64 q0, .slice A0 n0 c0, .int .i64 r1, .int .i64 q1, .slice A1 n1 c1, .int .i64 r2, .int .i64 q2, .slice A2 n2 c2, .int .i64 r3, .int .i64 q3, .slice A3 n3 c3, .int .i64 r4, .int .i64 q4, .slice A4 n4 c4] 36))
  have X0 := Lib.hid (Row.new w #[.int .i64 r0, .int .i64 q0, .slice A0 n0 c0, .int .i64 r1, .int .i64 q1, .slice A1 n1 c1, .int .i64 r2, .int .i64 q2, .slice A2 n2 c2, .int .i64 r3, .int .i64 q3, .slice A3 n3 c3, .int .i64 r4, .int .i64 q4, .slice A4 n4 c4] 36)
  go_enter Try.func14, Try.ntmps14
  go_wp2_with fail
  obtain ⟨w0, hw0⟩ : ∃ w0, w0 = w.alloc (Obj.cells #[.int .i64 r0, .int .i64 q0, .slice A0 n0 c0, .int .i64 r1, .int .i64 q1, .slice A1 n1 c1, .int .i64 r2, .int .i64 q2, .slice A2 n2 c2, .int .i64 r3, .int .i64 q3, .slice A3 n3 c3, .int .i64 r4, .int .i64 q4, .slice A4 n4 c4] 36) := ⟨_, rfl⟩
  have s0 : w.heap.size < w0.heap.size := by rw [hw0]; simp
  rw [← hw0] at X0 D0
  rw [← hw0]
  clear hw0
  obtain ⟨x0, x1, x2, x3, x4, x5, x6, x7, x8, x9, x10, x11, x12, x13, x14⟩ := X0.out.box15
  go_wp2_with fail
  refine (szM_any r0 q0 A0 n0 c0 l _ m0 (by omega) (by omega)).mono ?_
  rintro e w1 ⟨rfl, hb⟩
  have D1 := Lib.hid (D0.out.trans (hb.mono D0.out.size))
  have X1 := Lib.hid (X0.out.below hb (by omega))
  have s1 : w.heap.size < w1.heap.size := by have := hb.size; omega
  clear hb x0 x1 x2 x3 x4 x5 x6 x7 x8 x9 x10 x11 x12 x13 x14 X0
  by_cases b0 : l < n0
  case pos =>
    rw [if_pos b0]
    go_wp2
    go_ret
    exact ⟨⟨_, rfl, .inl (by omega)⟩, D1.out⟩
  rw [if_neg b0]
  obtain ⟨t0, ht0⟩ : ∃ t0, l - n0 = t0 := ⟨_, rfl⟩
  rw [ht0]
  have g0 : 0 ≤ t0 ∧ t0 ≤ l := by omega
  have c0' : ¬ t0 < 0 := by omega
  obtain ⟨g0, g0'⟩ := g0
  obtain ⟨x0, x1, x2, x3, x4, x5, x6, x7, x8, x9, x10, x11, x12, x13, x14⟩ := X1.out.box15
  go_wp2_with fail
  refine (szM_any r1 q1 A1 n1 c1 t0 _ m1 (by omega) (by omega)).mono ?_
  rintro e w2 ⟨rfl, hb⟩
  have D2 := Lib.hid (D1.out.trans (hb.mono D1.out.size))
  have X2 := Lib.hid (X1.out.below hb (by omega))
  have s2 : w.heap.size < w2.heap.size := by have := hb.size; omega
  clear hb x0 x1 x2 x3 x4 x5 x6 x7 x8 x9 x10 x11 x12 x13 x14 X1
  by_cases b1 : t0 < n1
  case pos =>
    rw [if_pos b1]
    go_wp2
    go_ret
    exact ⟨⟨_, rfl, .inl (by omega)⟩, D2.out⟩
  rw [if_neg b1]
  obtain ⟨t1, ht1⟩ : ∃ t1, t0 - n1 = t1 := ⟨_, rfl⟩
  rw [ht1]
  have g1 : 0 ≤ t1 ∧ t1 ≤ t0 := by omega
  have c1' : ¬ t1 < 0 := by omega
  obtain ⟨g1, g1'⟩ := g1
  obtain ⟨x0, x1, x2, x3, x4, x5, x6, x7, x8, x9, x10, x11, x12, x13, x14⟩ := X2.out.box15
  go_wp2_with fail
  refine (szM_any r2 q2 A2 n2 c2 t1 _ m2 (by omega) (by omega)).mono ?_
  rintro e w3 ⟨rfl, hb⟩
  have D3 := Lib.hid (D2.out.trans (hb.mono D2.out.size))
  have X3 := Lib.hid (X2.out.below hb (by omega))
  have s3 : w.heap.size < w3.heap.size := by have := hb.size; omega
  clear hb x0 x1 x2 x3 x4 x5 x6 x7 x8 x9 x10 x11 x12 x13 x14 X2
  by_cases b2 : t1 < n2
  case pos =>
    rw [if_pos b2]
    go_wp2
    go_ret
    exact ⟨⟨_, rfl, .inl (by omega)⟩, D3.out⟩
  rw [if_neg b2]
  obtain ⟨t2, ht2⟩ : ∃ t2, t1 - n2 = t2 := ⟨_, rfl⟩
  rw [ht2]
  have g2 : 0 ≤ t2 ∧ t2 ≤ t1 := by omega
  have c2' : ¬ t2 < 0 := by omega
  obtain ⟨g2, g2'⟩ := g2
  obtain ⟨x0, x1, x2, x3, x4, x5, x6, x7, x8, x9, x10, x11, x12, x13, x14⟩ := X3.out.box15
  go_wp2_with fail
  refine (szM_any r3 q3 A3 n3 c3 t2 _ m3 (by omega) (by omega)).mono ?_
  rintro e w4 ⟨rfl, hb⟩
  have D4 := Lib.hid (D3.out.trans (hb.mono D3.out.size))
  have X4 := Lib.hid (X3.out.below hb (by omega))
  have s4 : w.heap.size < w4.heap.size := by have := hb.size; omega
  clear hb x0 x1 x2 x3 x4 x5 x6 x7 x8 x9 x10 x11 x12 x13 x14 X3
  by_cases b3 : t2 < n3
  case pos =>
    rw [if_pos b3]
    go_wp2
    go_ret
    exact ⟨⟨_, rfl, .inl (by omega)⟩, D4.out⟩
  rw [if_neg b3]
  obtain ⟨t3, ht3⟩ : ∃ t3, t2 - n3 = t3 := ⟨_, rfl⟩
  rw [ht3]
  have g3 : 0 ≤ t3 ∧ t3 ≤ t2 := by omega
  have c3' : ¬ t3 < 0 := by omega
  obtain ⟨g3, g3'⟩ := g3
  obtain ⟨x0, x1, x2, x3, x4, x5, x6, x7, x8, x9, x10, x11, x12, x13, x14⟩ := X4.out.box15
  go_wp2_with fail
  refine (szM_any r4 q4 A4 n4 c4 t3 _ m4 (by omega) (by omega)).mono ?_
  rintro e w5 ⟨rfl, hb⟩
  have D5 := Lib.hid (D4.out.trans (hb.mono D4.out.size))
  have X5 := Lib.hid (X4.out.below hb (by omega))
  have s5 : w.heap.size < w5.heap.size := by have := hb.size; omega
  clear hb x0 x1 x2 x3 x4 x5 x6 x7 x8 x9 x10 x11 x12 x13 x14 X4
  by_cases b4 : t3 < n4
  case pos =>
    rw [if_pos b4]
    go_wp2
    go_ret
    exact ⟨⟨_, rfl, .inl (by omega)⟩, D5.out⟩
  rw [if_neg b4]
  obtain ⟨t4, ht4⟩ : ∃ t4, t3 - n4 = t4 := ⟨_, rfl⟩
  rw [ht4]
  have g4 : 0 ≤ t4 ∧ t4 ≤ t3 := by omega
  have c4' : ¬ t4 < 0 := by omega
  obtain ⟨g4, g4'⟩ := g4
  go_wp2
  go_ret
  exact ⟨⟨_, rfl, .inr ⟨by omega, by omega, by omega, by omega, by omega, by omega⟩⟩, D5.out⟩

/-- A reduction whose five lists lie each in a block of its own, in new memory. -/
def MadeR (w : World) (r0 q0 r1 q1 r2 q2 r3 q3 r4 q4 : Int) (n0 n1 n2 n3 n4 : Nat) (z0 z1 z2 z3 z4 : List Int) (e : Ending) (w' : World) : Prop :=
  ∃ g0 g1 g2 g3 g4, e = .returned (.agg #[.int .i64 r0, .int .i64 q0, .slice (some ⟨g0, 0, none⟩) n0 n0, .int .i64 r1, .int .i64 q1, .slice (some ⟨g1, 0, none⟩) n1 n1, .int .i64 r2, .int .i64 q2, .slice (some ⟨g2, 0, none⟩) n2 n2, .int .i64 r3, .int .i64 q3, .slice (some ⟨g3, 0, none⟩) n3 n3, .int .i64 r4, .int .i64 q4, .slice (some ⟨g4, 0, none⟩) n4 n4]) ∧ Blk w' g0 z0 ∧ Blk w' g1 z1 ∧ Blk w' g2 z2 ∧ Blk w' g3 z3 ∧ Blk w' g4 z4 ∧ w.heap.size ≤ g0 ∧ w.heap.size ≤ g1 ∧ w.heap.size ≤ g2 ∧ w.heap.size ≤ g3 ∧ w.heap.size ≤ g4 ∧ Below w.heap.size w w'

set_option maxRecDepth 100000 in
set_option maxHeartbeats 8000000 in
theorem toR_all (r0 q0 r1 q1 r2 q2 r3 q3 r4 q4 : Int) (A0 A1 A2 A3 A4 : Option Addr) (n0 c0 n1 c1 n2 c2 n3 c3 n4 c4 : Nat) (z0 z1 z2 z3 z4 : List Int) (w : World) (h0 : Ints w w.heap.size A0 n0 z0) (m0 : n0 ≤ 1048576) (h1 : Ints w w.heap.size A1 n1 z1) (m1 : n1 ≤ 1048576) (h2 : Ints w w.heap.size A2 n2 z2) (m2 : n2 ≤ 1048576) (h3 : Ints w w.heap.size A3 n3 z3) (m3 : n3 ≤ 1048576) (h4 : Ints w w.heap.size A4 n4 z4) (m4 : n4 ≤ 1048576) :
    Calls Try.prog 17 #[.agg #[.int .i64 r0, .int .i64 q0, .slice A0 n0 c0, .int .i64 r1, .int .i64 q1, .slice A1 n1 c1, .int .i64 r2, .int .i64 q2, .slice A2 n2 c2, .int .i64 r3, .int .i64 q3, .slice A3 n3 c3, .int .i64 r4, .int .i64 q4, .slice A4 n4 c4]] w (MadeR w r0 q0 r1 q1 r2 q2 r3 q3 r4 q4 n0 n1 n2 n3 n4 z0 z1 z2 z3 z4) := by
  have D0 := Lib.hid (al3 w (Obj.cells #[.int .i64 r0, .int .i64 q0, .slice A0 n0 c0, .int .i64 r1, .int .i64 q1, .slice A1 n1 c1, .int .i64 r2, .int .i64 q2, .slice A2 n2 c2, .int .i64 r3, .int .i64 q3, .slice A3 n3 c3, .int .i64 r4, .int .i64 q4, .slice A4 n4 c4] 36) (Obj.cells #[.int .i64 0, .int .i64 0, .slice none 0 0, .int .i64 0, .int .i64 0, .slice none 0 0, .int .i64 0, .int .i64 0, .slice none 0 0, .int .i64 0, .int .i64 0, .slice none 0 0, .int .i64 0, .int .i64 0, .slice none 0 0] 43) (Obj.cells #[.int .i64 0, .int .i64 0, .slice none 0 0, .int .i64 0, .int .i64 0, .slice none 0 0, .int .i64 0, .int .i64 0, .slice none 0 0, .int .i64 0, .int .i64 0, .slice none 0 0, .int .i64 0, .int .i64 0, .slice none 0 0] 43))
  have X0 := Lib.hid (((Row.new w #[.int .i64 r0, .int .i64 q0, .slice A0 n0 c0, .int .i64 r1, .int .i64 q1, .slice A1 n1 c1, .int .i64 r2, .int .i64 q2, .slice A2 n2 c2, .int .i64 r3, .int .i64 q3, .slice A3 n3 c3, .int .i64 r4, .int .i64 q4, .slice A4 n4 c4] 36).below (al1 _ (Obj.cells #[.int .i64 0, .int .i64 0, .slice none 0 0, .int .i64 0, .int .i64 0, .slice none 0 0, .int .i64 0, .int .i64 0, .slice none 0 0, .int .i64 0, .int .i64 0, .slice none 0 0, .int .i64 0, .int .i64 0, .slice none 0 0] 43)) (by simp)).below (al1 _ (Obj.cells #[.int .i64 0, .int .i64 0, .slice none 0 0, .int .i64 0, .int .i64 0, .slice none 0 0, .int .i64 0, .int .i64 0, .slice none 0 0, .int .i64 0, .int .i64 0, .slice none 0 0, .int .i64 0, .int .i64 0, .slice none 0 0] 43)) (by simp; omega))
  have R0 := Lib.hid ((Row.new (w.alloc (Obj.cells #[.int .i64 r0, .int .i64 q0, .slice A0 n0 c0, .int .i64 r1, .int .i64 q1, .slice A1 n1 c1, .int .i64 r2, .int .i64 q2, .slice A2 n2 c2, .int .i64 r3, .int .i64 q3, .slice A3 n3 c3, .int .i64 r4, .int .i64 q4, .slice A4 n4 c4] 36)) #[.int .i64 0, .int .i64 0, .slice none 0 0, .int .i64 0, .int .i64 0, .slice none 0 0, .int .i64 0, .int .i64 0, .slice none 0 0, .int .i64 0, .int .i64 0, .slice none 0 0, .int .i64 0, .int .i64 0, .slice none 0 0] 43).below (al1 _ (Obj.cells #[.int .i64 0, .int .i64 0, .slice none 0 0, .int .i64 0, .int .i64 0, .slice none 0 0, .int .i64 0, .int .i64 0, .slice none 0 0, .int .i64 0, .int .i64 0, .slice none 0 0, .int .i64 0, .int .i64 0, .slice none 0 0] 43)) (by simp))
  have O0 := Lib.hid (Row.new ((w.alloc (Obj.cells #[.int .i64 r0, .int .i64 q0, .slice A0 n0 c0, .int .i64 r1, .int .i64 q1, .slice A1 n1 c1, .int .i64 r2, .int .i64 q2, .slice A2 n2 c2, .int .i64 r3, .int .i64 q3, .slice A3 n3 c3, .int .i64 r4, .int .i64 q4, .slice A4 n4 c4] 36)).alloc (Obj.cells #[.int .i64 0, .int .i64 0, .slice none 0 0, .int .i64 0, .int .i64 0, .slice none 0 0, .int .i64 0, .int .i64 0, .slice none 0 0, .int .i64 0, .int .i64 0, .slice none 0 0, .int .i64 0, .int .i64 0, .slice none 0 0] 43)) #[.int .i64 0, .int .i64 0, .slice none 0 0, .int .i64 0, .int .i64 0, .slice none 0 0, .int .i64 0, .int .i64 0, .slice none 0 0, .int .i64 0, .int .i64 0, .slice none 0 0, .int .i64 0, .int .i64 0, .slice none 0 0] 43)
  simp only [World.size_alloc] at R0 O0
  have I0 := Lib.hid h0
  have I1 := Lib.hid h1
  have I2 := Lib.hid h2
  have I3 := Lib.hid h3
  have I4 := Lib.hid h4
  clear h0 h1 h2 h3 h4
  go_enter Try.func17, Try.ntmps17
  go_wp2_with fail
  obtain ⟨v0, hv0⟩ : ∃ v0, v0 = (((w.alloc (Obj.cells #[.int .i64 r0, .int .i64 q0, .slice A0 n0 c0, .int .i64 r1, .int .i64 q1, .slice A1 n1 c1, .int .i64 r2, .int .i64 q2, .slice A2 n2 c2, .int .i64 r3, .int .i64 q3, .slice A3 n3 c3, .int .i64 r4, .int .i64 q4, .slice A4 n4 c4] 36)).alloc (Obj.cells #[.int .i64 0, .int .i64 0, .slice none 0 0, .int .i64 0, .int .i64 0, .slice none 0 0, .int .i64 0, .int .i64 0, .slice none 0 0, .int .i64 0, .int .i64 0, .slice none 0 0, .int .i64 0, .int .i64 0, .slice none 0 0] 43)).alloc (Obj.cells #[.int .i64 0, .int .i64 0, .slice none 0 0, .int .i64 0, .int .i64 0, .slice none 0 0, .int .i64 0, .int .i64 0, .slice none 0 0, .int .i64 0, .int .i64 0, .slice none 0 0, .int .i64 0, .int .i64 0, .slice none 0 0] 43)) := ⟨_, rfl⟩
  have s0 : w.heap.size + 1 + 1 < v0.heap.size := by rw [hv0]; simp
  rw [← hv0] at X0 R0 O0 D0
  rw [← hv0]
  clear hv0
  obtain ⟨x0, x1, x2, x3, x4, x5, x6, x7, x8, x9, x10, x11, x12, x13, x14⟩ := X0.out.box15
  obtain ⟨o0, o1, o2, o3, o4, o5, o6, o7, o8, o9, o10, o11, o12, o13, o14⟩ := O0.out.box15
  go_wp2_with fail
  clear x0 x1 x2 x3 x4 x5 x6 x7 x8 x9 x10 x11 x12 x13 x14 o0 o1 o2 o3 o4 o5 o6 o7 o8 o9 o10 o11 o12 o13 o14
  refine (toM_any r0 q0 A0 n0 c0 z0 _ (I0.out.into D0.out) m0).mono ?_
  rintro e w0 ⟨g0, rfl, hblk, hg, hb⟩
  have u0 : v0.heap.size ≤ w0.heap.size := hb.size
  have a0 : w.heap.size + 1 + 1 < g0 := by omega
  have O0' := Lib.hid (O0.out.below hb (by omega))
  have R0' := Lib.hid (R0.out.below hb (by omega))
  have X0' := Lib.hid (X0.out.below hb (by omega))
  have D0' := Lib.hid (D0.out.trans (hb.mono (by omega)))
  have B0' := Lib.hid hblk
  clear hb hblk hg X0 O0 R0 D0 
  have fO := O0'.out.free
  unfold Free at fO
  obtain ⟨o0, o1, o2, o3, o4, o5, o6, o7, o8, o9, o10, o11, o12, o13, o14⟩ := O0'.out.box15
  obtain ⟨x0, x1, x2, x3, x4, x5, x6, x7, x8, x9, x10, x11, x12, x13, x14⟩ := X0'.out.box15
  obtain ⟨V, hV⟩ : ∃ V, V = ((w0.setCell ⟨w.heap.size + 1 + 1, 0, none⟩ (.int .i64 r0)).setCell ⟨w.heap.size + 1 + 1, 1, none⟩ (.int .i64 q0)).setCell ⟨w.heap.size + 1 + 1, 2, none⟩ (.slice (some ⟨g0, 0, none⟩) n0 n0) := ⟨_, rfl⟩
  have O1 := Lib.hid (show Row V (w.heap.size + 1 + 1) #[.int .i64 r0, .int .i64 q0, .slice (some ⟨g0, 0, none⟩) n0 n0, .int .i64 0, .int .i64 0, .slice none 0 0, .int .i64 0, .int .i64 0, .slice none 0 0, .int .i64 0, .int .i64 0, .slice none 0 0, .int .i64 0, .int .i64 0, .slice none 0 0] 43 by rw [hV]; exact ((O0'.out.set_ (i := 0) (.int .i64 r0)).set_ (i := 1) (.int .i64 q0)).set_ (i := 2) (.slice (some ⟨g0, 0, none⟩) n0 n0))
  have R1 := Lib.hid (show Row V (w.heap.size + 1) #[.int .i64 0, .int .i64 0, .slice none 0 0, .int .i64 0, .int .i64 0, .slice none 0 0, .int .i64 0, .int .i64 0, .slice none 0 0, .int .i64 0, .int .i64 0, .slice none 0 0, .int .i64 0, .int .i64 0, .slice none 0 0] 43 by rw [hV]; exact ((R0'.out.far (by dsimp only; omega) _).far (by dsimp only; omega) _).far (by dsimp only; omega) _)
  have X1 := Lib.hid (show Row V w.heap.size #[.int .i64 r0, .int .i64 q0, .slice A0 n0 c0, .int .i64 r1, .int .i64 q1, .slice A1 n1 c1, .int .i64 r2, .int .i64 q2, .slice A2 n2 c2, .int .i64 r3, .int .i64 q3, .slice A3 n3 c3, .int .i64 r4, .int .i64 q4, .slice A4 n4 c4] 36 by rw [hV]; exact ((X0'.out.far (by dsimp only; omega) _).far (by dsimp only; omega) _).far (by dsimp only; omega) _)
  have D1 := Lib.hid (show Below w.heap.size w V by rw [hV]; exact ((D0'.out.setCell (by dsimp only; omega) _).setCell (by dsimp only; omega) _).setCell (by dsimp only; omega) _)
  have B0_1 := Lib.hid (show Blk V g0 z0 by rw [hV]; exact ((B0'.out.far (by dsimp only; omega) _).far (by dsimp only; omega) _).far (by dsimp only; omega) _)
  have e0 : V.heap.size = w0.heap.size := by rw [hV]; simp [World.setCell]
  clear O0' R0' X0' D0' B0' 
  go_wp2_with fail
  rw [← hV]
  clear hV fO o0 o1 o2 o3 o4 o5 o6 o7 o8 o9 o10 o11 o12 o13 o14 x0 x1 x2 x3 x4 x5 x6 x7 x8 x9 x10 x11 x12 x13 x14
  obtain ⟨v1, hv⟩ : ∃ v, v = V := ⟨_, rfl⟩
  subst hv
  have s1 : w.heap.size + 1 + 1 < v1.heap.size := by omega
  refine (toM_any r1 q1 A1 n1 c1 z1 _ (I1.out.into D1.out) m1).mono ?_
  rintro e w1 ⟨g1, rfl, hblk, hg, hb⟩
  have u1 : v1.heap.size ≤ w1.heap.size := hb.size
  have a1 : w.heap.size + 1 + 1 < g1 := by omega
  have O1' := Lib.hid (O1.out.below hb (by omega))
  have R1' := Lib.hid (R1.out.below hb (by omega))
  have X1' := Lib.hid (X1.out.below hb (by omega))
  have D1' := Lib.hid (D1.out.trans (hb.mono (by omega)))
  have B1' := Lib.hid hblk
  have B0_1' := Lib.hid (B0_1.out.below hb B0_1.out.lt)
  clear hb hblk hg X1 O1 R1 D1 B0_1
  have fO := O1'.out.free
  unfold Free at fO
  obtain ⟨o0, o1, o2, o3, o4, o5, o6, o7, o8, o9, o10, o11, o12, o13, o14⟩ := O1'.out.box15
  obtain ⟨x0, x1, x2, x3, x4, x5, x6, x7, x8, x9, x10, x11, x12, x13, x14⟩ := X1'.out.box15
  obtain ⟨V, hV⟩ : ∃ V, V = ((w1.setCell ⟨w.heap.size + 1 + 1, 3, none⟩ (.int .i64 r1)).setCell ⟨w.heap.size + 1 + 1, 4, none⟩ (.int .i64 q1)).setCell ⟨w.heap.size + 1 + 1, 5, none⟩ (.slice (some ⟨g1, 0, none⟩) n1 n1) := ⟨_, rfl⟩
  have O2 := Lib.hid (show Row V (w.heap.size + 1 + 1) #[.int .i64 r0, .int .i64 q0, .slice (some ⟨g0, 0, none⟩) n0 n0, .int .i64 r1, .int .i64 q1, .slice (some ⟨g1, 0, none⟩) n1 n1, .int .i64 0, .int .i64 0, .slice none 0 0, .int .i64 0, .int .i64 0, .slice none 0 0, .int .i64 0, .int .i64 0, .slice none 0 0] 43 by rw [hV]; exact ((O1'.out.set_ (i := 3) (.int .i64 r1)).set_ (i := 4) (.int .i64 q1)).set_ (i := 5) (.slice (some ⟨g1, 0, none⟩) n1 n1))
  have R2 := Lib.hid (show Row V (w.heap.size + 1) #[.int .i64 0, .int .i64 0, .slice none 0 0, .int .i64 0, .int .i64 0, .slice none 0 0, .int .i64 0, .int .i64 0, .slice none 0 0, .int .i64 0, .int .i64 0, .slice none 0 0, .int .i64 0, .int .i64 0, .slice none 0 0] 43 by rw [hV]; exact ((R1'.out.far (by dsimp only; omega) _).far (by dsimp only; omega) _).far (by dsimp only; omega) _)
  have X2 := Lib.hid (show Row V w.heap.size #[.int .i64 r0, .int .i64 q0, .slice A0 n0 c0, .int .i64 r1, .int .i64 q1, .slice A1 n1 c1, .int .i64 r2, .int .i64 q2, .slice A2 n2 c2, .int .i64 r3, .int .i64 q3, .slice A3 n3 c3, .int .i64 r4, .int .i64 q4, .slice A4 n4 c4] 36 by rw [hV]; exact ((X1'.out.far (by dsimp only; omega) _).far (by dsimp only; omega) _).far (by dsimp only; omega) _)
  have D2 := Lib.hid (show Below w.heap.size w V by rw [hV]; exact ((D1'.out.setCell (by dsimp only; omega) _).setCell (by dsimp only; omega) _).setCell (by dsimp only; omega) _)
  have B1_2 := Lib.hid (show Blk V g1 z1 by rw [hV]; exact ((B1'.out.far (by dsimp only; omega) _).far (by dsimp only; omega) _).far (by dsimp only; omega) _)
  have B0_2 := Lib.hid (show Blk V g0 z0 by rw [hV]; exact ((B0_1'.out.far (by dsimp only; omega) _).far (by dsimp only; omega) _).far (by dsimp only; omega) _)
  have e1 : V.heap.size = w1.heap.size := by rw [hV]; simp [World.setCell]
  clear O1' R1' X1' D1' B1' B0_1'
  go_wp2_with fail
  rw [← hV]
  clear hV fO o0 o1 o2 o3 o4 o5 o6 o7 o8 o9 o10 o11 o12 o13 o14 x0 x1 x2 x3 x4 x5 x6 x7 x8 x9 x10 x11 x12 x13 x14
  obtain ⟨v2, hv⟩ : ∃ v, v = V := ⟨_, rfl⟩
  subst hv
  have s2 : w.heap.size + 1 + 1 < v2.heap.size := by omega
  refine (toM_any r2 q2 A2 n2 c2 z2 _ (I2.out.into D2.out) m2).mono ?_
  rintro e w2 ⟨g2, rfl, hblk, hg, hb⟩
  have u2 : v2.heap.size ≤ w2.heap.size := hb.size
  have a2 : w.heap.size + 1 + 1 < g2 := by omega
  have O2' := Lib.hid (O2.out.below hb (by omega))
  have R2' := Lib.hid (R2.out.below hb (by omega))
  have X2' := Lib.hid (X2.out.below hb (by omega))
  have D2' := Lib.hid (D2.out.trans (hb.mono (by omega)))
  have B2' := Lib.hid hblk
  have B0_2' := Lib.hid (B0_2.out.below hb B0_2.out.lt)
  have B1_2' := Lib.hid (B1_2.out.below hb B1_2.out.lt)
  clear hb hblk hg X2 O2 R2 D2 B0_2 B1_2
  have fO := O2'.out.free
  unfold Free at fO
  obtain ⟨o0, o1, o2, o3, o4, o5, o6, o7, o8, o9, o10, o11, o12, o13, o14⟩ := O2'.out.box15
  obtain ⟨x0, x1, x2, x3, x4, x5, x6, x7, x8, x9, x10, x11, x12, x13, x14⟩ := X2'.out.box15
  obtain ⟨V, hV⟩ : ∃ V, V = ((w2.setCell ⟨w.heap.size + 1 + 1, 6, none⟩ (.int .i64 r2)).setCell ⟨w.heap.size + 1 + 1, 7, none⟩ (.int .i64 q2)).setCell ⟨w.heap.size + 1 + 1, 8, none⟩ (.slice (some ⟨g2, 0, none⟩) n2 n2) := ⟨_, rfl⟩
  have O3 := Lib.hid (show Row V (w.heap.size + 1 + 1) #[.int .i64 r0, .int .i64 q0, .slice (some ⟨g0, 0, none⟩) n0 n0, .int .i64 r1, .int .i64 q1, .slice (some ⟨g1, 0, none⟩) n1 n1, .int .i64 r2, .int .i64 q2, .slice (some ⟨g2, 0, none⟩) n2 n2, .int .i64 0, .int .i64 0, .slice none 0 0, .int .i64 0, .int .i64 0, .slice none 0 0] 43 by rw [hV]; exact ((O2'.out.set_ (i := 6) (.int .i64 r2)).set_ (i := 7) (.int .i64 q2)).set_ (i := 8) (.slice (some ⟨g2, 0, none⟩) n2 n2))
  have R3 := Lib.hid (show Row V (w.heap.size + 1) #[.int .i64 0, .int .i64 0, .slice none 0 0, .int .i64 0, .int .i64 0, .slice none 0 0, .int .i64 0, .int .i64 0, .slice none 0 0, .int .i64 0, .int .i64 0, .slice none 0 0, .int .i64 0, .int .i64 0, .slice none 0 0] 43 by rw [hV]; exact ((R2'.out.far (by dsimp only; omega) _).far (by dsimp only; omega) _).far (by dsimp only; omega) _)
  have X3 := Lib.hid (show Row V w.heap.size #[.int .i64 r0, .int .i64 q0, .slice A0 n0 c0, .int .i64 r1, .int .i64 q1, .slice A1 n1 c1, .int .i64 r2, .int .i64 q2, .slice A2 n2 c2, .int .i64 r3, .int .i64 q3, .slice A3 n3 c3, .int .i64 r4, .int .i64 q4, .slice A4 n4 c4] 36 by rw [hV]; exact ((X2'.out.far (by dsimp only; omega) _).far (by dsimp only; omega) _).far (by dsimp only; omega) _)
  have D3 := Lib.hid (show Below w.heap.size w V by rw [hV]; exact ((D2'.out.setCell (by dsimp only; omega) _).setCell (by dsimp only; omega) _).setCell (by dsimp only; omega) _)
  have B2_3 := Lib.hid (show Blk V g2 z2 by rw [hV]; exact ((B2'.out.far (by dsimp only; omega) _).far (by dsimp only; omega) _).far (by dsimp only; omega) _)
  have B0_3 := Lib.hid (show Blk V g0 z0 by rw [hV]; exact ((B0_2'.out.far (by dsimp only; omega) _).far (by dsimp only; omega) _).far (by dsimp only; omega) _)
  have B1_3 := Lib.hid (show Blk V g1 z1 by rw [hV]; exact ((B1_2'.out.far (by dsimp only; omega) _).far (by dsimp only; omega) _).far (by dsimp only; omega) _)
  have e2 : V.heap.size = w2.heap.size := by rw [hV]; simp [World.setCell]
  clear O2' R2' X2' D2' B2' B0_2' B1_2'
  go_wp2_with fail
  rw [← hV]
  clear hV fO o0 o1 o2 o3 o4 o5 o6 o7 o8 o9 o10 o11 o12 o13 o14 x0 x1 x2 x3 x4 x5 x6 x7 x8 x9 x10 x11 x12 x13 x14
  obtain ⟨v3, hv⟩ : ∃ v, v = V := ⟨_, rfl⟩
  subst hv
  have s3 : w.heap.size + 1 + 1 < v3.heap.size := by omega
  refine (toM_any r3 q3 A3 n3 c3 z3 _ (I3.out.into D3.out) m3).mono ?_
  rintro e w3 ⟨g3, rfl, hblk, hg, hb⟩
  have u3 : v3.heap.size ≤ w3.heap.size := hb.size
  have a3 : w.heap.size + 1 + 1 < g3 := by omega
  have O3' := Lib.hid (O3.out.below hb (by omega))
  have R3' := Lib.hid (R3.out.below hb (by omega))
  have X3' := Lib.hid (X3.out.below hb (by omega))
  have D3' := Lib.hid (D3.out.trans (hb.mono (by omega)))
  have B3' := Lib.hid hblk
  have B0_3' := Lib.hid (B0_3.out.below hb B0_3.out.lt)
  have B1_3' := Lib.hid (B1_3.out.below hb B1_3.out.lt)
  have B2_3' := Lib.hid (B2_3.out.below hb B2_3.out.lt)
  clear hb hblk hg X3 O3 R3 D3 B0_3 B1_3 B2_3
  have fO := O3'.out.free
  unfold Free at fO
  obtain ⟨o0, o1, o2, o3, o4, o5, o6, o7, o8, o9, o10, o11, o12, o13, o14⟩ := O3'.out.box15
  obtain ⟨x0, x1, x2, x3, x4, x5, x6, x7, x8, x9, x10, x11, x12, x13, x14⟩ := X3'.out.box15
  obtain ⟨V, hV⟩ : ∃ V, V = ((w3.setCell ⟨w.heap.size + 1 + 1, 9, none⟩ (.int .i64 r3)).setCell ⟨w.heap.size + 1 + 1, 10, none⟩ (.int .i64 q3)).setCell ⟨w.heap.size + 1 + 1, 11, none⟩ (.slice (some ⟨g3, 0, none⟩) n3 n3) := ⟨_, rfl⟩
  have O4 := Lib.hid (show Row V (w.heap.size + 1 + 1) #[.int .i64 r0, .int .i64 q0, .slice (some ⟨g0, 0, none⟩) n0 n0, .int .i64 r1, .int .i64 q1, .slice (some ⟨g1, 0, none⟩) n1 n1, .int .i64 r2, .int .i64 q2, .slice (some ⟨g2, 0, none⟩) n2 n2, .int .i64 r3, .int .i64 q3, .slice (some ⟨g3, 0, none⟩) n3 n3, .int .i64 0, .int .i64 0, .slice none 0 0] 43 by rw [hV]; exact ((O3'.out.set_ (i := 9) (.int .i64 r3)).set_ (i := 10) (.int .i64 q3)).set_ (i := 11) (.slice (some ⟨g3, 0, none⟩) n3 n3))
  have R4 := Lib.hid (show Row V (w.heap.size + 1) #[.int .i64 0, .int .i64 0, .slice none 0 0, .int .i64 0, .int .i64 0, .slice none 0 0, .int .i64 0, .int .i64 0, .slice none 0 0, .int .i64 0, .int .i64 0, .slice none 0 0, .int .i64 0, .int .i64 0, .slice none 0 0] 43 by rw [hV]; exact ((R3'.out.far (by dsimp only; omega) _).far (by dsimp only; omega) _).far (by dsimp only; omega) _)
  have X4 := Lib.hid (show Row V w.heap.size #[.int .i64 r0, .int .i64 q0, .slice A0 n0 c0, .int .i64 r1, .int .i64 q1, .slice A1 n1 c1, .int .i64 r2, .int .i64 q2, .slice A2 n2 c2, .int .i64 r3, .int .i64 q3, .slice A3 n3 c3, .int .i64 r4, .int .i64 q4, .slice A4 n4 c4] 36 by rw [hV]; exact ((X3'.out.far (by dsimp only; omega) _).far (by dsimp only; omega) _).far (by dsimp only; omega) _)
  have D4 := Lib.hid (show Below w.heap.size w V by rw [hV]; exact ((D3'.out.setCell (by dsimp only; omega) _).setCell (by dsimp only; omega) _).setCell (by dsimp only; omega) _)
  have B3_4 := Lib.hid (show Blk V g3 z3 by rw [hV]; exact ((B3'.out.far (by dsimp only; omega) _).far (by dsimp only; omega) _).far (by dsimp only; omega) _)
  have B0_4 := Lib.hid (show Blk V g0 z0 by rw [hV]; exact ((B0_3'.out.far (by dsimp only; omega) _).far (by dsimp only; omega) _).far (by dsimp only; omega) _)
  have B1_4 := Lib.hid (show Blk V g1 z1 by rw [hV]; exact ((B1_3'.out.far (by dsimp only; omega) _).far (by dsimp only; omega) _).far (by dsimp only; omega) _)
  have B2_4 := Lib.hid (show Blk V g2 z2 by rw [hV]; exact ((B2_3'.out.far (by dsimp only; omega) _).far (by dsimp only; omega) _).far (by dsimp only; omega) _)
  have e3 : V.heap.size = w3.heap.size := by rw [hV]; simp [World.setCell]
  clear O3' R3' X3' D3' B3' B0_3' B1_3' B2_3'
  go_wp2_with fail
  rw [← hV]
  clear hV fO o0 o1 o2 o3 o4 o5 o6 o7 o8 o9 o10 o11 o12 o13 o14 x0 x1 x2 x3 x4 x5 x6 x7 x8 x9 x10 x11 x12 x13 x14
  obtain ⟨v4, hv⟩ : ∃ v, v = V := ⟨_, rfl⟩
  subst hv
  have s4 : w.heap.size + 1 + 1 < v4.heap.size := by omega
  refine (toM_any r4 q4 A4 n4 c4 z4 _ (I4.out.into D4.out) m4).mono ?_
  rintro e w4 ⟨g4, rfl, hblk, hg, hb⟩
  have u4 : v4.heap.size ≤ w4.heap.size := hb.size
  have a4 : w.heap.size + 1 + 1 < g4 := by omega
  have O4' := Lib.hid (O4.out.below hb (by omega))
  have R4' := Lib.hid (R4.out.below hb (by omega))
  have X4' := Lib.hid (X4.out.below hb (by omega))
  have D4' := Lib.hid (D4.out.trans (hb.mono (by omega)))
  have B4' := Lib.hid hblk
  have B0_4' := Lib.hid (B0_4.out.below hb B0_4.out.lt)
  have B1_4' := Lib.hid (B1_4.out.below hb B1_4.out.lt)
  have B2_4' := Lib.hid (B2_4.out.below hb B2_4.out.lt)
  have B3_4' := Lib.hid (B3_4.out.below hb B3_4.out.lt)
  clear hb hblk hg X4 O4 R4 D4 B0_4 B1_4 B2_4 B3_4
  have fO := O4'.out.free
  unfold Free at fO
  obtain ⟨o0, o1, o2, o3, o4, o5, o6, o7, o8, o9, o10, o11, o12, o13, o14⟩ := O4'.out.box15
  obtain ⟨x0, x1, x2, x3, x4, x5, x6, x7, x8, x9, x10, x11, x12, x13, x14⟩ := X4'.out.box15
  obtain ⟨V, hV⟩ : ∃ V, V = ((w4.setCell ⟨w.heap.size + 1 + 1, 12, none⟩ (.int .i64 r4)).setCell ⟨w.heap.size + 1 + 1, 13, none⟩ (.int .i64 q4)).setCell ⟨w.heap.size + 1 + 1, 14, none⟩ (.slice (some ⟨g4, 0, none⟩) n4 n4) := ⟨_, rfl⟩
  have O5 := Lib.hid (show Row V (w.heap.size + 1 + 1) #[.int .i64 r0, .int .i64 q0, .slice (some ⟨g0, 0, none⟩) n0 n0, .int .i64 r1, .int .i64 q1, .slice (some ⟨g1, 0, none⟩) n1 n1, .int .i64 r2, .int .i64 q2, .slice (some ⟨g2, 0, none⟩) n2 n2, .int .i64 r3, .int .i64 q3, .slice (some ⟨g3, 0, none⟩) n3 n3, .int .i64 r4, .int .i64 q4, .slice (some ⟨g4, 0, none⟩) n4 n4] 43 by rw [hV]; exact ((O4'.out.set_ (i := 12) (.int .i64 r4)).set_ (i := 13) (.int .i64 q4)).set_ (i := 14) (.slice (some ⟨g4, 0, none⟩) n4 n4))
  have R5 := Lib.hid (show Row V (w.heap.size + 1) #[.int .i64 0, .int .i64 0, .slice none 0 0, .int .i64 0, .int .i64 0, .slice none 0 0, .int .i64 0, .int .i64 0, .slice none 0 0, .int .i64 0, .int .i64 0, .slice none 0 0, .int .i64 0, .int .i64 0, .slice none 0 0] 43 by rw [hV]; exact ((R4'.out.far (by dsimp only; omega) _).far (by dsimp only; omega) _).far (by dsimp only; omega) _)
  have X5 := Lib.hid (show Row V w.heap.size #[.int .i64 r0, .int .i64 q0, .slice A0 n0 c0, .int .i64 r1, .int .i64 q1, .slice A1 n1 c1, .int .i64 r2, .int .i64 q2, .slice A2 n2 c2, .int .i64 r3, .int .i64 q3, .slice A3 n3 c3, .int .i64 r4, .int .i64 q4, .slice A4 n4 c4] 36 by rw [hV]; exact ((X4'.out.far (by dsimp only; omega) _).far (by dsimp only; omega) _).far (by dsimp only; omega) _)
  have D5 := Lib.hid (show Below w.heap.size w V by rw [hV]; exact ((D4'.out.setCell (by dsimp only; omega) _).setCell (by dsimp only; omega) _).setCell (by dsimp only; omega) _)
  have B4_5 := Lib.hid (show Blk V g4 z4 by rw [hV]; exact ((B4'.out.far (by dsimp only; omega) _).far (by dsimp only; omega) _).far (by dsimp only; omega) _)
  have B0_5 := Lib.hid (show Blk V g0 z0 by rw [hV]; exact ((B0_4'.out.far (by dsimp only; omega) _).far (by dsimp only; omega) _).far (by dsimp only; omega) _)
  have B1_5 := Lib.hid (show Blk V g1 z1 by rw [hV]; exact ((B1_4'.out.far (by dsimp only; omega) _).far (by dsimp only; omega) _).far (by dsimp only; omega) _)
  have B2_5 := Lib.hid (show Blk V g2 z2 by rw [hV]; exact ((B2_4'.out.far (by dsimp only; omega) _).far (by dsimp only; omega) _).far (by dsimp only; omega) _)
  have B3_5 := Lib.hid (show Blk V g3 z3 by rw [hV]; exact ((B3_4'.out.far (by dsimp only; omega) _).far (by dsimp only; omega) _).far (by dsimp only; omega) _)
  have e4 : V.heap.size = w4.heap.size := by rw [hV]; simp [World.setCell]
  clear O4' R4' X4' D4' B4' B0_4' B1_4' B2_4' B3_4'
  have fR := R5.out.free
  unfold Free at fR
  have fR' : ∀ o, w4.frozen? ⟨w.heap.size + 1, o, none⟩ = false := fun o => by have := fR o; rw [hV] at this; simpa [go_sem] using this
  obtain ⟨p0, p1, p2, p3, p4, p5, p6, p7, p8, p9, p10, p11, p12, p13, p14⟩ := R5.out.box15
  rw [hV] at p0 p1 p2 p3 p4 p5 p6 p7 p8 p9 p10 p11 p12 p13 p14
  simp [go_sem] at p0 p1 p2 p3 p4 p5 p6 p7 p8 p9 p10 p11 p12 p13 p14
  clear fR x0 x1 x2 x3 x4 x5 x6 x7 x8 x9 x10 x11 x12 x13 x14
  go_wp2
  rw [← hV]
  obtain ⟨y0, y1, y2, y3, y4, y5, y6, y7, y8, y9, y10, y11, y12, y13, y14⟩ := R5.out.box15
  refine bodyPost_ret (v := .agg #[.int .i64 r0, .int .i64 q0, .slice (some ⟨g0, 0, none⟩) n0 n0, .int .i64 r1, .int .i64 q1, .slice (some ⟨g1, 0, none⟩) n1 n1, .int .i64 r2, .int .i64 q2, .slice (some ⟨g2, 0, none⟩) n2 n2, .int .i64 r3, .int .i64 q3, .slice (some ⟨g3, 0, none⟩) n3 n3, .int .i64 r4, .int .i64 q4, .slice (some ⟨g4, 0, none⟩) n4 n4]) (by simp [results, Try.results17, y0, y1, y2, y3, y4, y5, y6, y7, y8, y9, y10, y11, y12, y13, y14, go_sem]) rfl ⟨g0, g1, g2, g3, g4, rfl, (((((((((((((((B0_5.out.far (p := ⟨w.heap.size + 1, 0, none⟩) (by dsimp only; omega) _).far (p := ⟨w.heap.size + 1, 1, none⟩) (by dsimp only; omega) _).far (p := ⟨w.heap.size + 1, 2, none⟩) (by dsimp only; omega) _).far (p := ⟨w.heap.size + 1, 3, none⟩) (by dsimp only; omega) _).far (p := ⟨w.heap.size + 1, 4, none⟩) (by dsimp only; omega) _).far (p := ⟨w.heap.size + 1, 5, none⟩) (by dsimp only; omega) _).far (p := ⟨w.heap.size + 1, 6, none⟩) (by dsimp only; omega) _).far (p := ⟨w.heap.size + 1, 7, none⟩) (by dsimp only; omega) _).far (p := ⟨w.heap.size + 1, 8, none⟩) (by dsimp only; omega) _).far (p := ⟨w.heap.size + 1, 9, none⟩) (by dsimp only; omega) _).far (p := ⟨w.heap.size + 1, 10, none⟩) (by dsimp only; omega) _).far (p := ⟨w.heap.size + 1, 11, none⟩) (by dsimp only; omega) _).far (p := ⟨w.heap.size + 1, 12, none⟩) (by dsimp only; omega) _).far (p := ⟨w.heap.size + 1, 13, none⟩) (by dsimp only; omega) _).far (p := ⟨w.heap.size + 1, 14, none⟩) (by dsimp only; omega) _), (((((((((((((((B1_5.out.far (p := ⟨w.heap.size + 1, 0, none⟩) (by dsimp only; omega) _).far (p := ⟨w.heap.size + 1, 1, none⟩) (by dsimp only; omega) _).far (p := ⟨w.heap.size + 1, 2, none⟩) (by dsimp only; omega) _).far (p := ⟨w.heap.size + 1, 3, none⟩) (by dsimp only; omega) _).far (p := ⟨w.heap.size + 1, 4, none⟩) (by dsimp only; omega) _).far (p := ⟨w.heap.size + 1, 5, none⟩) (by dsimp only; omega) _).far (p := ⟨w.heap.size + 1, 6, none⟩) (by dsimp only; omega) _).far (p := ⟨w.heap.size + 1, 7, none⟩) (by dsimp only; omega) _).far (p := ⟨w.heap.size + 1, 8, none⟩) (by dsimp only; omega) _).far (p := ⟨w.heap.size + 1, 9, none⟩) (by dsimp only; omega) _).far (p := ⟨w.heap.size + 1, 10, none⟩) (by dsimp only; omega) _).far (p := ⟨w.heap.size + 1, 11, none⟩) (by dsimp only; omega) _).far (p := ⟨w.heap.size + 1, 12, none⟩) (by dsimp only; omega) _).far (p := ⟨w.heap.size + 1, 13, none⟩) (by dsimp only; omega) _).far (p := ⟨w.heap.size + 1, 14, none⟩) (by dsimp only; omega) _), (((((((((((((((B2_5.out.far (p := ⟨w.heap.size + 1, 0, none⟩) (by dsimp only; omega) _).far (p := ⟨w.heap.size + 1, 1, none⟩) (by dsimp only; omega) _).far (p := ⟨w.heap.size + 1, 2, none⟩) (by dsimp only; omega) _).far (p := ⟨w.heap.size + 1, 3, none⟩) (by dsimp only; omega) _).far (p := ⟨w.heap.size + 1, 4, none⟩) (by dsimp only; omega) _).far (p := ⟨w.heap.size + 1, 5, none⟩) (by dsimp only; omega) _).far (p := ⟨w.heap.size + 1, 6, none⟩) (by dsimp only; omega) _).far (p := ⟨w.heap.size + 1, 7, none⟩) (by dsimp only; omega) _).far (p := ⟨w.heap.size + 1, 8, none⟩) (by dsimp only; omega) _).far (p := ⟨w.heap.size + 1, 9, none⟩) (by dsimp only; omega) _).far (p := ⟨w.heap.size + 1, 10, none⟩) (by dsimp only; omega) _).far (p := ⟨w.heap.size + 1, 11, none⟩) (by dsimp only; omega) _).far (p := ⟨w.heap.size + 1, 12, none⟩) (by dsimp only; omega) _).far (p := ⟨w.heap.size + 1, 13, none⟩) (by dsimp only; omega) _).far (p := ⟨w.heap.size + 1, 14, none⟩) (by dsimp only; omega) _), (((((((((((((((B3_5.out.far (p := ⟨w.heap.size + 1, 0, none⟩) (by dsimp only; omega) _).far (p := ⟨w.heap.size + 1, 1, none⟩) (by dsimp only; omega) _).far (p := ⟨w.heap.size + 1, 2, none⟩) (by dsimp only; omega) _).far (p := ⟨w.heap.size + 1, 3, none⟩) (by dsimp only; omega) _).far (p := ⟨w.heap.size + 1, 4, none⟩) (by dsimp only; omega) _).far (p := ⟨w.heap.size + 1, 5, none⟩) (by dsimp only; omega) _).far (p := ⟨w.heap.size + 1, 6, none⟩) (by dsimp only; omega) _).far (p := ⟨w.heap.size + 1, 7, none⟩) (by dsimp only; omega) _).far (p := ⟨w.heap.size + 1, 8, none⟩) (by dsimp only; omega) _).far (p := ⟨w.heap.size + 1, 9, none⟩) (by dsimp only; omega) _).far (p := ⟨w.heap.size + 1, 10, none⟩) (by dsimp only; omega) _).far (p := ⟨w.heap.size + 1, 11, none⟩) (by dsimp only; omega) _).far (p := ⟨w.heap.size + 1, 12, none⟩) (by dsimp only; omega) _).far (p := ⟨w.heap.size + 1, 13, none⟩) (by dsimp only; omega) _).far (p := ⟨w.heap.size + 1, 14, none⟩) (by dsimp only; omega) _), (((((((((((((((B4_5.out.far (p := ⟨w.heap.size + 1, 0, none⟩) (by dsimp only; omega) _).far (p := ⟨w.heap.size + 1, 1, none⟩) (by dsimp only; omega) _).far (p := ⟨w.heap.size + 1, 2, none⟩) (by dsimp only; omega) _).far (p := ⟨w.heap.size + 1, 3, none⟩) (by dsimp only; omega) _).far (p := ⟨w.heap.size + 1, 4, none⟩) (by dsimp only; omega) _).far (p := ⟨w.heap.size + 1, 5, none⟩) (by dsimp only; omega) _).far (p := ⟨w.heap.size + 1, 6, none⟩) (by dsimp only; omega) _).far (p := ⟨w.heap.size + 1, 7, none⟩) (by dsimp only; omega) _).far (p := ⟨w.heap.size + 1, 8, none⟩) (by dsimp only; omega) _).far (p := ⟨w.heap.size + 1, 9, none⟩) (by dsimp only; omega) _).far (p := ⟨w.heap.size + 1, 10, none⟩) (by dsimp only; omega) _).far (p := ⟨w.heap.size + 1, 11, none⟩) (by dsimp only; omega) _).far (p := ⟨w.heap.size + 1, 12, none⟩) (by dsimp only; omega) _).far (p := ⟨w.heap.size + 1, 13, none⟩) (by dsimp only; omega) _).far (p := ⟨w.heap.size + 1, 14, none⟩) (by dsimp only; omega) _), by omega, by omega, by omega, by omega, by omega, (((((((((((((((D5.out.setCell (p := ⟨w.heap.size + 1, 0, none⟩) (by dsimp only; omega) _).setCell (p := ⟨w.heap.size + 1, 1, none⟩) (by dsimp only; omega) _).setCell (p := ⟨w.heap.size + 1, 2, none⟩) (by dsimp only; omega) _).setCell (p := ⟨w.heap.size + 1, 3, none⟩) (by dsimp only; omega) _).setCell (p := ⟨w.heap.size + 1, 4, none⟩) (by dsimp only; omega) _).setCell (p := ⟨w.heap.size + 1, 5, none⟩) (by dsimp only; omega) _).setCell (p := ⟨w.heap.size + 1, 6, none⟩) (by dsimp only; omega) _).setCell (p := ⟨w.heap.size + 1, 7, none⟩) (by dsimp only; omega) _).setCell (p := ⟨w.heap.size + 1, 8, none⟩) (by dsimp only; omega) _).setCell (p := ⟨w.heap.size + 1, 9, none⟩) (by dsimp only; omega) _).setCell (p := ⟨w.heap.size + 1, 10, none⟩) (by dsimp only; omega) _).setCell (p := ⟨w.heap.size + 1, 11, none⟩) (by dsimp only; omega) _).setCell (p := ⟨w.heap.size + 1, 12, none⟩) (by dsimp only; omega) _).setCell (p := ⟨w.heap.size + 1, 13, none⟩) (by dsimp only; omega) _).setCell (p := ⟨w.heap.size + 1, 14, none⟩) (by dsimp only; omega) _)⟩

set_option maxRecDepth 100000 in
set_option maxHeartbeats 4000000 in
theorem eqR_all (r0 q0 r1 q1 r2 q2 r3 q3 r4 q4 : Int) (A0 A1 A2 A3 A4 : Option Addr) (n0 c0 n1 c1 n2 c2 n3 c3 n4 c4 : Nat) (A0' A1' A2' A3' A4' : Option Addr) (c0' c1' c2' c3' c4' : Nat) (z0 z1 z2 z3 z4 : List Int) (B B' : Nat) (w : World) (hB : B ≤ w.heap.size) (hB' : B' ≤ w.heap.size) (h0 : Ints w B A0 n0 z0) (h0' : Ints w B' A0' n0 z0) (m0 : n0 ≤ 1048576) (h1 : Ints w B A1 n1 z1) (h1' : Ints w B' A1' n1 z1) (m1 : n1 ≤ 1048576) (h2 : Ints w B A2 n2 z2) (h2' : Ints w B' A2' n2 z2) (m2 : n2 ≤ 1048576) (h3 : Ints w B A3 n3 z3) (h3' : Ints w B' A3' n3 z3) (m3 : n3 ≤ 1048576) (h4 : Ints w B A4 n4 z4) (h4' : Ints w B' A4' n4 z4) (m4 : n4 ≤ 1048576) :
    Calls Try.prog 20 #[.agg #[.int .i64 r0, .int .i64 q0, .slice A0 n0 c0, .int .i64 r1, .int .i64 q1, .slice A1 n1 c1, .int .i64 r2, .int .i64 q2, .slice A2 n2 c2, .int .i64 r3, .int .i64 q3, .slice A3 n3 c3, .int .i64 r4, .int .i64 q4, .slice A4 n4 c4], .agg #[.int .i64 r0, .int .i64 q0, .slice A0' n0 c0', .int .i64 r1, .int .i64 q1, .slice A1' n1 c1', .int .i64 r2, .int .i64 q2, .slice A2' n2 c2', .int .i64 r3, .int .i64 q3, .slice A3' n3 c3', .int .i64 r4, .int .i64 q4, .slice A4' n4 c4']] w fun e w' => e = .returned (.bool true) ∧ Below w.heap.size w w' := by
  have D0 := Lib.hid (al2 w (Obj.cells #[.int .i64 r0, .int .i64 q0, .slice A0 n0 c0, .int .i64 r1, .int .i64 q1, .slice A1 n1 c1, .int .i64 r2, .int .i64 q2, .slice A2 n2 c2, .int .i64 r3, .int .i64 q3, .slice A3 n3 c3, .int .i64 r4, .int .i64 q4, .slice A4 n4 c4] 43) (Obj.cells #[.int .i64 r0, .int .i64 q0, .slice A0' n0 c0', .int .i64 r1, .int .i64 q1, .slice A1' n1 c1', .int .i64 r2, .int .i64 q2, .slice A2' n2 c2', .int .i64 r3, .int .i64 q3, .slice A3' n3 c3', .int .i64 r4, .int .i64 q4, .slice A4' n4 c4'] 43))
  have X0 := Lib.hid ((Row.new w #[.int .i64 r0, .int .i64 q0, .slice A0 n0 c0, .int .i64 r1, .int .i64 q1, .slice A1 n1 c1, .int .i64 r2, .int .i64 q2, .slice A2 n2 c2, .int .i64 r3, .int .i64 q3, .slice A3 n3 c3, .int .i64 r4, .int .i64 q4, .slice A4 n4 c4] 43).below (al1 _ (Obj.cells #[.int .i64 r0, .int .i64 q0, .slice A0' n0 c0', .int .i64 r1, .int .i64 q1, .slice A1' n1 c1', .int .i64 r2, .int .i64 q2, .slice A2' n2 c2', .int .i64 r3, .int .i64 q3, .slice A3' n3 c3', .int .i64 r4, .int .i64 q4, .slice A4' n4 c4'] 43)) (by simp))
  have Y0 := Lib.hid (Row.new (w.alloc (Obj.cells #[.int .i64 r0, .int .i64 q0, .slice A0 n0 c0, .int .i64 r1, .int .i64 q1, .slice A1 n1 c1, .int .i64 r2, .int .i64 q2, .slice A2 n2 c2, .int .i64 r3, .int .i64 q3, .slice A3 n3 c3, .int .i64 r4, .int .i64 q4, .slice A4 n4 c4] 43)) #[.int .i64 r0, .int .i64 q0, .slice A0' n0 c0', .int .i64 r1, .int .i64 q1, .slice A1' n1 c1', .int .i64 r2, .int .i64 q2, .slice A2' n2 c2', .int .i64 r3, .int .i64 q3, .slice A3' n3 c3', .int .i64 r4, .int .i64 q4, .slice A4' n4 c4'] 43)
  simp only [World.size_alloc] at Y0
  have I0 := Lib.hid h0
  have J0 := Lib.hid h0'
  have I1 := Lib.hid h1
  have J1 := Lib.hid h1'
  have I2 := Lib.hid h2
  have J2 := Lib.hid h2'
  have I3 := Lib.hid h3
  have J3 := Lib.hid h3'
  have I4 := Lib.hid h4
  have J4 := Lib.hid h4'
  clear h0 h0' h1 h1' h2 h2' h3 h3' h4 h4'
  go_enter Try.func20, Try.ntmps20
  go_wp2_with fail
  obtain ⟨w0, hw0⟩ : ∃ w0, w0 = ((w.alloc (Obj.cells #[.int .i64 r0, .int .i64 q0, .slice A0 n0 c0, .int .i64 r1, .int .i64 q1, .slice A1 n1 c1, .int .i64 r2, .int .i64 q2, .slice A2 n2 c2, .int .i64 r3, .int .i64 q3, .slice A3 n3 c3, .int .i64 r4, .int .i64 q4, .slice A4 n4 c4] 43)).alloc (Obj.cells #[.int .i64 r0, .int .i64 q0, .slice A0' n0 c0', .int .i64 r1, .int .i64 q1, .slice A1' n1 c1', .int .i64 r2, .int .i64 q2, .slice A2' n2 c2', .int .i64 r3, .int .i64 q3, .slice A3' n3 c3', .int .i64 r4, .int .i64 q4, .slice A4' n4 c4'] 43)) := ⟨_, rfl⟩
  have s0 : w.heap.size + 1 < w0.heap.size := by rw [hw0]; simp
  rw [← hw0] at X0 Y0 D0
  rw [← hw0]
  clear hw0
  obtain ⟨x0, x1, x2, x3, x4, x5, x6, x7, x8, x9, x10, x11, x12, x13, x14⟩ := X0.out.box15
  obtain ⟨y0, y1, y2, y3, y4, y5, y6, y7, y8, y9, y10, y11, y12, y13, y14⟩ := Y0.out.box15
  go_wp2_with fail
  refine (eqM_any r0 q0 A0 A0' n0 c0 c0' z0 B B' _ (by omega) (by omega) (I0.out.below (D0.out.mono hB)) (J0.out.below (D0.out.mono hB')) m0).mono ?_
  rintro e w1 ⟨rfl, hb⟩
  have D1 := Lib.hid (D0.out.trans (hb.mono D0.out.size))
  have X1 := Lib.hid (X0.out.below hb (by omega))
  have Y1 := Lib.hid (Y0.out.below hb (by omega))
  have s1 : w.heap.size + 1 < w1.heap.size := by have := hb.size; omega
  clear hb x0 x1 x2 x3 x4 x5 x6 x7 x8 x9 x10 x11 x12 x13 x14 y0 y1 y2 y3 y4 y5 y6 y7 y8 y9 y10 y11 y12 y13 y14 X0 Y0
  obtain ⟨x0, x1, x2, x3, x4, x5, x6, x7, x8, x9, x10, x11, x12, x13, x14⟩ := X1.out.box15
  obtain ⟨y0, y1, y2, y3, y4, y5, y6, y7, y8, y9, y10, y11, y12, y13, y14⟩ := Y1.out.box15
  go_wp2_with fail
  refine (eqM_any r1 q1 A1 A1' n1 c1 c1' z1 B B' _ (by omega) (by omega) (I1.out.below (D1.out.mono hB)) (J1.out.below (D1.out.mono hB')) m1).mono ?_
  rintro e w2 ⟨rfl, hb⟩
  have D2 := Lib.hid (D1.out.trans (hb.mono D1.out.size))
  have X2 := Lib.hid (X1.out.below hb (by omega))
  have Y2 := Lib.hid (Y1.out.below hb (by omega))
  have s2 : w.heap.size + 1 < w2.heap.size := by have := hb.size; omega
  clear hb x0 x1 x2 x3 x4 x5 x6 x7 x8 x9 x10 x11 x12 x13 x14 y0 y1 y2 y3 y4 y5 y6 y7 y8 y9 y10 y11 y12 y13 y14 X1 Y1
  obtain ⟨x0, x1, x2, x3, x4, x5, x6, x7, x8, x9, x10, x11, x12, x13, x14⟩ := X2.out.box15
  obtain ⟨y0, y1, y2, y3, y4, y5, y6, y7, y8, y9, y10, y11, y12, y13, y14⟩ := Y2.out.box15
  go_wp2_with fail
  refine (eqM_any r2 q2 A2 A2' n2 c2 c2' z2 B B' _ (by omega) (by omega) (I2.out.below (D2.out.mono hB)) (J2.out.below (D2.out.mono hB')) m2).mono ?_
  rintro e w3 ⟨rfl, hb⟩
  have D3 := Lib.hid (D2.out.trans (hb.mono D2.out.size))
  have X3 := Lib.hid (X2.out.below hb (by omega))
  have Y3 := Lib.hid (Y2.out.below hb (by omega))
  have s3 : w.heap.size + 1 < w3.heap.size := by have := hb.size; omega
  clear hb x0 x1 x2 x3 x4 x5 x6 x7 x8 x9 x10 x11 x12 x13 x14 y0 y1 y2 y3 y4 y5 y6 y7 y8 y9 y10 y11 y12 y13 y14 X2 Y2
  obtain ⟨x0, x1, x2, x3, x4, x5, x6, x7, x8, x9, x10, x11, x12, x13, x14⟩ := X3.out.box15
  obtain ⟨y0, y1, y2, y3, y4, y5, y6, y7, y8, y9, y10, y11, y12, y13, y14⟩ := Y3.out.box15
  go_wp2_with fail
  refine (eqM_any r3 q3 A3 A3' n3 c3 c3' z3 B B' _ (by omega) (by omega) (I3.out.below (D3.out.mono hB)) (J3.out.below (D3.out.mono hB')) m3).mono ?_
  rintro e w4 ⟨rfl, hb⟩
  have D4 := Lib.hid (D3.out.trans (hb.mono D3.out.size))
  have X4 := Lib.hid (X3.out.below hb (by omega))
  have Y4 := Lib.hid (Y3.out.below hb (by omega))
  have s4 : w.heap.size + 1 < w4.heap.size := by have := hb.size; omega
  clear hb x0 x1 x2 x3 x4 x5 x6 x7 x8 x9 x10 x11 x12 x13 x14 y0 y1 y2 y3 y4 y5 y6 y7 y8 y9 y10 y11 y12 y13 y14 X3 Y3
  obtain ⟨x0, x1, x2, x3, x4, x5, x6, x7, x8, x9, x10, x11, x12, x13, x14⟩ := X4.out.box15
  obtain ⟨y0, y1, y2, y3, y4, y5, y6, y7, y8, y9, y10, y11, y12, y13, y14⟩ := Y4.out.box15
  go_wp2_with fail
  refine (eqM_any r4 q4 A4 A4' n4 c4 c4' z4 B B' _ (by omega) (by omega) (I4.out.below (D4.out.mono hB)) (J4.out.below (D4.out.mono hB')) m4).mono ?_
  rintro e w5 ⟨rfl, hb⟩
  have D5 := Lib.hid (D4.out.trans (hb.mono D4.out.size))
  have X5 := Lib.hid (X4.out.below hb (by omega))
  have Y5 := Lib.hid (Y4.out.below hb (by omega))
  have s5 : w.heap.size + 1 < w5.heap.size := by have := hb.size; omega
  clear hb x0 x1 x2 x3 x4 x5 x6 x7 x8 x9 x10 x11 x12 x13 x14 y0 y1 y2 y3 y4 y5 y6 y7 y8 y9 y10 y11 y12 y13 y14 X4 Y4
  go_wp2
  go_ret
  exact ⟨rfl, D5.out⟩
end Go.Proofs.Ytgmkcmdnbfolhaa
