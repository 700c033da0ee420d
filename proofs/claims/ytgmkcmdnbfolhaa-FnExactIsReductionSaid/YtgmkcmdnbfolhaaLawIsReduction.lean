/- The law FnExactIsReduction returns true for every matrix and every five matrices that are passed in and changes no memory that was there. No condition. -/
import Derived.Test.YtgmkcmdnbfolhaaLiftR
import Derived.Test.YtgmkcmdnbfolhaaIsrF
import Derived.Test.YtgmkcmdnbfolhaaIsrG
import Derived.Deep.RegionHeld3
namespace Go.Proofs.Ytgmkcmdnbfolhaa
open Go.ChangeShapes Go.WideShapes Go.ChangeAt Go.RowKit

set_option maxRecDepth 100000 in
set_option maxHeartbeats 16000000 in
theorem exactIsReduction (r q : Int) (A : Option Addr) (n c : Nat) (zs : List Int) (r0 q0 r1 q1 r2 q2 r3 q3 r4 q4 : Int) (A0 A1 A2 A3 A4 : Option Addr) (n0 c0 n1 c1 n2 c2 n3 c3 n4 c4 : Nat) (z0 z1 z2 z3 z4 : List Int) (w : World) (h : Ints w w.heap.size A n zs) (hm : n ≤ maxLen) (h0 : Ints w w.heap.size A0 n0 z0) (hm0 : n0 ≤ maxLen) (h1 : Ints w w.heap.size A1 n1 z1) (hm1 : n1 ≤ maxLen) (h2 : Ints w w.heap.size A2 n2 z2) (hm2 : n2 ≤ maxLen) (h3 : Ints w w.heap.size A3 n3 z3) (hm3 : n3 ≤ maxLen) (h4 : Ints w w.heap.size A4 n4 z4) (hm4 : n4 ≤ maxLen) :
    Calls Try.prog 4 #[.agg #[.int .i64 r, .int .i64 q, .slice A n c], .agg #[.int .i64 r0, .int .i64 q0, .slice A0 n0 c0, .int .i64 r1, .int .i64 q1, .slice A1 n1 c1, .int .i64 r2, .int .i64 q2, .slice A2 n2 c2, .int .i64 r3, .int .i64 q3, .slice A3 n3 c3, .int .i64 r4, .int .i64 q4, .slice A4 n4 c4]] w fun e w' => e = .returned (.bool true) ∧ Below w.heap.size w w' := by
  have hm' := hm
  unfold maxLen at hm'
  have D0 := Lib.hid (al2 w (Obj.cells #[.int .i64 r, .int .i64 q, .slice A n c] 34) (Obj.cells #[.int .i64 r0, .int .i64 q0, .slice A0 n0 c0, .int .i64 r1, .int .i64 q1, .slice A1 n1 c1, .int .i64 r2, .int .i64 q2, .slice A2 n2 c2, .int .i64 r3, .int .i64 q3, .slice A3 n3 c3, .int .i64 r4, .int .i64 q4, .slice A4 n4 c4] 36))
  have M0 := Lib.hid ((Box3.new w 34 (.int .i64 r) (.int .i64 q) (.slice A n c)).below (al1 _ (Obj.cells #[.int .i64 r0, .int .i64 q0, .slice A0 n0 c0, .int .i64 r1, .int .i64 q1, .slice A1 n1 c1, .int .i64 r2, .int .i64 q2, .slice A2 n2 c2, .int .i64 r3, .int .i64 q3, .slice A3 n3 c3, .int .i64 r4, .int .i64 q4, .slice A4 n4 c4] 36)) (by simp))
  have X0 := Lib.hid (Row.new (w.alloc (Obj.cells #[.int .i64 r, .int .i64 q, .slice A n c] 34)) #[.int .i64 r0, .int .i64 q0, .slice A0 n0 c0, .int .i64 r1, .int .i64 q1, .slice A1 n1 c1, .int .i64 r2, .int .i64 q2, .slice A2 n2 c2, .int .i64 r3, .int .i64 q3, .slice A3 n3 c3, .int .i64 r4, .int .i64 q4, .slice A4 n4 c4] 36)
  simp only [World.size_alloc] at X0
  have I := Lib.hid h
  have I0 := Lib.hid h0
  have I1 := Lib.hid h1
  have I2 := Lib.hid h2
  have I3 := Lib.hid h3
  have I4 := Lib.hid h4
  clear h h0 h1 h2 h3 h4
  obtain ⟨x0, x1, x2, x3, x4, x5, x6, x7, x8, x9, x10, x11, x12, x13, x14⟩ := X0.out.box15
  obtain ⟨y0, y1, y2⟩ := M0.out
  go_enter Try.func4, Try.ntmps4
  go_wp2_with fail
  refine (szM_any r q A n c _ _ hm (by omega) (by omega)).mono ?_
  rintro e w1 ⟨rfl, hb⟩
  have D1 := Lib.hid (on2 _ _ hb)
  have s1 : w.heap.size + 1 < w1.heap.size := by have := hb.size; simp at this; omega
  have M1 := Lib.hid (M0.out.below hb (by simp <;> omega))
  have X1 := Lib.hid (X0.out.below hb (by simp))
  clear hb y0 y1 y2 x0 x1 x2 x3 x4 x5 x6 x7 x8 x9 x10 x11 x12 x13 x14 X0 M0 D0
  by_cases m : n ≤ 1048576
  case neg =>
    rw [if_pos (by omega)]
    go_wp2
    go_ret
    exact ⟨rfl, D1.out⟩
  rw [if_neg (by omega)]
  obtain ⟨t1, ht1⟩ : ∃ t1, (1048576 : Int) - n = t1 := ⟨_, rfl⟩
  rw [ht1]
  have u1 : ¬ t1 < 0 := by omega
  have u1' : 0 ≤ t1 := by omega
  have u1'' : t1 ≤ 1048576 := by omega
  clear ht1
  obtain ⟨x0, x1, x2, x3, x4, x5, x6, x7, x8, x9, x10, x11, x12, x13, x14⟩ := X1.out.box15
  obtain ⟨y0, y1, y2⟩ := M1.out
  go_wp2_with fail
  refine (szR_all r0 q0 r1 q1 r2 q2 r3 q3 r4 q4 A0 A1 A2 A3 A4 n0 c0 n1 c1 n2 c2 n3 c3 n4 c4 t1 _ hm0 hm1 hm2 hm3 hm4 u1' u1'').mono ?_
  rintro e w2 ⟨⟨t2, rfl, ht2⟩, hb⟩
  have D2 := Lib.hid (D1.out.trans (hb.mono D1.out.size))
  have s2 : w.heap.size + 1 < w2.heap.size := by have := hb.size; omega
  have M2 := Lib.hid (M1.out.below hb (by omega))
  have X2 := Lib.hid (X1.out.below hb (by omega))
  clear hb y0 y1 y2 x0 x1 x2 x3 x4 x5 x6 x7 x8 x9 x10 x11 x12 x13 x14 X1 M1 D1
  by_cases v2 : t2 < 0
  case pos =>
    go_wp2
    go_ret
    exact ⟨rfl, D2.out⟩
  have m0 : n0 ≤ 1048576 := by omega
  have m1 : n1 ≤ 1048576 := by omega
  have m2 : n2 ≤ 1048576 := by omega
  have m3 : n3 ≤ 1048576 := by omega
  have m4 : n4 ≤ 1048576 := by omega
  clear ht2
  have L := Lib.hid I.out.1
  have L0 := Lib.hid I0.out.1
  have L1 := Lib.hid I1.out.1
  have L2 := Lib.hid I2.out.1
  have L3 := Lib.hid I3.out.1
  have L4 := Lib.hid I4.out.1
  obtain ⟨x0, x1, x2, x3, x4, x5, x6, x7, x8, x9, x10, x11, x12, x13, x14⟩ := X2.out.box15
  obtain ⟨y0, y1, y2⟩ := M2.out
  go_wp2_with fail
  go_region_held3 (fun W => (W.cell? ⟨w.heap.size, 0, none⟩ = some (.int .i64 r) ∧ W.cell? ⟨w.heap.size, 1, none⟩ = some (.int .i64 q) ∧ W.cell? ⟨w.heap.size, 2, none⟩ = some (.slice A n c)) ∧ (W.cell? ⟨w.heap.size + 1, 0, none⟩ = some (.int .i64 r0) ∧ W.cell? ⟨w.heap.size + 1, 1, none⟩ = some (.int .i64 q0) ∧ W.cell? ⟨w.heap.size + 1, 2, none⟩ = some (.slice A0 n0 c0) ∧ W.cell? ⟨w.heap.size + 1, 3, none⟩ = some (.int .i64 r1) ∧ W.cell? ⟨w.heap.size + 1, 4, none⟩ = some (.int .i64 q1) ∧ W.cell? ⟨w.heap.size + 1, 5, none⟩ = some (.slice A1 n1 c1) ∧ W.cell? ⟨w.heap.size + 1, 6, none⟩ = some (.int .i64 r2) ∧ W.cell? ⟨w.heap.size + 1, 7, none⟩ = some (.int .i64 q2) ∧ W.cell? ⟨w.heap.size + 1, 8, none⟩ = some (.slice A2 n2 c2) ∧ W.cell? ⟨w.heap.size + 1, 9, none⟩ = some (.int .i64 r3) ∧ W.cell? ⟨w.heap.size + 1, 10, none⟩ = some (.int .i64 q3) ∧ W.cell? ⟨w.heap.size + 1, 11, none⟩ = some (.slice A3 n3 c3) ∧ W.cell? ⟨w.heap.size + 1, 12, none⟩ = some (.int .i64 r4) ∧ W.cell? ⟨w.heap.size + 1, 13, none⟩ = some (.int .i64 q4) ∧ W.cell? ⟨w.heap.size + 1, 14, none⟩ = some (.slice A4 n4 c4))) (go_keep)
    (first
      | (go_at_call 16; (with_reducible refine (toM_any r q A n c zs _ (by exact I.out.into D2.out.drew) m).mono ?_); rintro e w6 ⟨g6, rfl, hk6, hg6, hb6'⟩; have hb6 := undrew hb6'; have K6 := Lib.hid hk6; have B6 := Lib.hid hb6; have z6 : w2.heap.size ≤ w6.heap.size := hb6.size; obtain ⟨e0, e1, e2⟩ := M2.out.below hb6 (by omega); obtain ⟨f0, f1, f2, f3, f4, f5, f6, f7, f8, f9, f10, f11, f12, f13, f14⟩ := (X2.out.below hb6 (by omega)).box15; clear hk6 hg6 hb6 hb6')
      | (go_at_call 17; (with_reducible refine (toR_all r0 q0 r1 q1 r2 q2 r3 q3 r4 q4 A0 A1 A2 A3 A4 n0 c0 n1 c1 n2 c2 n3 c3 n4 c4 z0 z1 z2 z3 z4 _ (by exact I0.out.into (D2.out.trans (B6.out.mono D2.out.size))) m0 (by exact I1.out.into (D2.out.trans (B6.out.mono D2.out.size))) m1 (by exact I2.out.into (D2.out.trans (B6.out.mono D2.out.size))) m2 (by exact I3.out.into (D2.out.trans (B6.out.mono D2.out.size))) m3 (by exact I4.out.into (D2.out.trans (B6.out.mono D2.out.size))) m4).mono ?_); rintro e w7 ⟨p0, p1, p2, p3, p4, rfl, hk0, hk1, hk2, hk3, hk4, _, _, _, _, _, hb7⟩; have K70 := Lib.hid hk0; have K71 := Lib.hid hk1; have K72 := Lib.hid hk2; have K73 := Lib.hid hk3; have K74 := Lib.hid hk4; have B7 := Lib.hid (B6.out.trans (hb7.mono z6)); have C7 := Lib.hid hb7; have z7 : w2.heap.size ≤ w7.heap.size := B7.out.size; obtain ⟨e3, e4, e5⟩ := M2.out.below B7.out (by omega); obtain ⟨h0, h1, h2, h3, h4, h5, h6, h7, h8, h9, h10, h11, h12, h13, h14⟩ := (X2.out.below B7.out (by omega)).box15; clear hb7 hk0 hk1 hk2 hk3 hk4)
      | (go_at_call 15; (with_reducible refine (isr_spec r q (some ⟨g6, 0, none⟩) n n zs r0 q0 r1 q1 r2 q2 r3 q3 r4 q4 (some ⟨p0, 0, none⟩) (some ⟨p1, 0, none⟩) (some ⟨p2, 0, none⟩) (some ⟨p3, 0, none⟩) (some ⟨p4, 0, none⟩) n0 n0 n1 n1 n2 n2 n3 n3 n4 n4 z0 z1 z2 z3 z4 _ (by exact (K6.out.ints L.out).into C7.out) m (by exact K70.out.ints L0.out) m0 (by exact K71.out.ints L1.out) m1 (by exact K72.out.ints L2.out) m2 (by exact K73.out.ints L3.out) m3 (by exact K74.out.ints L4.out) m4).mono ?_); rintro e w8 ⟨v, rfl, hv, hb8⟩; have HV := Lib.hid hv; have B8 := Lib.hid (B7.out.trans (hb8.mono z7)); have z8 : w2.heap.size ≤ w8.heap.size := B8.out.size; obtain ⟨e6, e7, e8⟩ := M2.out.below B8.out (by omega); obtain ⟨l0, l1, l2, l3, l4, l5, l6, l7, l8, l9, l10, l11, l12, l13, l14⟩ := (X2.out.below B8.out (by omega)).box15; clear hv hb8))
  have D8 := Lib.hid (D2.out.trans (B8.out.mono D2.out.size))
  have s8 : w.heap.size + 1 < w8.heap.size := by omega
  have M8 := Lib.hid (M2.out.below B8.out (by omega))
  have X8 := Lib.hid (X2.out.below B8.out (by omega))
  clear y0 y1 y2 x0 x1 x2 x3 x4 x5 x6 x7 x8 x9 x10 x11 x12 x13 x14 e0 e1 e2 f0 f1 f2 f3 f4 f5 f6 f7 f8 f9 f10 f11 f12 f13 f14 e3 e4 e5 h0 h1 h2 h3 h4 h5 h6 h7 h8 h9 h10 h11 h12 h13 h14 e6 e7 e8 l0 l1 l2 l3 l4 l5 l6 l7 l8 l9 l10 l11 l12 l13 l14 M2 X2 B6 K6 B7 C7 K70 K71 K72 K73 K74 B8
  as_aux_lemma =>
  obtain ⟨x0, x1, x2, x3, x4, x5, x6, x7, x8, x9, x10, x11, x12, x13, x14⟩ := X8.out.box15
  obtain ⟨y0, y1, y2⟩ := M8.out
  go_wp2_with fail
  refine (toM_any r q A n c zs _ (I.out.into D8.out) m).mono ?_
  rintro e w9 ⟨ga, rfl, hk, hg, hb⟩
  have D9 := Lib.hid (D8.out.trans (hb.mono D8.out.size))
  have s9 : w.heap.size + 1 < w9.heap.size := by have := hb.size; omega
  have Ka := Lib.hid hk
  have M9 := Lib.hid (M8.out.below hb (by omega))
  have X9 := Lib.hid (X8.out.below hb (by omega))
  have Pm := Lib.hid (Box3.new w9 40 (.int .i64 r) (.int .i64 q) (.slice (some ⟨ga, 0, none⟩) n n))
  have Ba := Lib.hid (al1 w9 (Obj.cells #[.int .i64 r, .int .i64 q, .slice (some ⟨ga, 0, none⟩) n n] 40))
  have Da := Lib.hid (D9.out.trans (Ba.out.mono D9.out.size))
  have Ka' := Lib.hid (Ka.out.below Ba.out Ka.out.lt)
  have Ma := Lib.hid (M9.out.below Ba.out (by omega))
  have Xa := Lib.hid (X9.out.below Ba.out (by omega))
  clear hb hk hg y0 y1 y2 x0 x1 x2 x3 x4 x5 x6 x7 x8 x9 x10 x11 x12 x13 x14 M8 X8 M9 X9 Ka
  obtain ⟨x0, x1, x2, x3, x4, x5, x6, x7, x8, x9, x10, x11, x12, x13, x14⟩ := Xa.out.box15
  go_wp2_with fail
  refine (toR_all r0 q0 r1 q1 r2 q2 r3 q3 r4 q4 A0 A1 A2 A3 A4 n0 c0 n1 c1 n2 c2 n3 c3 n4 c4 z0 z1 z2 z3 z4 _ (I0.out.into Da.out) m0 (I1.out.into Da.out) m1 (I2.out.into Da.out) m2 (I3.out.into Da.out) m3 (I4.out.into Da.out) m4).mono ?_
  rintro e w10 ⟨g0, g1, g2, g3, g4, rfl, hk0, hk1, hk2, hk3, hk4, _, _, _, _, _, hb⟩
  have D10 := Lib.hid (Da.out.trans (hb.mono Da.out.size))
  have s10 : w9.heap.size < w10.heap.size := by have := hb.size; simp at this; omega
  have s10' : w.heap.size + 1 < w10.heap.size := by omega
  have P10 := Lib.hid (Pm.out.below hb (by simp))
  have K10 := Lib.hid (Ka'.out.below hb Ka'.out.lt)
  have M10 := Lib.hid (Ma.out.below hb (by simp; omega))
  have X10 := Lib.hid (Xa.out.below hb (by simp; omega))
  have Kb0 := Lib.hid hk0; have Kb1 := Lib.hid hk1; have Kb2 := Lib.hid hk2; have Kb3 := Lib.hid hk3; have Kb4 := Lib.hid hk4
  have Pr := Lib.hid (Row.new w10 #[.int .i64 r0, .int .i64 q0, .slice (some ⟨g0, 0, none⟩) n0 n0, .int .i64 r1, .int .i64 q1, .slice (some ⟨g1, 0, none⟩) n1 n1, .int .i64 r2, .int .i64 q2, .slice (some ⟨g2, 0, none⟩) n2 n2, .int .i64 r3, .int .i64 q3, .slice (some ⟨g3, 0, none⟩) n3 n3, .int .i64 r4, .int .i64 q4, .slice (some ⟨g4, 0, none⟩) n4 n4] 43)
  have Bb := Lib.hid (al1 w10 (Obj.cells #[.int .i64 r0, .int .i64 q0, .slice (some ⟨g0, 0, none⟩) n0 n0, .int .i64 r1, .int .i64 q1, .slice (some ⟨g1, 0, none⟩) n1 n1, .int .i64 r2, .int .i64 q2, .slice (some ⟨g2, 0, none⟩) n2 n2, .int .i64 r3, .int .i64 q3, .slice (some ⟨g3, 0, none⟩) n3 n3, .int .i64 r4, .int .i64 q4, .slice (some ⟨g4, 0, none⟩) n4 n4] 43))
  have Db := Lib.hid (D10.out.trans (Bb.out.mono D10.out.size))
  have Pb := Lib.hid (P10.out.below Bb.out s10)
  have Mb := Lib.hid (M10.out.below Bb.out (by omega))
  have Xb := Lib.hid (X10.out.below Bb.out s10')
  have Ki := Lib.hid (K10.out.below Bb.out K10.out.lt)
  have Ki0 := Lib.hid (Kb0.out.below Bb.out Kb0.out.lt); have Ki1 := Lib.hid (Kb1.out.below Bb.out Kb1.out.lt); have Ki2 := Lib.hid (Kb2.out.below Bb.out Kb2.out.lt); have Ki3 := Lib.hid (Kb3.out.below Bb.out Kb3.out.lt); have Ki4 := Lib.hid (Kb4.out.below Bb.out Kb4.out.lt)
  clear hb hk0 hk1 hk2 hk3 hk4 x0 x1 x2 x3 x4 x5 x6 x7 x8 x9 x10 x11 x12 x13 x14 Ma Xa Pm P10 K10 M10 X10 Kb0 Kb1 Kb2 Kb3 Kb4 Ka' Da Ba
  as_aux_lemma =>
  obtain ⟨x0, x1, x2, x3, x4, x5, x6, x7, x8, x9, x10, x11, x12, x13, x14⟩ := Pr.out.box15
  obtain ⟨y0, y1, y2⟩ := Pb.out
  go_wp2_with fail
  refine (isr_impl r q (some ⟨ga, 0, none⟩) n n zs r0 q0 r1 q1 r2 q2 r3 q3 r4 q4 (some ⟨g0, 0, none⟩) (some ⟨g1, 0, none⟩) (some ⟨g2, 0, none⟩) (some ⟨g3, 0, none⟩) (some ⟨g4, 0, none⟩) n0 n0 n1 n1 n2 n2 n3 n3 n4 n4 z0 z1 z2 z3 z4 _ ((Ki.out.ints L.out).more (Nat.le_refl _)) m (Ki0.out.ints L0.out) m0 (Ki1.out.ints L1.out) m1 (Ki2.out.ints L2.out) m2 (Ki3.out.ints L3.out) m3 (Ki4.out.ints L4.out) m4).mono ?_
  rintro e w11 ⟨v', rfl, hv, hb⟩
  obtain rfl : v' = v := by
    have h1 := HV.out
    rw [← hv] at h1
    cases v <;> cases v' <;> simp_all
  have s11 : w10.heap.size < w11.heap.size := by have := hb.size; simp at this; omega
  have D11 := Lib.hid (Db.out.trans (hb.mono Db.out.size))
  have Q11 := Lib.hid (Pr.out.below hb (by simp))
  have P11 := Lib.hid (Pb.out.below hb (by simp; omega))
  have M11 := Lib.hid (Mb.out.below hb (by simp; omega))
  have X11 := Lib.hid (Xb.out.below hb (by simp; omega))
  have K11 := Lib.hid (Ki.out.below hb Ki.out.lt)
  have K110 := Lib.hid (Ki0.out.below hb Ki0.out.lt); have K111 := Lib.hid (Ki1.out.below hb Ki1.out.lt); have K112 := Lib.hid (Ki2.out.below hb Ki2.out.lt); have K113 := Lib.hid (Ki3.out.below hb Ki3.out.lt); have K114 := Lib.hid (Ki4.out.below hb Ki4.out.lt)
  clear hv hb HV y0 y1 y2 x0 x1 x2 x3 x4 x5 x6 x7 x8 x9 x10 x11 x12 x13 x14 Pr Pb Mb Xb Ki Ki0 Ki1 Ki2 Ki3 Ki4 Bb Db
  as_aux_lemma =>
  obtain ⟨y0, y1, y2⟩ := M11.out
  obtain ⟨o0, o1, o2⟩ := P11.out
  go_wp2_with fail
  go_region_held3 (fun W => (W.cell? ⟨w.heap.size, 0, none⟩ = some (.int .i64 r) ∧ W.cell? ⟨w.heap.size, 1, none⟩ = some (.int .i64 q) ∧ W.cell? ⟨w.heap.size, 2, none⟩ = some (.slice A n c)) ∧ (W.cell? ⟨w9.heap.size, 0, none⟩ = some (.int .i64 r) ∧ W.cell? ⟨w9.heap.size, 1, none⟩ = some (.int .i64 q) ∧ W.cell? ⟨w9.heap.size, 2, none⟩ = some (.slice (some ⟨ga, 0, none⟩) n n))) (go_keep)
    (first
      | (go_at_call 16; (with_reducible refine (toM_any r q A n c zs _ (by exact I.out.into D11.out.drew) m).mono ?_); rintro e w12 ⟨gc, rfl, hk12, hg12, hb12'⟩; have hb12 := undrew hb12'; have K12 := Lib.hid hk12; have B12 := Lib.hid hb12; have z12 : w11.heap.size ≤ w12.heap.size := hb12.size; obtain ⟨e0, e1, e2⟩ := M11.out.below hb12 (by omega); obtain ⟨f0, f1, f2⟩ := P11.out.below hb12 (by omega); clear hk12 hg12 hb12 hb12')
      | (go_at_call 19; (with_reducible refine (eqM_any r q _ _ n _ _ zs w11.heap.size _ _ (by exact B12.out.size) (Nat.le_refl _) (by exact (K11.out.ints L.out).below B12.out) (by exact K12.out.ints L.out) m).mono ?_); rintro e w13 ⟨rfl, hb13⟩; have B13 := Lib.hid (B12.out.trans (hb13.mono z12)); obtain ⟨e3, e4, e5⟩ := M11.out.below B13.out (by omega); obtain ⟨f3, f4, f5⟩ := P11.out.below B13.out (by omega); clear hb13))
  have z13 : w11.heap.size ≤ w13.heap.size := B13.out.size
  have D13 := Lib.hid (D11.out.trans (B13.out.mono D11.out.size))
  have X13 := Lib.hid (X11.out.below B13.out (by omega))
  have Q13 := Lib.hid (Q11.out.below B13.out (by omega))
  have K130 := Lib.hid (K110.out.below B13.out K110.out.lt); have K131 := Lib.hid (K111.out.below B13.out K111.out.lt); have K132 := Lib.hid (K112.out.below B13.out K112.out.lt); have K133 := Lib.hid (K113.out.below B13.out K113.out.lt); have K134 := Lib.hid (K114.out.below B13.out K114.out.lt)
  clear y0 y1 y2 o0 o1 o2 e0 e1 e2 f0 f1 f2 e3 e4 e5 f3 f4 f5 K12 B12 M11 P11 X11 Q11 K110 K111 K112 K113 K114
  as_aux_lemma =>
  obtain ⟨x0, x1, x2, x3, x4, x5, x6, x7, x8, x9, x10, x11, x12, x13, x14⟩ := X13.out.box15
  obtain ⟨o0, o1, o2, o3, o4, o5, o6, o7, o8, o9, o10, o11, o12, o13, o14⟩ := Q13.out.box15
  go_wp2_with fail
  go_region_held3 (fun W => (W.cell? ⟨w.heap.size + 1, 0, none⟩ = some (.int .i64 r0) ∧ W.cell? ⟨w.heap.size + 1, 1, none⟩ = some (.int .i64 q0) ∧ W.cell? ⟨w.heap.size + 1, 2, none⟩ = some (.slice A0 n0 c0) ∧ W.cell? ⟨w.heap.size + 1, 3, none⟩ = some (.int .i64 r1) ∧ W.cell? ⟨w.heap.size + 1, 4, none⟩ = some (.int .i64 q1) ∧ W.cell? ⟨w.heap.size + 1, 5, none⟩ = some (.slice A1 n1 c1) ∧ W.cell? ⟨w.heap.size + 1, 6, none⟩ = some (.int .i64 r2) ∧ W.cell? ⟨w.heap.size + 1, 7, none⟩ = some (.int .i64 q2) ∧ W.cell? ⟨w.heap.size + 1, 8, none⟩ = some (.slice A2 n2 c2) ∧ W.cell? ⟨w.heap.size + 1, 9, none⟩ = some (.int .i64 r3) ∧ W.cell? ⟨w.heap.size + 1, 10, none⟩ = some (.int .i64 q3) ∧ W.cell? ⟨w.heap.size + 1, 11, none⟩ = some (.slice A3 n3 c3) ∧ W.cell? ⟨w.heap.size + 1, 12, none⟩ = some (.int .i64 r4) ∧ W.cell? ⟨w.heap.size + 1, 13, none⟩ = some (.int .i64 q4) ∧ W.cell? ⟨w.heap.size + 1, 14, none⟩ = some (.slice A4 n4 c4)) ∧ (W.cell? ⟨w10.heap.size, 0, none⟩ = some (.int .i64 r0) ∧ W.cell? ⟨w10.heap.size, 1, none⟩ = some (.int .i64 q0) ∧ W.cell? ⟨w10.heap.size, 2, none⟩ = some (.slice (some ⟨g0, 0, none⟩) n0 n0) ∧ W.cell? ⟨w10.heap.size, 3, none⟩ = some (.int .i64 r1) ∧ W.cell? ⟨w10.heap.size, 4, none⟩ = some (.int .i64 q1) ∧ W.cell? ⟨w10.heap.size, 5, none⟩ = some (.slice (some ⟨g1, 0, none⟩) n1 n1) ∧ W.cell? ⟨w10.heap.size, 6, none⟩ = some (.int .i64 r2) ∧ W.cell? ⟨w10.heap.size, 7, none⟩ = some (.int .i64 q2) ∧ W.cell? ⟨w10.heap.size, 8, none⟩ = some (.slice (some ⟨g2, 0, none⟩) n2 n2) ∧ W.cell? ⟨w10.heap.size, 9, none⟩ = some (.int .i64 r3) ∧ W.cell? ⟨w10.heap.size, 10, none⟩ = some (.int .i64 q3) ∧ W.cell? ⟨w10.heap.size, 11, none⟩ = some (.slice (some ⟨g3, 0, none⟩) n3 n3) ∧ W.cell? ⟨w10.heap.size, 12, none⟩ = some (.int .i64 r4) ∧ W.cell? ⟨w10.heap.size, 13, none⟩ = some (.int .i64 q4) ∧ W.cell? ⟨w10.heap.size, 14, none⟩ = some (.slice (some ⟨g4, 0, none⟩) n4 n4))) (go_keep)
    (first
      | (go_at_call 17; (with_reducible refine (toR_all r0 q0 r1 q1 r2 q2 r3 q3 r4 q4 A0 A1 A2 A3 A4 n0 c0 n1 c1 n2 c2 n3 c3 n4 c4 z0 z1 z2 z3 z4 _ (by exact I0.out.into (D13.out.drew)) m0 (by exact I1.out.into (D13.out.drew)) m1 (by exact I2.out.into (D13.out.drew)) m2 (by exact I3.out.into (D13.out.drew)) m3 (by exact I4.out.into (D13.out.drew)) m4).mono ?_); rintro e w14 ⟨p0, p1, p2, p3, p4, rfl, hk0, hk1, hk2, hk3, hk4, _, _, _, _, _, hb14'⟩; have hb14 := undrew hb14'; have K140 := Lib.hid hk0; have K141 := Lib.hid hk1; have K142 := Lib.hid hk2; have K143 := Lib.hid hk3; have K144 := Lib.hid hk4; have B14 := Lib.hid hb14; have z14 : w13.heap.size ≤ w14.heap.size := hb14.size; obtain ⟨f0, f1, f2, f3, f4, f5, f6, f7, f8, f9, f10, f11, f12, f13, f14⟩ := (X13.out.below hb14 (by omega)).box15; obtain ⟨h0, h1, h2, h3, h4, h5, h6, h7, h8, h9, h10, h11, h12, h13, h14⟩ := (Q13.out.below hb14 (by omega)).box15; clear hb14 hb14' hk0 hk1 hk2 hk3 hk4)
      | (go_at_call 20; (with_reducible refine (eqR_all r0 q0 r1 q1 r2 q2 r3 q3 r4 q4 (some ⟨g0, 0, none⟩) (some ⟨g1, 0, none⟩) (some ⟨g2, 0, none⟩) (some ⟨g3, 0, none⟩) (some ⟨g4, 0, none⟩) n0 n0 n1 n1 n2 n2 n3 n3 n4 n4 (some ⟨p0, 0, none⟩) (some ⟨p1, 0, none⟩) (some ⟨p2, 0, none⟩) (some ⟨p3, 0, none⟩) (some ⟨p4, 0, none⟩) n0 n1 n2 n3 n4 z0 z1 z2 z3 z4 w13.heap.size _ _ (by exact B14.out.size) (Nat.le_refl _) (by exact (K130.out.ints L0.out).below B14.out) (by exact K140.out.ints L0.out) m0 (by exact (K131.out.ints L1.out).below B14.out) (by exact K141.out.ints L1.out) m1 (by exact (K132.out.ints L2.out).below B14.out) (by exact K142.out.ints L2.out) m2 (by exact (K133.out.ints L3.out).below B14.out) (by exact K143.out.ints L3.out) m3 (by exact (K134.out.ints L4.out).below B14.out) (by exact K144.out.ints L4.out) m4).mono ?_); rintro e w15 ⟨rfl, hb15⟩; have B15 := Lib.hid (B14.out.trans (hb15.mono z14)); obtain ⟨l0, l1, l2, l3, l4, l5, l6, l7, l8, l9, l10, l11, l12, l13, l14⟩ := (X13.out.below B15.out (by omega)).box15; obtain ⟨j0, j1, j2, j3, j4, j5, j6, j7, j8, j9, j10, j11, j12, j13, j14⟩ := (Q13.out.below B15.out (by omega)).box15; clear hb15))
  have HB := Lib.hid (D13.out.trans (B15.out.mono D13.out.size))
  clear x0 x1 x2 x3 x4 x5 x6 x7 x8 x9 x10 x11 x12 x13 x14 o0 o1 o2 o3 o4 o5 o6 o7 o8 o9 o10 o11 o12 o13 o14 f0 f1 f2 f3 f4 f5 f6 f7 f8 f9 f10 f11 f12 f13 f14 h0 h1 h2 h3 h4 h5 h6 h7 h8 h9 h10 h11 h12 h13 h14 l0 l1 l2 l3 l4 l5 l6 l7 l8 l9 l10 l11 l12 l13 l14 j0 j1 j2 j3 j4 j5 j6 j7 j8 j9 j10 j11 j12 j13 j14
  go_wp2
  go_ret
  exact ⟨rfl, HB.out⟩

set_option maxRecDepth 100000 in
set_option maxHeartbeats 8000000 in
theorem exactIsReduction_lifted (os : Os) (started : os.Started) (H : Type) (enc : TypeId × Value → H) :
    ReturnsInHanded {} Try.checked os 4 .any (Rows.fnExactIsReductionSpec.pre6 enc Try.prog Try.f4 Rows.fnExactIsReductionRow.domain false) (Rows.fnExactIsReductionSpec.post enc Try.prog Try.f4 false true false false) := by
  refine returnsInHanded_of_change (C := Try.checked) own started (by kernel_rfl) Try.func4
    (ChangeSpec.witness6 (enc := enc) (C := Try.checked) false ⟨#[], #[.agg #[.int .i64 0, .int .i64 0, .slice none 0 0], .agg #[.int .i64 0, .int .i64 0, .slice none 0 0, .int .i64 0, .int .i64 0, .slice none 0 0, .int .i64 0, .int .i64 0, .slice none 0 0, .int .i64 0, .int .i64 0, .slice none 0 0, .int .i64 0, .int .i64 0, .slice none 0 0]], []⟩ 8 (by kernel_rfl) (by kernel_rfl) (by kernel_rfl) (by kernel_rfl)) ?_
  intro W base args ds gs before hval0 hW _ _
  have hval : ∀ (j : Nat) t v, Try.f4.params[j]? = some t → args[j]? = some v → Value.okWide Try.prog W .any base t v := hval0
  have hW' := hW
  obtain ⟨p, q, hA0, hV, rfl, hfz, hnd⟩ := hW
  have hA : DataW.TrodAll enc Try.prog W 0 (fun _ => true) true Try.f4.params.toList args.toList ds p := hA0
  rw [Try.params4] at hA hval
  obtain ⟨va, vs0, d0, ds0, pa, qa, hargs, rfl, rfl, h0, tr0⟩ := trodAll_cons hA
  obtain ⟨vb, vs1, d1, ds1, pb, qb, rfl, rfl, rfl, h1, tr1⟩ := trodAll_cons tr0
  obtain ⟨rfl, rfl, rfl⟩ := trodAll_nil tr1
  obtain rfl : args = #[va, vb] := by cases args; simp_all
  obtain ⟨rfl, rfl⟩ := trodVars_none hV
  have k0 := h0
  have lt0 : ∀ x ∈ pa, x.block < W.heap.size := by obtain ⟨m, hm⟩ := k0; exact DataW.trod_lt m _ _ _ hm
  have k1 := h1
  have lt1 : ∀ x ∈ pb, x.block < W.heap.size := by obtain ⟨m, hm⟩ := k1; exact DataW.trod_lt m _ _ _ hm
  obtain ⟨r, q, A, n, c, zs, rfl, hi, hm, _⟩ := openM (hval 0 34 va rfl rfl) h0
  obtain ⟨r0, q0, A0, n0, c0, z0, r1, q1, A1, n1, c1, z1, r2, q2, A2, n2, c2, z2, r3, q3, A3, n3, c3, z3, r4, q4, A4, n4, c4, z4, rfl, i0, m0, i1, m1, i2, m2, i3, m3, i4, m4⟩ := openR (hval 1 36 vb rfl rfl) h1
  clear hA0 hval0
  refine (exactIsReduction r q A n c zs r0 q0 r1 q1 r2 q2 r3 q3 r4 q4 A0 A1 A2 A3 A4 n0 c0 n1 c1 n2 c2 n3 c3 n4 c4 z0 z1 z2 z3 z4 W hi hm i0 m0 i1 m1 i2 m2 i3 m3 i4 m4).mono fun e W' ⟨he, bel⟩ => ?_
  subst he
  exact ⟨_, rfl, _, _, _, [], _, [], hW', trodAll_mk1 (shut_bool Try.underlying4 _), (trodAll_cons_mk (Below.trod laidOut (by kernel_rfl) (of_decide_eq_true (by kernel_rfl)) k0 bel lt0) (trodAll_cons_mk (Below.trod laidOut (by kernel_rfl) (of_decide_eq_true (by kernel_rfl)) k1 bel lt1) trodAll_mk0)), rfl, bel.frame _, fun h => by cases h⟩

theorem exactIsReduction_holds : Rows.FnExactIsReductionSaid :=
  OpenClaim.holds_of_wide 4 Try.f4 rfl rfl rfl rfl rfl rfl rfl ⟨rfl, rfl, rfl, rfl, rfl⟩ rfl rfl rfl rfl rfl (by kernel_rfl) Try.func4 (by kernel_rfl)
    (of_decide_eq_true (by kernel_rfl)) (by unfold Func.isWrapper; first | (rw [if_pos (by decide +kernel)]; kernel_rfl) | (rw [if_neg (by decide +kernel)]; exact ⟨rfl, rfl⟩))
    (fun os started H enc _ => exactIsReduction_lifted os started H enc)

#print axioms exactIsReduction_holds

end Go.Proofs.Ytgmkcmdnbfolhaa
