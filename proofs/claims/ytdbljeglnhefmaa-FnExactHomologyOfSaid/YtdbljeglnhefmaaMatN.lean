/- Both products of matrices at invalid inputs, and the specification's at valid ones. No condition but those that each theorem names. -/
import Derived.Test.YtdbljeglnhefmaaMatM
namespace Go.Proofs.Ytdbljeglnhefmaa
open Go.RowKit

set_option maxHeartbeats 2000000 in
theorem mul_impl_badA (r1 q1 r2 q2 : Int) (A1 A2 : Option Addr) (n1 c1 n2 c2 : Nat) (zs ys : List Int) (w : World) (h1 : Ints w w.heap.size A1 n1 zs) (h2 : Ints w w.heap.size A2 n2 ys)
    (m1 : n1 ≤ 1048576) (m2 : n2 ≤ 1048576) (P1 : ¬ MOk r1 q1 zs) :
    Calls Try.prog 28 #[.agg #[.int .i64 r1, .int .i64 q1, .slice A1 n1 c1], .agg #[.int .i64 r2, .int .i64 q2, .slice A2 n2 c2]] w (ResM w 0 0 [] (.int .i64 1)) := by
  have HP1 := Lib.hid P1
  have M2 := Lib.hid m2
  clear P1 m2
  have H1 := Lib.hid h1
  have H2 := Lib.hid h2
  have K1 := Lib.hid (((Box3.new w 27 (.int .i64 r1) (.int .i64 q1) (.slice A1 n1 c1)).below (al1 _ (Obj.cells #[.int .i64 r2, .int .i64 q2, .slice A2 n2 c2] 27)) (by simp)).below (al1 ((w.alloc (Obj.cells #[.int .i64 r1, .int .i64 q1, .slice A1 n1 c1] 27)).alloc (Obj.cells #[.int .i64 r2, .int .i64 q2, .slice A2 n2 c2] 27)) (Obj.cells #[.int .i64 0, .int .i64 0, .slice none 0 0] 27)) (by simp <;> omega))
  have K2 := Lib.hid ((Box3.new (w.alloc (Obj.cells #[.int .i64 r1, .int .i64 q1, .slice A1 n1 c1] 27)) 27 (.int .i64 r2) (.int .i64 q2) (.slice A2 n2 c2)).below (al1 ((w.alloc (Obj.cells #[.int .i64 r1, .int .i64 q1, .slice A1 n1 c1] 27)).alloc (Obj.cells #[.int .i64 r2, .int .i64 q2, .slice A2 n2 c2] 27)) (Obj.cells #[.int .i64 0, .int .i64 0, .slice none 0 0] 27)) (by simp))
  have K3 := Lib.hid (Box3.new ((w.alloc (Obj.cells #[.int .i64 r1, .int .i64 q1, .slice A1 n1 c1] 27)).alloc (Obj.cells #[.int .i64 r2, .int .i64 q2, .slice A2 n2 c2] 27)) 27 (.int .i64 0) (.int .i64 0) (.slice none 0 0))
  have F3 := Lib.hid (Free.new ((w.alloc (Obj.cells #[.int .i64 r1, .int .i64 q1, .slice A1 n1 c1] 27)).alloc (Obj.cells #[.int .i64 r2, .int .i64 q2, .slice A2 n2 c2] 27)) 27 #[.int .i64 0, .int .i64 0, .slice none 0 0])
  simp only [World.size_alloc] at K2 K3 F3
  clear h1 h2
  go_enter Try.func28, Try.ntmps28
  go_wp2_with fail
  refine (isMi_no r1 q1 A1 n1 c1 zs _ (H1.out.into (al3 _ _ _ _)) m1 HP1.out).mono ?_
  rintro e w1 ⟨rfl, hb⟩
  have s1 : w.heap.size + 1 + 1 < w1.heap.size := by have := hb.size; simp at this; omega
  have s1' : w.heap.size + 1 < w1.heap.size := by omega
  have L1 := Lib.hid (K1.out.below hb (by simp <;> omega))
  have L2 := Lib.hid (K2.out.below hb (by simp <;> omega))
  have L3 := Lib.hid (K3.out.below hb (by simp <;> omega))
  have G3 := Lib.hid (F3.out.below hb (by simp <;> omega))
  have HB1 := Lib.hid (on3 _ _ _ hb)
  clear hb K1 K2 K3 F3
  obtain ⟨n0, n1', n2'⟩ := L3.out
  have f0 := G3.out
  unfold Free at f0
  go_wp2
  refine bodyPost_ret (v := .tuple #[.agg #[.int .i64 0, .int .i64 0, .slice none 0 0], .int .i64 1]) (by simp [results, Try.results28, n0, n1', n2', go_sem]) rfl ⟨none, 0, rfl, Own.none_ _ _ _, ?_⟩
  exact ((HB1.out.setCell (by simp <;> omega) _).setCell (by simp <;> omega) _).setCell (by simp <;> omega) _

set_option maxHeartbeats 2000000 in
theorem mul_impl_badB (r1 q1 r2 q2 : Int) (A1 A2 : Option Addr) (n1 c1 n2 c2 : Nat) (zs ys : List Int) (w : World) (h1 : Ints w w.heap.size A1 n1 zs) (h2 : Ints w w.heap.size A2 n2 ys)
    (m1 : n1 ≤ 1048576) (m2 : n2 ≤ 1048576) (P1 : MOk r1 q1 zs) (P2 : ¬ MOk r2 q2 ys) :
    Calls Try.prog 28 #[.agg #[.int .i64 r1, .int .i64 q1, .slice A1 n1 c1], .agg #[.int .i64 r2, .int .i64 q2, .slice A2 n2 c2]] w (ResM w 0 0 [] (.int .i64 1)) := by
  have HP1 := Lib.hid P1
  have HP2 := Lib.hid P2
  clear P1 P2
  have H1 := Lib.hid h1
  have H2 := Lib.hid h2
  have K1 := Lib.hid (((Box3.new w 27 (.int .i64 r1) (.int .i64 q1) (.slice A1 n1 c1)).below (al1 _ (Obj.cells #[.int .i64 r2, .int .i64 q2, .slice A2 n2 c2] 27)) (by simp)).below (al1 ((w.alloc (Obj.cells #[.int .i64 r1, .int .i64 q1, .slice A1 n1 c1] 27)).alloc (Obj.cells #[.int .i64 r2, .int .i64 q2, .slice A2 n2 c2] 27)) (Obj.cells #[.int .i64 0, .int .i64 0, .slice none 0 0] 27)) (by simp <;> omega))
  have K2 := Lib.hid ((Box3.new (w.alloc (Obj.cells #[.int .i64 r1, .int .i64 q1, .slice A1 n1 c1] 27)) 27 (.int .i64 r2) (.int .i64 q2) (.slice A2 n2 c2)).below (al1 ((w.alloc (Obj.cells #[.int .i64 r1, .int .i64 q1, .slice A1 n1 c1] 27)).alloc (Obj.cells #[.int .i64 r2, .int .i64 q2, .slice A2 n2 c2] 27)) (Obj.cells #[.int .i64 0, .int .i64 0, .slice none 0 0] 27)) (by simp))
  have K3 := Lib.hid (Box3.new ((w.alloc (Obj.cells #[.int .i64 r1, .int .i64 q1, .slice A1 n1 c1] 27)).alloc (Obj.cells #[.int .i64 r2, .int .i64 q2, .slice A2 n2 c2] 27)) 27 (.int .i64 0) (.int .i64 0) (.slice none 0 0))
  have F3 := Lib.hid (Free.new ((w.alloc (Obj.cells #[.int .i64 r1, .int .i64 q1, .slice A1 n1 c1] 27)).alloc (Obj.cells #[.int .i64 r2, .int .i64 q2, .slice A2 n2 c2] 27)) 27 #[.int .i64 0, .int .i64 0, .slice none 0 0])
  simp only [World.size_alloc] at K2 K3 F3
  clear h1 h2
  go_enter Try.func28, Try.ntmps28
  go_wp2_with fail
  refine (isMi_yes r1 q1 A1 n1 c1 zs _ (H1.out.into (al3 _ _ _ _)) m1 HP1.out).mono ?_
  rintro e w1 ⟨rfl, hb⟩
  have s1 : w.heap.size + 1 + 1 < w1.heap.size := by have := hb.size; simp at this; omega
  have s1' : w.heap.size + 1 < w1.heap.size := by omega
  have L1 := Lib.hid (K1.out.below hb (by simp <;> omega))
  have L2 := Lib.hid (K2.out.below hb (by simp <;> omega))
  have L3 := Lib.hid (K3.out.below hb (by simp <;> omega))
  have G3 := Lib.hid (F3.out.below hb (by simp <;> omega))
  have HB1 := Lib.hid (on3 _ _ _ hb)
  clear hb K1 K2 K3 F3
  obtain ⟨k0, k1, k2⟩ := L1.out
  obtain ⟨l0, l1, l2⟩ := L2.out
  go_wp2_with fail
  refine (isMi_no r2 q2 A2 n2 c2 ys _ (H2.out.into HB1.out) m2 HP2.out).mono ?_
  rintro e w2 ⟨rfl, hb⟩
  have s2 : w1.heap.size ≤ w2.heap.size := hb.size
  clear k0 k1 k2 l0 l1 l2
  have K1 := Lib.hid (L1.out.below hb (by omega))
  have K2 := Lib.hid (L2.out.below hb (by omega))
  have K3 := Lib.hid (L3.out.below hb (by omega))
  have F3 := Lib.hid (G3.out.below hb (by omega))
  have HB2 := Lib.hid (HB1.out.trans (hb.mono (by omega)))
  clear hb L1 L2 L3 G3 HB1
  obtain ⟨n0, n1', n2'⟩ := K3.out
  have f0 := F3.out
  unfold Free at f0
  go_wp2
  refine bodyPost_ret (v := .tuple #[.agg #[.int .i64 0, .int .i64 0, .slice none 0 0], .int .i64 1]) (by simp [results, Try.results28, n0, n1', n2', go_sem]) rfl ⟨none, 0, rfl, Own.none_ _ _ _, ?_⟩
  exact ((HB2.out.setCell (by simp <;> omega) _).setCell (by simp <;> omega) _).setCell (by simp <;> omega) _

set_option maxHeartbeats 2000000 in
theorem mul_impl_unfit (r1 q1 r2 q2 : Int) (A1 A2 : Option Addr) (n1 c1 n2 c2 : Nat) (zs ys : List Int) (w : World) (h1 : Ints w w.heap.size A1 n1 zs) (h2 : Ints w w.heap.size A2 n2 ys)
    (m1 : n1 ≤ 1048576) (m2 : n2 ≤ 1048576) (P1 : MOk r1 q1 zs) (P2 : MOk r2 q2 ys) (hne : q1 ≠ r2) :
    Calls Try.prog 28 #[.agg #[.int .i64 r1, .int .i64 q1, .slice A1 n1 c1], .agg #[.int .i64 r2, .int .i64 q2, .slice A2 n2 c2]] w (ResM w 0 0 [] (.int .i64 2)) := by
  have HP1 := Lib.hid P1
  have HP2 := Lib.hid P2
  have t1 : (q1 == r2) = false := by simpa using hne
  have t2 : (q1 != r2) = true := by simpa using hne
  clear P1 P2 hne
  have H1 := Lib.hid h1
  have H2 := Lib.hid h2
  have K1 := Lib.hid (((Box3.new w 27 (.int .i64 r1) (.int .i64 q1) (.slice A1 n1 c1)).below (al1 _ (Obj.cells #[.int .i64 r2, .int .i64 q2, .slice A2 n2 c2] 27)) (by simp)).below (al1 ((w.alloc (Obj.cells #[.int .i64 r1, .int .i64 q1, .slice A1 n1 c1] 27)).alloc (Obj.cells #[.int .i64 r2, .int .i64 q2, .slice A2 n2 c2] 27)) (Obj.cells #[.int .i64 0, .int .i64 0, .slice none 0 0] 27)) (by simp <;> omega))
  have K2 := Lib.hid ((Box3.new (w.alloc (Obj.cells #[.int .i64 r1, .int .i64 q1, .slice A1 n1 c1] 27)) 27 (.int .i64 r2) (.int .i64 q2) (.slice A2 n2 c2)).below (al1 ((w.alloc (Obj.cells #[.int .i64 r1, .int .i64 q1, .slice A1 n1 c1] 27)).alloc (Obj.cells #[.int .i64 r2, .int .i64 q2, .slice A2 n2 c2] 27)) (Obj.cells #[.int .i64 0, .int .i64 0, .slice none 0 0] 27)) (by simp))
  have K3 := Lib.hid (Box3.new ((w.alloc (Obj.cells #[.int .i64 r1, .int .i64 q1, .slice A1 n1 c1] 27)).alloc (Obj.cells #[.int .i64 r2, .int .i64 q2, .slice A2 n2 c2] 27)) 27 (.int .i64 0) (.int .i64 0) (.slice none 0 0))
  have F3 := Lib.hid (Free.new ((w.alloc (Obj.cells #[.int .i64 r1, .int .i64 q1, .slice A1 n1 c1] 27)).alloc (Obj.cells #[.int .i64 r2, .int .i64 q2, .slice A2 n2 c2] 27)) 27 #[.int .i64 0, .int .i64 0, .slice none 0 0])
  simp only [World.size_alloc] at K2 K3 F3
  clear h1 h2
  go_enter Try.func28, Try.ntmps28
  go_wp2_with fail
  refine (isMi_yes r1 q1 A1 n1 c1 zs _ (H1.out.into (al3 _ _ _ _)) m1 HP1.out).mono ?_
  rintro e w1 ⟨rfl, hb⟩
  have s1 : w.heap.size + 1 + 1 < w1.heap.size := by have := hb.size; simp at this; omega
  have s1' : w.heap.size + 1 < w1.heap.size := by omega
  have L1 := Lib.hid (K1.out.below hb (by simp <;> omega))
  have L2 := Lib.hid (K2.out.below hb (by simp <;> omega))
  have L3 := Lib.hid (K3.out.below hb (by simp <;> omega))
  have G3 := Lib.hid (F3.out.below hb (by simp <;> omega))
  have HB1 := Lib.hid (on3 _ _ _ hb)
  clear hb K1 K2 K3 F3
  obtain ⟨k0, k1, k2⟩ := L1.out
  obtain ⟨l0, l1, l2⟩ := L2.out
  go_wp2_with fail
  refine (isMi_yes r2 q2 A2 n2 c2 ys _ (H2.out.into HB1.out) m2 HP2.out).mono ?_
  rintro e w2 ⟨rfl, hb⟩
  have s2 : w1.heap.size ≤ w2.heap.size := hb.size
  clear k0 k1 k2 l0 l1 l2
  have K1 := Lib.hid (L1.out.below hb (by omega))
  have K2 := Lib.hid (L2.out.below hb (by omega))
  have K3 := Lib.hid (L3.out.below hb (by omega))
  have F3 := Lib.hid (G3.out.below hb (by omega))
  have HB2 := Lib.hid (HB1.out.trans (hb.mono (by omega)))
  clear hb L1 L2 L3 G3 HB1
  obtain ⟨k0, k1, k2⟩ := K1.out
  obtain ⟨l0, l1, l2⟩ := K2.out
  obtain ⟨n0, n1', n2'⟩ := K3.out
  have f0 := F3.out
  unfold Free at f0
  go_wp2
  refine bodyPost_ret (v := .tuple #[.agg #[.int .i64 0, .int .i64 0, .slice none 0 0], .int .i64 2]) (by simp [results, Try.results28, n0, n1', n2', go_sem]) rfl ⟨none, 0, rfl, Own.none_ _ _ _, ?_⟩
  exact ((HB2.out.setCell (by simp <;> omega) _).setCell (by simp <;> omega) _).setCell (by simp <;> omega) _

set_option maxHeartbeats 2000000 in
theorem mul_spec_badA (r1 q1 r2 q2 : Int) (A1 A2 : Option Addr) (n1 c1 n2 c2 : Nat) (zs ys : List Int) (w : World) (h1 : Ints w w.heap.size A1 n1 zs) (h2 : Ints w w.heap.size A2 n2 ys)
    (m1 : n1 ≤ 1048576) (m2 : n2 ≤ 1048576) (P1 : ¬ MOk r1 q1 zs) :
    Calls Try.prog 27 #[.agg #[.int .i64 r1, .int .i64 q1, .slice A1 n1 c1], .agg #[.int .i64 r2, .int .i64 q2, .slice A2 n2 c2]] w (ResM w 0 0 [] (.int .i64 1)) := by
  have HP1 := Lib.hid P1
  have M2 := Lib.hid m2
  clear P1 m2
  have H1 := Lib.hid h1
  have H2 := Lib.hid h2
  have K1 := Lib.hid (((Box3.new w 27 (.int .i64 r1) (.int .i64 q1) (.slice A1 n1 c1)).below (al1 _ (Obj.cells #[.int .i64 r2, .int .i64 q2, .slice A2 n2 c2] 27)) (by simp)).below (al1 ((w.alloc (Obj.cells #[.int .i64 r1, .int .i64 q1, .slice A1 n1 c1] 27)).alloc (Obj.cells #[.int .i64 r2, .int .i64 q2, .slice A2 n2 c2] 27)) (Obj.cells #[.int .i64 0, .int .i64 0, .slice none 0 0] 27)) (by simp <;> omega))
  have K2 := Lib.hid ((Box3.new (w.alloc (Obj.cells #[.int .i64 r1, .int .i64 q1, .slice A1 n1 c1] 27)) 27 (.int .i64 r2) (.int .i64 q2) (.slice A2 n2 c2)).below (al1 ((w.alloc (Obj.cells #[.int .i64 r1, .int .i64 q1, .slice A1 n1 c1] 27)).alloc (Obj.cells #[.int .i64 r2, .int .i64 q2, .slice A2 n2 c2] 27)) (Obj.cells #[.int .i64 0, .int .i64 0, .slice none 0 0] 27)) (by simp))
  have K3 := Lib.hid (Box3.new ((w.alloc (Obj.cells #[.int .i64 r1, .int .i64 q1, .slice A1 n1 c1] 27)).alloc (Obj.cells #[.int .i64 r2, .int .i64 q2, .slice A2 n2 c2] 27)) 27 (.int .i64 0) (.int .i64 0) (.slice none 0 0))
  have F3 := Lib.hid (Free.new ((w.alloc (Obj.cells #[.int .i64 r1, .int .i64 q1, .slice A1 n1 c1] 27)).alloc (Obj.cells #[.int .i64 r2, .int .i64 q2, .slice A2 n2 c2] 27)) 27 #[.int .i64 0, .int .i64 0, .slice none 0 0])
  simp only [World.size_alloc] at K2 K3 F3
  clear h1 h2
  go_enter Try.func27, Try.ntmps27
  go_wp2_with fail
  refine (isMs_no r1 q1 A1 n1 c1 zs _ (H1.out.into (al3 _ _ _ _)) m1 HP1.out).mono ?_
  rintro e w1 ⟨rfl, hb⟩
  have s1 : w.heap.size + 1 + 1 < w1.heap.size := by have := hb.size; simp at this; omega
  have s1' : w.heap.size + 1 < w1.heap.size := by omega
  have L1 := Lib.hid (K1.out.below hb (by simp <;> omega))
  have L2 := Lib.hid (K2.out.below hb (by simp <;> omega))
  have L3 := Lib.hid (K3.out.below hb (by simp <;> omega))
  have G3 := Lib.hid (F3.out.below hb (by simp <;> omega))
  have HB1 := Lib.hid (on3 _ _ _ hb)
  clear hb K1 K2 K3 F3
  obtain ⟨n0, n1', n2'⟩ := L3.out
  have f0 := G3.out
  unfold Free at f0
  go_wp2
  refine bodyPost_ret (v := .tuple #[.agg #[.int .i64 0, .int .i64 0, .slice none 0 0], .int .i64 1]) (by simp [results, Try.results27, n0, n1', n2', go_sem]) rfl ⟨none, 0, rfl, Own.none_ _ _ _, ?_⟩
  exact ((HB1.out.setCell (by simp <;> omega) _).setCell (by simp <;> omega) _).setCell (by simp <;> omega) _

set_option maxHeartbeats 2000000 in
theorem mul_spec_badB (r1 q1 r2 q2 : Int) (A1 A2 : Option Addr) (n1 c1 n2 c2 : Nat) (zs ys : List Int) (w : World) (h1 : Ints w w.heap.size A1 n1 zs) (h2 : Ints w w.heap.size A2 n2 ys)
    (m1 : n1 ≤ 1048576) (m2 : n2 ≤ 1048576) (P1 : MOk r1 q1 zs) (P2 : ¬ MOk r2 q2 ys) :
    Calls Try.prog 27 #[.agg #[.int .i64 r1, .int .i64 q1, .slice A1 n1 c1], .agg #[.int .i64 r2, .int .i64 q2, .slice A2 n2 c2]] w (ResM w 0 0 [] (.int .i64 1)) := by
  have HP1 := Lib.hid P1
  have HP2 := Lib.hid P2
  clear P1 P2
  have H1 := Lib.hid h1
  have H2 := Lib.hid h2
  have K1 := Lib.hid (((Box3.new w 27 (.int .i64 r1) (.int .i64 q1) (.slice A1 n1 c1)).below (al1 _ (Obj.cells #[.int .i64 r2, .int .i64 q2, .slice A2 n2 c2] 27)) (by simp)).below (al1 ((w.alloc (Obj.cells #[.int .i64 r1, .int .i64 q1, .slice A1 n1 c1] 27)).alloc (Obj.cells #[.int .i64 r2, .int .i64 q2, .slice A2 n2 c2] 27)) (Obj.cells #[.int .i64 0, .int .i64 0, .slice none 0 0] 27)) (by simp <;> omega))
  have K2 := Lib.hid ((Box3.new (w.alloc (Obj.cells #[.int .i64 r1, .int .i64 q1, .slice A1 n1 c1] 27)) 27 (.int .i64 r2) (.int .i64 q2) (.slice A2 n2 c2)).below (al1 ((w.alloc (Obj.cells #[.int .i64 r1, .int .i64 q1, .slice A1 n1 c1] 27)).alloc (Obj.cells #[.int .i64 r2, .int .i64 q2, .slice A2 n2 c2] 27)) (Obj.cells #[.int .i64 0, .int .i64 0, .slice none 0 0] 27)) (by simp))
  have K3 := Lib.hid (Box3.new ((w.alloc (Obj.cells #[.int .i64 r1, .int .i64 q1, .slice A1 n1 c1] 27)).alloc (Obj.cells #[.int .i64 r2, .int .i64 q2, .slice A2 n2 c2] 27)) 27 (.int .i64 0) (.int .i64 0) (.slice none 0 0))
  have F3 := Lib.hid (Free.new ((w.alloc (Obj.cells #[.int .i64 r1, .int .i64 q1, .slice A1 n1 c1] 27)).alloc (Obj.cells #[.int .i64 r2, .int .i64 q2, .slice A2 n2 c2] 27)) 27 #[.int .i64 0, .int .i64 0, .slice none 0 0])
  simp only [World.size_alloc] at K2 K3 F3
  clear h1 h2
  go_enter Try.func27, Try.ntmps27
  go_wp2_with fail
  refine (isMs_yes r1 q1 A1 n1 c1 zs _ (H1.out.into (al3 _ _ _ _)) m1 HP1.out).mono ?_
  rintro e w1 ⟨rfl, hb⟩
  have s1 : w.heap.size + 1 + 1 < w1.heap.size := by have := hb.size; simp at this; omega
  have s1' : w.heap.size + 1 < w1.heap.size := by omega
  have L1 := Lib.hid (K1.out.below hb (by simp <;> omega))
  have L2 := Lib.hid (K2.out.below hb (by simp <;> omega))
  have L3 := Lib.hid (K3.out.below hb (by simp <;> omega))
  have G3 := Lib.hid (F3.out.below hb (by simp <;> omega))
  have HB1 := Lib.hid (on3 _ _ _ hb)
  clear hb K1 K2 K3 F3
  obtain ⟨k0, k1, k2⟩ := L1.out
  obtain ⟨l0, l1, l2⟩ := L2.out
  go_wp2_with fail
  refine (isMs_no r2 q2 A2 n2 c2 ys _ (H2.out.into HB1.out) m2 HP2.out).mono ?_
  rintro e w2 ⟨rfl, hb⟩
  have s2 : w1.heap.size ≤ w2.heap.size := hb.size
  clear k0 k1 k2 l0 l1 l2
  have K1 := Lib.hid (L1.out.below hb (by omega))
  have K2 := Lib.hid (L2.out.below hb (by omega))
  have K3 := Lib.hid (L3.out.below hb (by omega))
  have F3 := Lib.hid (G3.out.below hb (by omega))
  have HB2 := Lib.hid (HB1.out.trans (hb.mono (by omega)))
  clear hb L1 L2 L3 G3 HB1
  obtain ⟨n0, n1', n2'⟩ := K3.out
  have f0 := F3.out
  unfold Free at f0
  go_wp2
  refine bodyPost_ret (v := .tuple #[.agg #[.int .i64 0, .int .i64 0, .slice none 0 0], .int .i64 1]) (by simp [results, Try.results27, n0, n1', n2', go_sem]) rfl ⟨none, 0, rfl, Own.none_ _ _ _, ?_⟩
  exact ((HB2.out.setCell (by simp <;> omega) _).setCell (by simp <;> omega) _).setCell (by simp <;> omega) _

set_option maxHeartbeats 2000000 in
theorem mul_spec_unfit (r1 q1 r2 q2 : Int) (A1 A2 : Option Addr) (n1 c1 n2 c2 : Nat) (zs ys : List Int) (w : World) (h1 : Ints w w.heap.size A1 n1 zs) (h2 : Ints w w.heap.size A2 n2 ys)
    (m1 : n1 ≤ 1048576) (m2 : n2 ≤ 1048576) (P1 : MOk r1 q1 zs) (P2 : MOk r2 q2 ys) (hne : q1 ≠ r2) :
    Calls Try.prog 27 #[.agg #[.int .i64 r1, .int .i64 q1, .slice A1 n1 c1], .agg #[.int .i64 r2, .int .i64 q2, .slice A2 n2 c2]] w (ResM w 0 0 [] (.int .i64 2)) := by
  have HP1 := Lib.hid P1
  have HP2 := Lib.hid P2
  have t1 : (q1 == r2) = false := by simpa using hne
  have t2 : (q1 != r2) = true := by simpa using hne
  clear P1 P2 hne
  have H1 := Lib.hid h1
  have H2 := Lib.hid h2
  have K1 := Lib.hid (((Box3.new w 27 (.int .i64 r1) (.int .i64 q1) (.slice A1 n1 c1)).below (al1 _ (Obj.cells #[.int .i64 r2, .int .i64 q2, .slice A2 n2 c2] 27)) (by simp)).below (al1 ((w.alloc (Obj.cells #[.int .i64 r1, .int .i64 q1, .slice A1 n1 c1] 27)).alloc (Obj.cells #[.int .i64 r2, .int .i64 q2, .slice A2 n2 c2] 27)) (Obj.cells #[.int .i64 0, .int .i64 0, .slice none 0 0] 27)) (by simp <;> omega))
  have K2 := Lib.hid ((Box3.new (w.alloc (Obj.cells #[.int .i64 r1, .int .i64 q1, .slice A1 n1 c1] 27)) 27 (.int .i64 r2) (.int .i64 q2) (.slice A2 n2 c2)).below (al1 ((w.alloc (Obj.cells #[.int .i64 r1, .int .i64 q1, .slice A1 n1 c1] 27)).alloc (Obj.cells #[.int .i64 r2, .int .i64 q2, .slice A2 n2 c2] 27)) (Obj.cells #[.int .i64 0, .int .i64 0, .slice none 0 0] 27)) (by simp))
  have K3 := Lib.hid (Box3.new ((w.alloc (Obj.cells #[.int .i64 r1, .int .i64 q1, .slice A1 n1 c1] 27)).alloc (Obj.cells #[.int .i64 r2, .int .i64 q2, .slice A2 n2 c2] 27)) 27 (.int .i64 0) (.int .i64 0) (.slice none 0 0))
  have F3 := Lib.hid (Free.new ((w.alloc (Obj.cells #[.int .i64 r1, .int .i64 q1, .slice A1 n1 c1] 27)).alloc (Obj.cells #[.int .i64 r2, .int .i64 q2, .slice A2 n2 c2] 27)) 27 #[.int .i64 0, .int .i64 0, .slice none 0 0])
  simp only [World.size_alloc] at K2 K3 F3
  clear h1 h2
  go_enter Try.func27, Try.ntmps27
  go_wp2_with fail
  refine (isMs_yes r1 q1 A1 n1 c1 zs _ (H1.out.into (al3 _ _ _ _)) m1 HP1.out).mono ?_
  rintro e w1 ⟨rfl, hb⟩
  have s1 : w.heap.size + 1 + 1 < w1.heap.size := by have := hb.size; simp at this; omega
  have s1' : w.heap.size + 1 < w1.heap.size := by omega
  have L1 := Lib.hid (K1.out.below hb (by simp <;> omega))
  have L2 := Lib.hid (K2.out.below hb (by simp <;> omega))
  have L3 := Lib.hid (K3.out.below hb (by simp <;> omega))
  have G3 := Lib.hid (F3.out.below hb (by simp <;> omega))
  have HB1 := Lib.hid (on3 _ _ _ hb)
  clear hb K1 K2 K3 F3
  obtain ⟨k0, k1, k2⟩ := L1.out
  obtain ⟨l0, l1, l2⟩ := L2.out
  go_wp2_with fail
  refine (isMs_yes r2 q2 A2 n2 c2 ys _ (H2.out.into HB1.out) m2 HP2.out).mono ?_
  rintro e w2 ⟨rfl, hb⟩
  have s2 : w1.heap.size ≤ w2.heap.size := hb.size
  clear k0 k1 k2 l0 l1 l2
  have K1 := Lib.hid (L1.out.below hb (by omega))
  have K2 := Lib.hid (L2.out.below hb (by omega))
  have K3 := Lib.hid (L3.out.below hb (by omega))
  have F3 := Lib.hid (G3.out.below hb (by omega))
  have HB2 := Lib.hid (HB1.out.trans (hb.mono (by omega)))
  clear hb L1 L2 L3 G3 HB1
  obtain ⟨k0, k1, k2⟩ := K1.out
  obtain ⟨l0, l1, l2⟩ := K2.out
  obtain ⟨n0, n1', n2'⟩ := K3.out
  have f0 := F3.out
  unfold Free at f0
  go_wp2
  refine bodyPost_ret (v := .tuple #[.agg #[.int .i64 0, .int .i64 0, .slice none 0 0], .int .i64 2]) (by simp [results, Try.results27, n0, n1', n2', go_sem]) rfl ⟨none, 0, rfl, Own.none_ _ _ _, ?_⟩
  exact ((HB2.out.setCell (by simp <;> omega) _).setCell (by simp <;> omega) _).setCell (by simp <;> omega) _

set_option maxHeartbeats 4000000 in
theorem mul_spec_yes (R K C : Nat) (A1 A2 : Option Addr) (n1 c1 n2 c2 : Nat) (zs ys : List Int) (w : World) (h1 : Ints w w.heap.size A1 n1 zs) (h2 : Ints w w.heap.size A2 n2 ys)
    (m1 : n1 ≤ 1048576) (m2 : n2 ≤ 1048576) (hR : R ≤ 48) (hK : K ≤ 48) (hC : C ≤ 48) (P1 : MOk R K zs) (P2 : MOk K C ys) :
    Calls Try.prog 27 #[.agg #[.int .i64 R, .int .i64 K, .slice A1 n1 c1], .agg #[.int .i64 K, .int .i64 C, .slice A2 n2 c2]] w (MulSays w R K C zs ys) := by
  have HP1 := Lib.hid P1
  have HP2 := Lib.hid P2
  clear P1 P2
  have H1 := Lib.hid h1
  have H2 := Lib.hid h2
  have K1 := Lib.hid (((Box3.new w 27 (.int .i64 R) (.int .i64 K) (.slice A1 n1 c1)).below (al1 _ (Obj.cells #[.int .i64 K, .int .i64 C, .slice A2 n2 c2] 27)) (by simp)).below (al1 ((w.alloc (Obj.cells #[.int .i64 R, .int .i64 K, .slice A1 n1 c1] 27)).alloc (Obj.cells #[.int .i64 K, .int .i64 C, .slice A2 n2 c2] 27)) (Obj.cells #[.int .i64 0, .int .i64 0, .slice none 0 0] 27)) (by simp <;> omega))
  have K2 := Lib.hid ((Box3.new (w.alloc (Obj.cells #[.int .i64 R, .int .i64 K, .slice A1 n1 c1] 27)) 27 (.int .i64 K) (.int .i64 C) (.slice A2 n2 c2)).below (al1 ((w.alloc (Obj.cells #[.int .i64 R, .int .i64 K, .slice A1 n1 c1] 27)).alloc (Obj.cells #[.int .i64 K, .int .i64 C, .slice A2 n2 c2] 27)) (Obj.cells #[.int .i64 0, .int .i64 0, .slice none 0 0] 27)) (by simp))
  have K3 := Lib.hid (Box3.new ((w.alloc (Obj.cells #[.int .i64 R, .int .i64 K, .slice A1 n1 c1] 27)).alloc (Obj.cells #[.int .i64 K, .int .i64 C, .slice A2 n2 c2] 27)) 27 (.int .i64 0) (.int .i64 0) (.slice none 0 0))
  have F3 := Lib.hid (Free.new ((w.alloc (Obj.cells #[.int .i64 R, .int .i64 K, .slice A1 n1 c1] 27)).alloc (Obj.cells #[.int .i64 K, .int .i64 C, .slice A2 n2 c2] 27)) 27 #[.int .i64 0, .int .i64 0, .slice none 0 0])
  simp only [World.size_alloc] at K2 K3 F3
  clear h1 h2
  go_enter Try.func27, Try.ntmps27
  go_wp2_with fail
  refine (isMs_yes R K A1 n1 c1 zs _ (H1.out.into (al3 _ _ _ _)) m1 HP1.out).mono ?_
  rintro e w1 ⟨rfl, hb⟩
  have s1 : w.heap.size + 1 + 1 < w1.heap.size := by have := hb.size; simp at this; omega
  have s1' : w.heap.size + 1 < w1.heap.size := by omega
  have L1 := Lib.hid (K1.out.below hb (by simp <;> omega))
  have L2 := Lib.hid (K2.out.below hb (by simp <;> omega))
  have L3 := Lib.hid (K3.out.below hb (by simp <;> omega))
  have G3 := Lib.hid (F3.out.below hb (by simp <;> omega))
  have HB1 := Lib.hid (on3 _ _ _ hb)
  clear hb K1 K2 K3 F3
  obtain ⟨k0, k1, k2⟩ := L1.out
  obtain ⟨l0, l1, l2⟩ := L2.out
  go_wp2_with fail
  refine (isMs_yes K C A2 n2 c2 ys _ (H2.out.into HB1.out) m2 HP2.out).mono ?_
  rintro e w2 ⟨rfl, hb⟩
  have s2 : w1.heap.size ≤ w2.heap.size := hb.size
  clear k0 k1 k2 l0 l1 l2
  have K1 := Lib.hid (L1.out.below hb (by omega))
  have K2 := Lib.hid (L2.out.below hb (by omega))
  have K3 := Lib.hid (L3.out.below hb (by omega))
  have F3 := Lib.hid (G3.out.below hb (by omega))
  have HB2 := Lib.hid (HB1.out.trans (hb.mono (by omega)))
  clear hb L1 L2 L3 G3 HB1
  obtain ⟨k0, k1, k2⟩ := K1.out
  obtain ⟨l0, l1, l2⟩ := K2.out
  go_wp2_with fail
  refine (lmul_spec R K C A1 A2 n1 c1 n2 c2 zs ys _ (H1.out.into HB2.out) (H2.out.into HB2.out) hR hK hC HP1.out HP2.out).mono ?_
  intro e w3 hsay
  clear k0 k1 k2 l0 l1 l2
  by_cases hf : Fits K C zs ys (R * C)
  case' pos => obtain ⟨A3, c3, rfl, hown, hb⟩ := hsay.1 hf
  case' neg => obtain ⟨A3, c3, rfl, hown, hb⟩ := hsay.2 hf
  all_goals
    have HF := Lib.hid hf
    have s3 : w2.heap.size ≤ w3.heap.size := hb.size
    have s3' : w.heap.size + 1 + 1 < w3.heap.size := by omega
    obtain ⟨n0, n1', n2'⟩ := K3.out.below hb (by omega)
    have f0 := F3.out.below hb (by omega)
    have HO := Lib.hid hown
    have HB3 := Lib.hid (HB2.out.trans (hb.mono (by omega)))
    clear hf hsay hown hb
    unfold Free at f0
    go_wp2
  · refine bodyPost_ret (v := .tuple #[.agg #[.int .i64 0, .int .i64 0, .slice none 0 0], .int .i64 3]) (by simp [results, Try.results27, n0, n1', n2', s3', go_sem]) rfl ⟨fun h => absurd h HF.out, fun _ => ⟨none, 0, rfl, Own.none_ _ _ _, ?_⟩⟩
    exact ((((HB3.out.setCell (by dsimp only; omega) _).setCell (by dsimp only; omega) _).setCell (by dsimp only; omega) _).alloc (by simp [World.setCell]; omega) _)
  · refine bodyPost_ret (v := .tuple #[.agg #[.int .i64 R, .int .i64 C, .slice A3 (pl K C zs ys (R * C) (R * C)).length c3], .int .i64 0]) (by simp [results, Try.results27, n0, n1', n2', s3', go_sem]) rfl ⟨fun _ => ⟨A3, c3, rfl, ?_, ?_⟩, fun h => absurd HF.out h⟩
    · refine (((((HO.out.far (p := ⟨w.heap.size + 1 + 1, 0, none⟩) (by dsimp only; omega) _).far (p := ⟨w.heap.size + 1 + 1, 1, none⟩) (by dsimp only; omega) _).far (p := ⟨w.heap.size + 1 + 1, 2, none⟩) (by dsimp only; omega) _)).al (by simp [World.setCell]) (al1 _ _)).wide (by omega) ?_
      simp [World.setCell]
    · exact ((((HB3.out.setCell (by dsimp only; omega) _).setCell (by dsimp only; omega) _).setCell (by dsimp only; omega) _).alloc (by simp [World.setCell]; omega) _)

end Go.Proofs.Ytdbljeglnhefmaa
