/- The specification's HomologyOf. No condition but those that each theorem names. -/
import Derived.Test.YtdbljeglnhefmaaHomA
import Derived.Test.YtdbljeglnhefmaaCokA
import Derived.Test.YtdbljeglnhefmaaInvD
namespace Go.Proofs.Ytdbljeglnhefmaa
open Go.RowKit

theorem rep_getD (n i : Nat) : (List.replicate n (0 : Int)).getD i 0 = 0 := by
  rw [List.getD_eq_getElem?_getD, List.getElem?_replicate]
  split <;> rfl

set_option maxRecDepth 100000 in
set_option maxHeartbeats 8000000 in
theorem hom_spec_badA (r1 q1 r2 q2 : Int) (A1 A2 : Option Addr) (n1 c1 n2 c2 : Nat) (w : World) (zs ys : List Int)
    (h1 : Ints w w.heap.size A1 n1 zs) (h2 : Ints w w.heap.size A2 n2 ys) (m1 : n1 ≤ 1048576) (m2 : n2 ≤ 1048576) (P1 : ¬ MOk r1 q1 zs) :
    Calls Try.prog 48 #[.agg #[.int .i64 r1, .int .i64 q1, .slice A1 n1 c1], .agg #[.int .i64 r2, .int .i64 q2, .slice A2 n2 c2]] w (ResGC w 0 [] 1) := by
  have H1 := Lib.hid h1
  have H2 := Lib.hid h2
  have HP1 := Lib.hid P1
  clear h1 h2 P1
  have Ka0 := Lib.hid (((Box3.new w 27 (.int .i64 r1) (.int .i64 q1) (.slice A1 n1 c1)).below (al1 _ (Obj.cells #[.int .i64 r2, .int .i64 q2, .slice A2 n2 c2] 27)) (by simp)).below (al1 ((w.alloc (Obj.cells #[.int .i64 r1, .int .i64 q1, .slice A1 n1 c1] 27)).alloc (Obj.cells #[.int .i64 r2, .int .i64 q2, .slice A2 n2 c2] 27)) (Obj.cells #[.int .i64 0, .slice none 0 0] 54)) (by simp; omega))
  have Kb0 := Lib.hid ((Box3.new (w.alloc (Obj.cells #[.int .i64 r1, .int .i64 q1, .slice A1 n1 c1] 27)) 27 (.int .i64 r2) (.int .i64 q2) (.slice A2 n2 c2)).below (al1 ((w.alloc (Obj.cells #[.int .i64 r1, .int .i64 q1, .slice A1 n1 c1] 27)).alloc (Obj.cells #[.int .i64 r2, .int .i64 q2, .slice A2 n2 c2] 27)) (Obj.cells #[.int .i64 0, .slice none 0 0] 54)) (by simp))
  have T0 := Lib.hid (BoxG.new ((w.alloc (Obj.cells #[.int .i64 r1, .int .i64 q1, .slice A1 n1 c1] 27)).alloc (Obj.cells #[.int .i64 r2, .int .i64 q2, .slice A2 n2 c2] 27)) 54 (.int .i64 0) (.slice none 0 0))
  have F0 := Lib.hid (Free.new ((w.alloc (Obj.cells #[.int .i64 r1, .int .i64 q1, .slice A1 n1 c1] 27)).alloc (Obj.cells #[.int .i64 r2, .int .i64 q2, .slice A2 n2 c2] 27)) 54 #[.int .i64 0, .slice none 0 0])
  simp only [World.size_alloc] at Kb0 T0 F0
  have HB0 := Lib.hid (al3 w (Obj.cells #[.int .i64 r1, .int .i64 q1, .slice A1 n1 c1] 27) (Obj.cells #[.int .i64 r2, .int .i64 q2, .slice A2 n2 c2] 27) (Obj.cells #[.int .i64 0, .slice none 0 0] 54))
  go_enter Try.func48, Try.ntmps48
  go_wp2_with fail
  refine (isMs_no r1 q1 A1 n1 c1 zs _ (H1.out.into (al3 _ _ _ _)) m1 HP1.out).mono ?_
  rintro e w1 ⟨rfl, hb⟩
  have s1 : w.heap.size + 1 + 1 < w1.heap.size := by have := hb.size; simp at this; omega
  have Ka1 := Lib.hid (Ka0.out.below hb (by simp <;> omega))
  have Kb1 := Lib.hid (Kb0.out.below hb (by simp <;> omega))
  have T1 := Lib.hid (T0.out.below hb (by simp <;> omega))
  have F1 := Lib.hid (F0.out.below hb (by simp <;> omega))
  have HB1 := Lib.hid (on3 _ _ _ hb)
  clear hb Ka0 Kb0 T0 F0 HB0
  obtain ⟨n0, n1'⟩ := T1.out
  have f0 := F1.out
  unfold Free at f0
  go_wp2
  refine bodyPost_ret (v := .tuple #[.agg #[.int .i64 0, .slice none 0 0], .int .i64 1]) (by simp [results, Try.results48, n0, n1', s1, go_sem]) rfl ⟨none, 0, rfl, Own.none_ _ _ _, ?_⟩
  exact (HB1.out.setCell (by dsimp only; omega) _).setCell (by dsimp only; omega) _

set_option maxRecDepth 100000 in
set_option maxHeartbeats 8000000 in
theorem hom_spec_badB (r1 q1 r2 q2 : Int) (A1 A2 : Option Addr) (n1 c1 n2 c2 : Nat) (w : World) (zs ys : List Int)
    (h1 : Ints w w.heap.size A1 n1 zs) (h2 : Ints w w.heap.size A2 n2 ys) (m1 : n1 ≤ 1048576) (m2 : n2 ≤ 1048576) (P1 : MOk r1 q1 zs) (P2 : ¬ MOk r2 q2 ys) :
    Calls Try.prog 48 #[.agg #[.int .i64 r1, .int .i64 q1, .slice A1 n1 c1], .agg #[.int .i64 r2, .int .i64 q2, .slice A2 n2 c2]] w (ResGC w 0 [] 1) := by
  have H1 := Lib.hid h1
  have H2 := Lib.hid h2
  have HP1 := Lib.hid P1
  clear h1 h2 P1
  have HP2 := Lib.hid P2
  clear P2
  have Ka0 := Lib.hid (((Box3.new w 27 (.int .i64 r1) (.int .i64 q1) (.slice A1 n1 c1)).below (al1 _ (Obj.cells #[.int .i64 r2, .int .i64 q2, .slice A2 n2 c2] 27)) (by simp)).below (al1 ((w.alloc (Obj.cells #[.int .i64 r1, .int .i64 q1, .slice A1 n1 c1] 27)).alloc (Obj.cells #[.int .i64 r2, .int .i64 q2, .slice A2 n2 c2] 27)) (Obj.cells #[.int .i64 0, .slice none 0 0] 54)) (by simp; omega))
  have Kb0 := Lib.hid ((Box3.new (w.alloc (Obj.cells #[.int .i64 r1, .int .i64 q1, .slice A1 n1 c1] 27)) 27 (.int .i64 r2) (.int .i64 q2) (.slice A2 n2 c2)).below (al1 ((w.alloc (Obj.cells #[.int .i64 r1, .int .i64 q1, .slice A1 n1 c1] 27)).alloc (Obj.cells #[.int .i64 r2, .int .i64 q2, .slice A2 n2 c2] 27)) (Obj.cells #[.int .i64 0, .slice none 0 0] 54)) (by simp))
  have T0 := Lib.hid (BoxG.new ((w.alloc (Obj.cells #[.int .i64 r1, .int .i64 q1, .slice A1 n1 c1] 27)).alloc (Obj.cells #[.int .i64 r2, .int .i64 q2, .slice A2 n2 c2] 27)) 54 (.int .i64 0) (.slice none 0 0))
  have F0 := Lib.hid (Free.new ((w.alloc (Obj.cells #[.int .i64 r1, .int .i64 q1, .slice A1 n1 c1] 27)).alloc (Obj.cells #[.int .i64 r2, .int .i64 q2, .slice A2 n2 c2] 27)) 54 #[.int .i64 0, .slice none 0 0])
  simp only [World.size_alloc] at Kb0 T0 F0
  have HB0 := Lib.hid (al3 w (Obj.cells #[.int .i64 r1, .int .i64 q1, .slice A1 n1 c1] 27) (Obj.cells #[.int .i64 r2, .int .i64 q2, .slice A2 n2 c2] 27) (Obj.cells #[.int .i64 0, .slice none 0 0] 54))
  go_enter Try.func48, Try.ntmps48
  go_wp2_with fail
  refine (isMs_yes r1 q1 A1 n1 c1 zs _ (H1.out.into (al3 _ _ _ _)) m1 HP1.out).mono ?_
  rintro e w1 ⟨rfl, hb⟩
  have s1 : w.heap.size + 1 + 1 < w1.heap.size := by have := hb.size; simp at this; omega
  have Ka1 := Lib.hid (Ka0.out.below hb (by simp <;> omega))
  have Kb1 := Lib.hid (Kb0.out.below hb (by simp <;> omega))
  have T1 := Lib.hid (T0.out.below hb (by simp <;> omega))
  have F1 := Lib.hid (F0.out.below hb (by simp <;> omega))
  have HB1 := Lib.hid (on3 _ _ _ hb)
  clear hb Ka0 Kb0 T0 F0 HB0
  obtain ⟨k0, k1, k2⟩ := Ka1.out
  obtain ⟨l0, l1, l2⟩ := Kb1.out
  go_wp2_with fail
  refine (isMs_no r2 q2 A2 n2 c2 ys _ (H2.out.into HB1.out) m2 HP2.out).mono ?_
  rintro e w2 ⟨rfl, hb⟩
  clear k0 k1 k2 l0 l1 l2
  have hbx := hb
  have s2 : w.heap.size + 1 + 1 < w2.heap.size := by have := hbx.size; omega
  have Ka2 := Lib.hid (Ka1.out.below hbx (by omega))
  have Kb2 := Lib.hid (Kb1.out.below hbx (by omega))
  have T2 := Lib.hid (T1.out.below hbx (by omega))
  have F2 := Lib.hid (F1.out.below hbx (by omega))
  have HB2 := Lib.hid (HB1.out.trans (hbx.mono (by omega)))
  have u2 := hbx.size
  clear hbx
  clear hb Ka1 Kb1 T1 F1 HB1
  obtain ⟨n0, n1'⟩ := T2.out
  have f0 := F2.out
  unfold Free at f0
  go_wp2
  refine bodyPost_ret (v := .tuple #[.agg #[.int .i64 0, .slice none 0 0], .int .i64 1]) (by simp [results, Try.results48, n0, n1', s2, go_sem]) rfl ⟨none, 0, rfl, Own.none_ _ _ _, ?_⟩
  exact (HB2.out.setCell (by dsimp only; omega) _).setCell (by dsimp only; omega) _

set_option maxRecDepth 100000 in
set_option maxHeartbeats 8000000 in
theorem hom_spec_unfit (r1 q1 r2 q2 : Int) (A1 A2 : Option Addr) (n1 c1 n2 c2 : Nat) (w : World) (zs ys : List Int)
    (h1 : Ints w w.heap.size A1 n1 zs) (h2 : Ints w w.heap.size A2 n2 ys) (m1 : n1 ≤ 1048576) (m2 : n2 ≤ 1048576) (P1 : MOk r1 q1 zs) (P2 : MOk r2 q2 ys) (hne : q2 ≠ r1) :
    Calls Try.prog 48 #[.agg #[.int .i64 r1, .int .i64 q1, .slice A1 n1 c1], .agg #[.int .i64 r2, .int .i64 q2, .slice A2 n2 c2]] w (ResGC w 0 [] 2) := by
  have H1 := Lib.hid h1
  have H2 := Lib.hid h2
  have HP1 := Lib.hid P1
  clear h1 h2 P1
  have HP2 := Lib.hid P2
  clear P2
  have t2 : (q2 != r1) = true := by simpa using hne
  clear hne
  have Ka0 := Lib.hid (((Box3.new w 27 (.int .i64 r1) (.int .i64 q1) (.slice A1 n1 c1)).below (al1 _ (Obj.cells #[.int .i64 r2, .int .i64 q2, .slice A2 n2 c2] 27)) (by simp)).below (al1 ((w.alloc (Obj.cells #[.int .i64 r1, .int .i64 q1, .slice A1 n1 c1] 27)).alloc (Obj.cells #[.int .i64 r2, .int .i64 q2, .slice A2 n2 c2] 27)) (Obj.cells #[.int .i64 0, .slice none 0 0] 54)) (by simp; omega))
  have Kb0 := Lib.hid ((Box3.new (w.alloc (Obj.cells #[.int .i64 r1, .int .i64 q1, .slice A1 n1 c1] 27)) 27 (.int .i64 r2) (.int .i64 q2) (.slice A2 n2 c2)).below (al1 ((w.alloc (Obj.cells #[.int .i64 r1, .int .i64 q1, .slice A1 n1 c1] 27)).alloc (Obj.cells #[.int .i64 r2, .int .i64 q2, .slice A2 n2 c2] 27)) (Obj.cells #[.int .i64 0, .slice none 0 0] 54)) (by simp))
  have T0 := Lib.hid (BoxG.new ((w.alloc (Obj.cells #[.int .i64 r1, .int .i64 q1, .slice A1 n1 c1] 27)).alloc (Obj.cells #[.int .i64 r2, .int .i64 q2, .slice A2 n2 c2] 27)) 54 (.int .i64 0) (.slice none 0 0))
  have F0 := Lib.hid (Free.new ((w.alloc (Obj.cells #[.int .i64 r1, .int .i64 q1, .slice A1 n1 c1] 27)).alloc (Obj.cells #[.int .i64 r2, .int .i64 q2, .slice A2 n2 c2] 27)) 54 #[.int .i64 0, .slice none 0 0])
  simp only [World.size_alloc] at Kb0 T0 F0
  have HB0 := Lib.hid (al3 w (Obj.cells #[.int .i64 r1, .int .i64 q1, .slice A1 n1 c1] 27) (Obj.cells #[.int .i64 r2, .int .i64 q2, .slice A2 n2 c2] 27) (Obj.cells #[.int .i64 0, .slice none 0 0] 54))
  go_enter Try.func48, Try.ntmps48
  go_wp2_with fail
  refine (isMs_yes r1 q1 A1 n1 c1 zs _ (H1.out.into (al3 _ _ _ _)) m1 HP1.out).mono ?_
  rintro e w1 ⟨rfl, hb⟩
  have s1 : w.heap.size + 1 + 1 < w1.heap.size := by have := hb.size; simp at this; omega
  have Ka1 := Lib.hid (Ka0.out.below hb (by simp <;> omega))
  have Kb1 := Lib.hid (Kb0.out.below hb (by simp <;> omega))
  have T1 := Lib.hid (T0.out.below hb (by simp <;> omega))
  have F1 := Lib.hid (F0.out.below hb (by simp <;> omega))
  have HB1 := Lib.hid (on3 _ _ _ hb)
  clear hb Ka0 Kb0 T0 F0 HB0
  obtain ⟨k0, k1, k2⟩ := Ka1.out
  obtain ⟨l0, l1, l2⟩ := Kb1.out
  go_wp2_with fail
  refine (isMs_yes r2 q2 A2 n2 c2 ys _ (H2.out.into HB1.out) m2 HP2.out).mono ?_
  rintro e w2 ⟨rfl, hb⟩
  clear k0 k1 k2 l0 l1 l2
  have hbx := hb
  have s2 : w.heap.size + 1 + 1 < w2.heap.size := by have := hbx.size; omega
  have Ka2 := Lib.hid (Ka1.out.below hbx (by omega))
  have Kb2 := Lib.hid (Kb1.out.below hbx (by omega))
  have T2 := Lib.hid (T1.out.below hbx (by omega))
  have F2 := Lib.hid (F1.out.below hbx (by omega))
  have HB2 := Lib.hid (HB1.out.trans (hbx.mono (by omega)))
  have u2 := hbx.size
  clear hbx
  clear hb Ka1 Kb1 T1 F1 HB1
  obtain ⟨k0, k1, k2⟩ := Ka2.out
  obtain ⟨l0, l1, l2⟩ := Kb2.out
  obtain ⟨n0, n1'⟩ := T2.out
  have f0 := F2.out
  unfold Free at f0
  go_wp2
  refine bodyPost_ret (v := .tuple #[.agg #[.int .i64 0, .slice none 0 0], .int .i64 2]) (by simp [results, Try.results48, n0, n1', s2, go_sem]) rfl ⟨none, 0, rfl, Own.none_ _ _ _, ?_⟩
  exact (HB2.out.setCell (by dsimp only; omega) _).setCell (by dsimp only; omega) _

set_option maxRecDepth 100000 in
set_option maxHeartbeats 8000000 in
theorem hom_spec_large (R1 C1 R2 : Nat) (A1 A2 : Option Addr) (n1 c1 n2 c2 : Nat) (w : World) (zs ys : List Int)
    (h1 : Ints w w.heap.size A1 n1 zs) (h2 : Ints w w.heap.size A2 n2 ys) (m1 : n1 ≤ 1048576) (m2 : n2 ≤ 1048576) (hR1 : R1 ≤ 48) (hC1 : C1 ≤ 48) (hR2 : R2 ≤ 48) (P1 : MOk R1 C1 zs) (P2 : MOk R2 R1 ys) (hf : ¬ Fits R1 C1 ys zs (R2 * C1)) :
    Calls Try.prog 48 #[.agg #[.int .i64 R1, .int .i64 C1, .slice A1 n1 c1], .agg #[.int .i64 R2, .int .i64 R1, .slice A2 n2 c2]] w (ResGC w 0 [] 3) := by
  have H1 := Lib.hid h1
  have H2 := Lib.hid h2
  have HP1 := Lib.hid P1
  clear h1 h2 P1
  have HP2 := Lib.hid P2
  clear P2
  have pz := rc_le hR2 hC1
  have HF := Lib.hid hf
  clear hf
  have Ka0 := Lib.hid (((Box3.new w 27 (.int .i64 R1) (.int .i64 C1) (.slice A1 n1 c1)).below (al1 _ (Obj.cells #[.int .i64 R2, .int .i64 R1, .slice A2 n2 c2] 27)) (by simp)).below (al1 ((w.alloc (Obj.cells #[.int .i64 R1, .int .i64 C1, .slice A1 n1 c1] 27)).alloc (Obj.cells #[.int .i64 R2, .int .i64 R1, .slice A2 n2 c2] 27)) (Obj.cells #[.int .i64 0, .slice none 0 0] 54)) (by simp; omega))
  have Kb0 := Lib.hid ((Box3.new (w.alloc (Obj.cells #[.int .i64 R1, .int .i64 C1, .slice A1 n1 c1] 27)) 27 (.int .i64 R2) (.int .i64 R1) (.slice A2 n2 c2)).below (al1 ((w.alloc (Obj.cells #[.int .i64 R1, .int .i64 C1, .slice A1 n1 c1] 27)).alloc (Obj.cells #[.int .i64 R2, .int .i64 R1, .slice A2 n2 c2] 27)) (Obj.cells #[.int .i64 0, .slice none 0 0] 54)) (by simp))
  have T0 := Lib.hid (BoxG.new ((w.alloc (Obj.cells #[.int .i64 R1, .int .i64 C1, .slice A1 n1 c1] 27)).alloc (Obj.cells #[.int .i64 R2, .int .i64 R1, .slice A2 n2 c2] 27)) 54 (.int .i64 0) (.slice none 0 0))
  have F0 := Lib.hid (Free.new ((w.alloc (Obj.cells #[.int .i64 R1, .int .i64 C1, .slice A1 n1 c1] 27)).alloc (Obj.cells #[.int .i64 R2, .int .i64 R1, .slice A2 n2 c2] 27)) 54 #[.int .i64 0, .slice none 0 0])
  simp only [World.size_alloc] at Kb0 T0 F0
  have HB0 := Lib.hid (al3 w (Obj.cells #[.int .i64 R1, .int .i64 C1, .slice A1 n1 c1] 27) (Obj.cells #[.int .i64 R2, .int .i64 R1, .slice A2 n2 c2] 27) (Obj.cells #[.int .i64 0, .slice none 0 0] 54))
  go_enter Try.func48, Try.ntmps48
  go_wp2_with fail
  refine (isMs_yes R1 C1 A1 n1 c1 zs _ (H1.out.into (al3 _ _ _ _)) m1 HP1.out).mono ?_
  rintro e w1 ⟨rfl, hb⟩
  have s1 : w.heap.size + 1 + 1 < w1.heap.size := by have := hb.size; simp at this; omega
  have Ka1 := Lib.hid (Ka0.out.below hb (by simp <;> omega))
  have Kb1 := Lib.hid (Kb0.out.below hb (by simp <;> omega))
  have T1 := Lib.hid (T0.out.below hb (by simp <;> omega))
  have F1 := Lib.hid (F0.out.below hb (by simp <;> omega))
  have HB1 := Lib.hid (on3 _ _ _ hb)
  clear hb Ka0 Kb0 T0 F0 HB0
  obtain ⟨k0, k1, k2⟩ := Ka1.out
  obtain ⟨l0, l1, l2⟩ := Kb1.out
  go_wp2_with fail
  refine (isMs_yes R2 R1 A2 n2 c2 ys _ (H2.out.into HB1.out) m2 HP2.out).mono ?_
  rintro e w2 ⟨rfl, hb⟩
  clear k0 k1 k2 l0 l1 l2
  have hbx := hb
  have s2 : w.heap.size + 1 + 1 < w2.heap.size := by have := hbx.size; omega
  have Ka2 := Lib.hid (Ka1.out.below hbx (by omega))
  have Kb2 := Lib.hid (Kb1.out.below hbx (by omega))
  have T2 := Lib.hid (T1.out.below hbx (by omega))
  have F2 := Lib.hid (F1.out.below hbx (by omega))
  have HB2 := Lib.hid (HB1.out.trans (hbx.mono (by omega)))
  have u2 := hbx.size
  clear hbx
  clear hb Ka1 Kb1 T1 F1 HB1
  obtain ⟨k0, k1, k2⟩ := Ka2.out
  obtain ⟨l0, l1, l2⟩ := Kb2.out
  go_wp2_with fail
  refine (lmul_spec R2 R1 C1 A2 A1 n2 c2 n1 c1 ys zs _ (H2.out.into HB2.out) (H1.out.into HB2.out) hR2 hR1 hC1 HP2.out HP1.out).mono ?_
  intro e w3 hsay
  clear k0 k1 k2 l0 l1 l2
  obtain ⟨A3, c3, rfl, _, hb⟩ := hsay.2 HF.out
  clear hsay
  have hbx := hb
  have s3 : w.heap.size + 1 + 1 < w3.heap.size := by have := hbx.size; omega
  have Ka3 := Lib.hid (Ka2.out.below hbx (by omega))
  have Kb3 := Lib.hid (Kb2.out.below hbx (by omega))
  have T3 := Lib.hid (T2.out.below hbx (by omega))
  have F3 := Lib.hid (F2.out.below hbx (by omega))
  have HB3 := Lib.hid (HB2.out.trans (hbx.mono (by omega)))
  have u3 := hbx.size
  clear hbx
  clear hb Ka2 Kb2 T2 F2 HB2
  obtain ⟨n0, n1'⟩ := T3.out
  have f0 := F3.out
  unfold Free at f0
  go_wp2
  refine bodyPost_ret (v := .tuple #[.agg #[.int .i64 0, .slice none 0 0], .int .i64 3]) (by simp [results, Try.results48, n0, n1', s3, go_sem]) rfl ⟨none, 0, rfl, Own.none_ _ _ _, ?_⟩
  first
    | exact ((HB3.out.setCell (by dsimp only; omega) _).setCell (by dsimp only; omega) _).alloc (by simp [World.setCell]; omega) _
    | exact ((HB3.out.alloc (by omega) _).setCell (by dsimp only; omega) _).setCell (by dsimp only; omega) _
    | exact (((HB3.out.setCell (by dsimp only; omega) _).setCell (by dsimp only; omega) _).alloc (by simp [World.setCell]; omega) _).alloc (by simp [World.setCell]; omega) _

set_option maxRecDepth 100000 in
set_option maxHeartbeats 8000000 in
theorem hom_spec_state (R1 C1 R2 : Nat) (A1 A2 : Option Addr) (n1 c1 n2 c2 : Nat) (w : World) (zs ys : List Int)
    (h1 : Ints w w.heap.size A1 n1 zs) (h2 : Ints w w.heap.size A2 n2 ys) (m1 : n1 ≤ 1048576) (m2 : n2 ≤ 1048576) (hR1 : R1 ≤ 48) (hC1 : C1 ≤ 48) (hR2 : R2 ≤ 48) (P1 : MOk R1 C1 zs) (P2 : MOk R2 R1 ys) (hf : Fits R1 C1 ys zs (R2 * C1))
    (hzero : ¬ ∀ i, i < (pl R1 C1 ys zs (R2 * C1) (R2 * C1)).length → (pl R1 C1 ys zs (R2 * C1) (R2 * C1)).getD i 0 = 0) :
    Calls Try.prog 48 #[.agg #[.int .i64 R1, .int .i64 C1, .slice A1 n1 c1], .agg #[.int .i64 R2, .int .i64 R1, .slice A2 n2 c2]] w (ResGC w 0 [] 5) := by
  have H1 := Lib.hid h1
  have H2 := Lib.hid h2
  have HP1 := Lib.hid P1
  clear h1 h2 P1
  have HP2 := Lib.hid P2
  clear P2
  have pz := rc_le hR2 hC1
  have HF := Lib.hid hf
  clear hf
  have HZ := Lib.hid hzero
  clear hzero
  have Ka0 := Lib.hid (((Box3.new w 27 (.int .i64 R1) (.int .i64 C1) (.slice A1 n1 c1)).below (al1 _ (Obj.cells #[.int .i64 R2, .int .i64 R1, .slice A2 n2 c2] 27)) (by simp)).below (al1 ((w.alloc (Obj.cells #[.int .i64 R1, .int .i64 C1, .slice A1 n1 c1] 27)).alloc (Obj.cells #[.int .i64 R2, .int .i64 R1, .slice A2 n2 c2] 27)) (Obj.cells #[.int .i64 0, .slice none 0 0] 54)) (by simp; omega))
  have Kb0 := Lib.hid ((Box3.new (w.alloc (Obj.cells #[.int .i64 R1, .int .i64 C1, .slice A1 n1 c1] 27)) 27 (.int .i64 R2) (.int .i64 R1) (.slice A2 n2 c2)).below (al1 ((w.alloc (Obj.cells #[.int .i64 R1, .int .i64 C1, .slice A1 n1 c1] 27)).alloc (Obj.cells #[.int .i64 R2, .int .i64 R1, .slice A2 n2 c2] 27)) (Obj.cells #[.int .i64 0, .slice none 0 0] 54)) (by simp))
  have T0 := Lib.hid (BoxG.new ((w.alloc (Obj.cells #[.int .i64 R1, .int .i64 C1, .slice A1 n1 c1] 27)).alloc (Obj.cells #[.int .i64 R2, .int .i64 R1, .slice A2 n2 c2] 27)) 54 (.int .i64 0) (.slice none 0 0))
  have F0 := Lib.hid (Free.new ((w.alloc (Obj.cells #[.int .i64 R1, .int .i64 C1, .slice A1 n1 c1] 27)).alloc (Obj.cells #[.int .i64 R2, .int .i64 R1, .slice A2 n2 c2] 27)) 54 #[.int .i64 0, .slice none 0 0])
  simp only [World.size_alloc] at Kb0 T0 F0
  have HB0 := Lib.hid (al3 w (Obj.cells #[.int .i64 R1, .int .i64 C1, .slice A1 n1 c1] 27) (Obj.cells #[.int .i64 R2, .int .i64 R1, .slice A2 n2 c2] 27) (Obj.cells #[.int .i64 0, .slice none 0 0] 54))
  go_enter Try.func48, Try.ntmps48
  go_wp2_with fail
  refine (isMs_yes R1 C1 A1 n1 c1 zs _ (H1.out.into (al3 _ _ _ _)) m1 HP1.out).mono ?_
  rintro e w1 ⟨rfl, hb⟩
  have s1 : w.heap.size + 1 + 1 < w1.heap.size := by have := hb.size; simp at this; omega
  have Ka1 := Lib.hid (Ka0.out.below hb (by simp <;> omega))
  have Kb1 := Lib.hid (Kb0.out.below hb (by simp <;> omega))
  have T1 := Lib.hid (T0.out.below hb (by simp <;> omega))
  have F1 := Lib.hid (F0.out.below hb (by simp <;> omega))
  have HB1 := Lib.hid (on3 _ _ _ hb)
  clear hb Ka0 Kb0 T0 F0 HB0
  obtain ⟨k0, k1, k2⟩ := Ka1.out
  obtain ⟨l0, l1, l2⟩ := Kb1.out
  go_wp2_with fail
  refine (isMs_yes R2 R1 A2 n2 c2 ys _ (H2.out.into HB1.out) m2 HP2.out).mono ?_
  rintro e w2 ⟨rfl, hb⟩
  clear k0 k1 k2 l0 l1 l2
  have hbx := hb
  have s2 : w.heap.size + 1 + 1 < w2.heap.size := by have := hbx.size; omega
  have Ka2 := Lib.hid (Ka1.out.below hbx (by omega))
  have Kb2 := Lib.hid (Kb1.out.below hbx (by omega))
  have T2 := Lib.hid (T1.out.below hbx (by omega))
  have F2 := Lib.hid (F1.out.below hbx (by omega))
  have HB2 := Lib.hid (HB1.out.trans (hbx.mono (by omega)))
  have u2 := hbx.size
  clear hbx
  clear hb Ka1 Kb1 T1 F1 HB1
  obtain ⟨k0, k1, k2⟩ := Ka2.out
  obtain ⟨l0, l1, l2⟩ := Kb2.out
  go_wp2_with fail
  refine (lmul_spec R2 R1 C1 A2 A1 n2 c2 n1 c1 ys zs _ (H2.out.into HB2.out) (H1.out.into HB2.out) hR2 hR1 hC1 HP2.out HP1.out).mono ?_
  intro e w3 hsay
  clear k0 k1 k2 l0 l1 l2
  obtain ⟨A3, c3, rfl, hown, hb⟩ := hsay.1 HF.out
  have hpl := pl_len R1 C1 ys zs (R2 * C1) (R2 * C1)
  obtain ⟨pp, hpp⟩ : ∃ pp, pl R1 C1 ys zs (R2 * C1) (R2 * C1) = pp := ⟨_, rfl⟩
  rw [hpp] at hown hpl HZ
  rw [hpp]
  have HPL := Lib.hid hpl
  clear hsay hpp hpl
  have O3 := Lib.hid hown
  clear hown
  have hbx := hb
  have s3 : w.heap.size + 1 + 1 < w3.heap.size := by have := hbx.size; omega
  have Ka3 := Lib.hid (Ka2.out.below hbx (by omega))
  have Kb3 := Lib.hid (Kb2.out.below hbx (by omega))
  have T3 := Lib.hid (T2.out.below hbx (by omega))
  have F3 := Lib.hid (F2.out.below hbx (by omega))
  have HB3 := Lib.hid (HB2.out.trans (hbx.mono (by omega)))
  have u3 := hbx.size
  clear hbx
  clear hb Ka2 Kb2 T2 F2 HB2
  have P3 := Lib.hid (Box3.new w3 27 (.int .i64 R2) (.int .i64 C1) (.slice A3 pp.length c3))
  have AL := Lib.hid (al1 w3 (Obj.cells #[.int .i64 R2, .int .i64 C1, .slice A3 pp.length c3] 27))
  have O3' := Lib.hid (O3.out.al (Nat.le_refl _) AL.out)
  have Kx := Lib.hid (Ka3.out.below AL.out (by omega))
  have Ky := Lib.hid (Kb3.out.below AL.out (by omega))
  have Tx := Lib.hid (T3.out.below AL.out (by omega))
  have Fx := Lib.hid (F3.out.below AL.out (by omega))
  have HBx := Lib.hid (HB3.out.trans (AL.out.mono (by omega)))
  have v3a : w.heap.size < w3.heap.size := by omega
  have v3b : w.heap.size + 1 < w3.heap.size := by omega
  obtain ⟨k0, k1, k2⟩ := Ka3.out
  obtain ⟨l0, l1, l2⟩ := Kb3.out
  go_wp2_with fail
  clear k0 k1 k2 l0 l1 l2
  obtain ⟨V, hV⟩ : ∃ V, V = w3.alloc (Obj.cells #[.int .i64 R2, .int .i64 C1, .slice A3 pp.length c3] 27) := ⟨_, rfl⟩
  have v0 : w3.heap.size < V.heap.size := by rw [hV]; simp
  have v1 : w.heap.size + 1 + 1 < V.heap.size := by omega
  rw [← hV] at P3 AL O3' Kx Ky Tx Fx HBx
  rw [← hV]
  clear hV AL
  obtain ⟨k0, k1, k2⟩ := Kx.out
  obtain ⟨l0, l1, l2⟩ := Ky.out
  obtain ⟨m0, m1', m2'⟩ := P3.out
  go_region_held3 (fun W => (W.cell? ⟨w.heap.size, 0, none⟩ = some (.int .i64 R1) ∧ W.cell? ⟨w.heap.size, 1, none⟩ = some (.int .i64 C1) ∧ W.cell? ⟨w.heap.size, 2, none⟩ = some (.slice A1 n1 c1)) ∧ (W.cell? ⟨w.heap.size + 1, 0, none⟩ = some (.int .i64 R2) ∧ W.cell? ⟨w.heap.size + 1, 1, none⟩ = some (.int .i64 R1) ∧ W.cell? ⟨w.heap.size + 1, 2, none⟩ = some (.slice A2 n2 c2)) ∧ (W.cell? ⟨w3.heap.size, 0, none⟩ = some (.int .i64 R2) ∧ W.cell? ⟨w3.heap.size, 1, none⟩ = some (.int .i64 C1) ∧ W.cell? ⟨w3.heap.size, 2, none⟩ = some (.slice A3 pp.length c3))) (go_keep)
    (first
      | (go_at_call 58; (with_reducible refine (zero_spec R2 C1 (R2 * C1) _ (by rw [castM]; omega) (by rw [castM]; omega) (castM _ _)).mono ?_); rintro e w4 ⟨g4, rfl, hblk, hg1, hg2, hb'⟩; have B4 := Lib.hid (undrew hb'); have K4 := Lib.hid hblk; have z4 : V.heap.size ≤ w4.heap.size := B4.out.size; obtain ⟨e0, e1, e2⟩ := Kx.out.below B4.out (by omega); obtain ⟨f0, f1, f2⟩ := Ky.out.below B4.out (by omega); obtain ⟨g0, g1, g2⟩ := P3.out.below B4.out (by omega); clear hblk hg1 hg2 hb')
      | (go_at_call 78; (with_reducible refine (same_spec R2 C1 A3 _ pp.length (R2 * C1) c3 _ pp _ _ HPL.out (by exact ((O3'.out.ints).below (B4.out.mono (by omega))).more (by omega)) (by exact K4.out.ints (by simp)) (by have := HPL.out; omega)).mono ?_); rintro e w5 ⟨bb, rfl, hbb, hb5⟩; have B5 := Lib.hid (B4.out.trans (hb5.mono z4)); have HBB := Lib.hid hbb; have z5 : V.heap.size ≤ w5.heap.size := B5.out.size; obtain ⟨e3, e4, e5⟩ := Kx.out.below B5.out (by omega); obtain ⟨f3, f4, f5⟩ := Ky.out.below B5.out (by omega); obtain ⟨g3, g4', g5⟩ := P3.out.below B5.out (by omega); clear hbb hb5))
  clear k0 k1 k2 l0 l1 l2 m0 m1' m2' e0 e1 e2 f0 f1 f2 g0 g1 g2 e3 e4 e5 f3 f4 f5 g3 g4' g5
  have hbz : bb = true ↔ ∀ i, i < pp.length → pp.getD i 0 = 0 := by
    rw [HBB.out]
    exact ⟨fun h i hi => by rw [h i hi, rep_getD], fun h i hi => by rw [h i hi, rep_getD]⟩
  have Ka4 := Lib.hid (Kx.out.below B5.out (by omega))
  have Kb4 := Lib.hid (Ky.out.below B5.out (by omega))
  have T4 := Lib.hid (Tx.out.below B5.out (by omega))
  have F4 := Lib.hid (Fx.out.below B5.out (by omega))
  have HB4 := Lib.hid (HBx.out.trans (B5.out.mono (by omega)))
  have s4 : w.heap.size + 1 + 1 < w5.heap.size := by omega
  clear Kx Ky Tx Fx HBx B4 K4 HBB O3 O3' Ka3 Kb3 T3 F3 HB3 P3
  obtain rfl : bb = false := by
    cases bb
    · rfl
    · exact absurd (hbz.1 rfl) HZ.out
  clear hbz
  obtain ⟨n0, n1'⟩ := T4.out
  have f0 := F4.out
  unfold Free at f0
  go_wp2
  refine bodyPost_ret (v := .tuple #[.agg #[.int .i64 0, .slice none 0 0], .int .i64 5]) (by simp [results, Try.results48, n0, n1', s4, go_sem]) rfl ⟨none, 0, rfl, Own.none_ _ _ _, ?_⟩
  exact (HB4.out.setCell (by dsimp only; omega) _).setCell (by dsimp only; omega) _

set_option maxRecDepth 100000 in
set_option maxHeartbeats 8000000 in
theorem hom_spec_limit (R1 C1 R2 : Nat) (A1 A2 : Option Addr) (n1 c1 n2 c2 : Nat) (w : World) (zs ys : List Int)
    (h1 : Ints w w.heap.size A1 n1 zs) (h2 : Ints w w.heap.size A2 n2 ys) (m1 : n1 ≤ 1048576) (m2 : n2 ≤ 1048576) (hR1 : R1 ≤ 48) (hC1 : C1 ≤ 48) (hR2 : R2 ≤ 48) (P1 : MOk R1 C1 zs) (P2 : MOk R2 R1 ys) (hf : Fits R1 C1 ys zs (R2 * C1))
    (hzero : ∀ i, i < (pl R1 C1 ys zs (R2 * C1) (R2 * C1)).length → (pl R1 C1 ys zs (R2 * C1) (R2 * C1)).getD i 0 = 0) (f1 f2 : List Int) (b1 b2 : Bool) (hlim : b1 = false ∨ b2 ≠ true)
    (hA : ∀ W : World, Below w.heap.size w W → Calls Try.prog 72 #[.agg #[.int .i64 R1, .int .i64 C1, .slice A1 n1 c1]] W (ResF W f1 b1))
    (hB : ∀ W : World, Below w.heap.size w W → Calls Try.prog 72 #[.agg #[.int .i64 R2, .int .i64 R1, .slice A2 n2 c2]] W (ResF W f2 b2)) :
    Calls Try.prog 48 #[.agg #[.int .i64 R1, .int .i64 C1, .slice A1 n1 c1], .agg #[.int .i64 R2, .int .i64 R1, .slice A2 n2 c2]] w (ResGC w 0 [] 3) := by
  have H1 := Lib.hid h1
  have H2 := Lib.hid h2
  have HP1 := Lib.hid P1
  clear h1 h2 P1
  have HP2 := Lib.hid P2
  clear P2
  have pz := rc_le hR2 hC1
  have HF := Lib.hid hf
  clear hf
  have HZ := Lib.hid hzero
  clear hzero
  have HA := Lib.hid hA
  have HB_ := Lib.hid hB
  clear hA hB
  have Ka0 := Lib.hid (((Box3.new w 27 (.int .i64 R1) (.int .i64 C1) (.slice A1 n1 c1)).below (al1 _ (Obj.cells #[.int .i64 R2, .int .i64 R1, .slice A2 n2 c2] 27)) (by simp)).below (al1 ((w.alloc (Obj.cells #[.int .i64 R1, .int .i64 C1, .slice A1 n1 c1] 27)).alloc (Obj.cells #[.int .i64 R2, .int .i64 R1, .slice A2 n2 c2] 27)) (Obj.cells #[.int .i64 0, .slice none 0 0] 54)) (by simp; omega))
  have Kb0 := Lib.hid ((Box3.new (w.alloc (Obj.cells #[.int .i64 R1, .int .i64 C1, .slice A1 n1 c1] 27)) 27 (.int .i64 R2) (.int .i64 R1) (.slice A2 n2 c2)).below (al1 ((w.alloc (Obj.cells #[.int .i64 R1, .int .i64 C1, .slice A1 n1 c1] 27)).alloc (Obj.cells #[.int .i64 R2, .int .i64 R1, .slice A2 n2 c2] 27)) (Obj.cells #[.int .i64 0, .slice none 0 0] 54)) (by simp))
  have T0 := Lib.hid (BoxG.new ((w.alloc (Obj.cells #[.int .i64 R1, .int .i64 C1, .slice A1 n1 c1] 27)).alloc (Obj.cells #[.int .i64 R2, .int .i64 R1, .slice A2 n2 c2] 27)) 54 (.int .i64 0) (.slice none 0 0))
  have F0 := Lib.hid (Free.new ((w.alloc (Obj.cells #[.int .i64 R1, .int .i64 C1, .slice A1 n1 c1] 27)).alloc (Obj.cells #[.int .i64 R2, .int .i64 R1, .slice A2 n2 c2] 27)) 54 #[.int .i64 0, .slice none 0 0])
  simp only [World.size_alloc] at Kb0 T0 F0
  have HB0 := Lib.hid (al3 w (Obj.cells #[.int .i64 R1, .int .i64 C1, .slice A1 n1 c1] 27) (Obj.cells #[.int .i64 R2, .int .i64 R1, .slice A2 n2 c2] 27) (Obj.cells #[.int .i64 0, .slice none 0 0] 54))
  go_enter Try.func48, Try.ntmps48
  go_wp2_with fail
  refine (isMs_yes R1 C1 A1 n1 c1 zs _ (H1.out.into (al3 _ _ _ _)) m1 HP1.out).mono ?_
  rintro e w1 ⟨rfl, hb⟩
  have s1 : w.heap.size + 1 + 1 < w1.heap.size := by have := hb.size; simp at this; omega
  have Ka1 := Lib.hid (Ka0.out.below hb (by simp <;> omega))
  have Kb1 := Lib.hid (Kb0.out.below hb (by simp <;> omega))
  have T1 := Lib.hid (T0.out.below hb (by simp <;> omega))
  have F1 := Lib.hid (F0.out.below hb (by simp <;> omega))
  have HB1 := Lib.hid (on3 _ _ _ hb)
  clear hb Ka0 Kb0 T0 F0 HB0
  obtain ⟨k0, k1, k2⟩ := Ka1.out
  obtain ⟨l0, l1, l2⟩ := Kb1.out
  go_wp2_with fail
  refine (isMs_yes R2 R1 A2 n2 c2 ys _ (H2.out.into HB1.out) m2 HP2.out).mono ?_
  rintro e w2 ⟨rfl, hb⟩
  clear k0 k1 k2 l0 l1 l2
  have hbx := hb
  have s2 : w.heap.size + 1 + 1 < w2.heap.size := by have := hbx.size; omega
  have Ka2 := Lib.hid (Ka1.out.below hbx (by omega))
  have Kb2 := Lib.hid (Kb1.out.below hbx (by omega))
  have T2 := Lib.hid (T1.out.below hbx (by omega))
  have F2 := Lib.hid (F1.out.below hbx (by omega))
  have HB2 := Lib.hid (HB1.out.trans (hbx.mono (by omega)))
  have u2 := hbx.size
  clear hbx
  clear hb Ka1 Kb1 T1 F1 HB1
  obtain ⟨k0, k1, k2⟩ := Ka2.out
  obtain ⟨l0, l1, l2⟩ := Kb2.out
  go_wp2_with fail
  refine (lmul_spec R2 R1 C1 A2 A1 n2 c2 n1 c1 ys zs _ (H2.out.into HB2.out) (H1.out.into HB2.out) hR2 hR1 hC1 HP2.out HP1.out).mono ?_
  intro e w3 hsay
  clear k0 k1 k2 l0 l1 l2
  obtain ⟨A3, c3, rfl, hown, hb⟩ := hsay.1 HF.out
  have hpl := pl_len R1 C1 ys zs (R2 * C1) (R2 * C1)
  obtain ⟨pp, hpp⟩ : ∃ pp, pl R1 C1 ys zs (R2 * C1) (R2 * C1) = pp := ⟨_, rfl⟩
  rw [hpp] at hown hpl HZ
  rw [hpp]
  have HPL := Lib.hid hpl
  clear hsay hpp hpl
  have O3 := Lib.hid hown
  clear hown
  have hbx := hb
  have s3 : w.heap.size + 1 + 1 < w3.heap.size := by have := hbx.size; omega
  have Ka3 := Lib.hid (Ka2.out.below hbx (by omega))
  have Kb3 := Lib.hid (Kb2.out.below hbx (by omega))
  have T3 := Lib.hid (T2.out.below hbx (by omega))
  have F3 := Lib.hid (F2.out.below hbx (by omega))
  have HB3 := Lib.hid (HB2.out.trans (hbx.mono (by omega)))
  have u3 := hbx.size
  clear hbx
  clear hb Ka2 Kb2 T2 F2 HB2
  have P3 := Lib.hid (Box3.new w3 27 (.int .i64 R2) (.int .i64 C1) (.slice A3 pp.length c3))
  have AL := Lib.hid (al1 w3 (Obj.cells #[.int .i64 R2, .int .i64 C1, .slice A3 pp.length c3] 27))
  have O3' := Lib.hid (O3.out.al (Nat.le_refl _) AL.out)
  have Kx := Lib.hid (Ka3.out.below AL.out (by omega))
  have Ky := Lib.hid (Kb3.out.below AL.out (by omega))
  have Tx := Lib.hid (T3.out.below AL.out (by omega))
  have Fx := Lib.hid (F3.out.below AL.out (by omega))
  have HBx := Lib.hid (HB3.out.trans (AL.out.mono (by omega)))
  have v3a : w.heap.size < w3.heap.size := by omega
  have v3b : w.heap.size + 1 < w3.heap.size := by omega
  obtain ⟨k0, k1, k2⟩ := Ka3.out
  obtain ⟨l0, l1, l2⟩ := Kb3.out
  go_wp2_with fail
  clear k0 k1 k2 l0 l1 l2
  obtain ⟨V, hV⟩ : ∃ V, V = w3.alloc (Obj.cells #[.int .i64 R2, .int .i64 C1, .slice A3 pp.length c3] 27) := ⟨_, rfl⟩
  have v0 : w3.heap.size < V.heap.size := by rw [hV]; simp
  have v1 : w.heap.size + 1 + 1 < V.heap.size := by omega
  rw [← hV] at P3 AL O3' Kx Ky Tx Fx HBx
  rw [← hV]
  clear hV AL
  obtain ⟨k0, k1, k2⟩ := Kx.out
  obtain ⟨l0, l1, l2⟩ := Ky.out
  obtain ⟨m0, m1', m2'⟩ := P3.out
  go_region_held3 (fun W => (W.cell? ⟨w.heap.size, 0, none⟩ = some (.int .i64 R1) ∧ W.cell? ⟨w.heap.size, 1, none⟩ = some (.int .i64 C1) ∧ W.cell? ⟨w.heap.size, 2, none⟩ = some (.slice A1 n1 c1)) ∧ (W.cell? ⟨w.heap.size + 1, 0, none⟩ = some (.int .i64 R2) ∧ W.cell? ⟨w.heap.size + 1, 1, none⟩ = some (.int .i64 R1) ∧ W.cell? ⟨w.heap.size + 1, 2, none⟩ = some (.slice A2 n2 c2)) ∧ (W.cell? ⟨w3.heap.size, 0, none⟩ = some (.int .i64 R2) ∧ W.cell? ⟨w3.heap.size, 1, none⟩ = some (.int .i64 C1) ∧ W.cell? ⟨w3.heap.size, 2, none⟩ = some (.slice A3 pp.length c3))) (go_keep)
    (first
      | (go_at_call 58; (with_reducible refine (zero_spec R2 C1 (R2 * C1) _ (by rw [castM]; omega) (by rw [castM]; omega) (castM _ _)).mono ?_); rintro e w4 ⟨g4, rfl, hblk, hg1, hg2, hb'⟩; have B4 := Lib.hid (undrew hb'); have K4 := Lib.hid hblk; have z4 : V.heap.size ≤ w4.heap.size := B4.out.size; obtain ⟨e0, e1, e2⟩ := Kx.out.below B4.out (by omega); obtain ⟨f0, f1, f2⟩ := Ky.out.below B4.out (by omega); obtain ⟨g0, g1, g2⟩ := P3.out.below B4.out (by omega); clear hblk hg1 hg2 hb')
      | (go_at_call 78; (with_reducible refine (same_spec R2 C1 A3 _ pp.length (R2 * C1) c3 _ pp _ _ HPL.out (by exact ((O3'.out.ints).below (B4.out.mono (by omega))).more (by omega)) (by exact K4.out.ints (by simp)) (by have := HPL.out; omega)).mono ?_); rintro e w5 ⟨bb, rfl, hbb, hb5⟩; have B5 := Lib.hid (B4.out.trans (hb5.mono z4)); have HBB := Lib.hid hbb; have z5 : V.heap.size ≤ w5.heap.size := B5.out.size; obtain ⟨e3, e4, e5⟩ := Kx.out.below B5.out (by omega); obtain ⟨f3, f4, f5⟩ := Ky.out.below B5.out (by omega); obtain ⟨g3, g4', g5⟩ := P3.out.below B5.out (by omega); clear hbb hb5))
  clear k0 k1 k2 l0 l1 l2 m0 m1' m2' e0 e1 e2 f0 f1 f2 g0 g1 g2 e3 e4 e5 f3 f4 f5 g3 g4' g5
  have hbz : bb = true ↔ ∀ i, i < pp.length → pp.getD i 0 = 0 := by
    rw [HBB.out]
    exact ⟨fun h i hi => by rw [h i hi, rep_getD], fun h i hi => by rw [h i hi, rep_getD]⟩
  have Ka4 := Lib.hid (Kx.out.below B5.out (by omega))
  have Kb4 := Lib.hid (Ky.out.below B5.out (by omega))
  have T4 := Lib.hid (Tx.out.below B5.out (by omega))
  have F4 := Lib.hid (Fx.out.below B5.out (by omega))
  have HB4 := Lib.hid (HBx.out.trans (B5.out.mono (by omega)))
  have s4 : w.heap.size + 1 + 1 < w5.heap.size := by omega
  clear Kx Ky Tx Fx HBx B4 K4 HBB O3 O3' Ka3 Kb3 T3 F3 HB3 P3
  obtain rfl : bb = true := hbz.2 HZ.out
  clear hbz
  obtain ⟨k0, k1, k2⟩ := Ka4.out
  obtain ⟨l0, l1, l2⟩ := Kb4.out
  go_wp2_with fail
  refine (HA.out _ HB4.out).mono ?_
  rintro e w6 ⟨A6, c6, rfl, hown, hb⟩
  have O6 := Lib.hid hown
  clear hown k0 k1 k2 l0 l1 l2
  have hbx := hb
  have s5 : w.heap.size + 1 + 1 < w6.heap.size := by have := hbx.size; omega
  have Ka5 := Lib.hid (Ka4.out.below hbx (by omega))
  have Kb5 := Lib.hid (Kb4.out.below hbx (by omega))
  have T5 := Lib.hid (T4.out.below hbx (by omega))
  have F5 := Lib.hid (F4.out.below hbx (by omega))
  have HB5 := Lib.hid (HB4.out.trans (hbx.mono (by omega)))
  have u5 := hbx.size
  clear hbx
  clear hb Ka4 Kb4 T4 F4 HB4
  obtain ⟨k0, k1, k2⟩ := Ka5.out
  obtain ⟨l0, l1, l2⟩ := Kb5.out
  go_wp2_with fail
  refine (HB_.out _ HB5.out).mono ?_
  rintro e w7 ⟨A7, c7, rfl, hown, hb⟩
  have O6' := Lib.hid (O6.out.below hb (Nat.le_refl _))
  clear hown O6 k0 k1 k2 l0 l1 l2
  have hbx := hb
  have s6 : w.heap.size + 1 + 1 < w7.heap.size := by have := hbx.size; omega
  have Ka6 := Lib.hid (Ka5.out.below hbx (by omega))
  have Kb6 := Lib.hid (Kb5.out.below hbx (by omega))
  have T6 := Lib.hid (T5.out.below hbx (by omega))
  have F6 := Lib.hid (F5.out.below hbx (by omega))
  have HB6 := Lib.hid (HB5.out.trans (hbx.mono (by omega)))
  have u6 := hbx.size
  clear hbx
  clear hb Ka5 Kb5 T5 F5 HB5
  cases b1 <;> cases b2
  case true.true => exact absurd rfl (hlim.resolve_left (by simp))
  all_goals
    clear hlim
    obtain ⟨n0, n1'⟩ := T6.out
    have f0 := F6.out
    unfold Free at f0
    go_wp2
    refine bodyPost_ret (v := .tuple #[.agg #[.int .i64 0, .slice none 0 0], .int .i64 3]) (by simp [results, Try.results48, n0, n1', s6, go_sem]) rfl ⟨none, 0, rfl, Own.none_ _ _ _, ?_⟩
    exact (HB6.out.setCell (by dsimp only; omega) _).setCell (by dsimp only; omega) _

set_option maxRecDepth 100000 in
set_option maxHeartbeats 8000000 in
theorem hom_spec_ok (R1 C1 R2 : Nat) (A1 A2 : Option Addr) (n1 c1 n2 c2 : Nat) (w : World) (zs ys : List Int)
    (h1 : Ints w w.heap.size A1 n1 zs) (h2 : Ints w w.heap.size A2 n2 ys) (m1 : n1 ≤ 1048576) (m2 : n2 ≤ 1048576) (hR1 : R1 ≤ 48) (hC1 : C1 ≤ 48) (hR2 : R2 ≤ 48) (P1 : MOk R1 C1 zs) (P2 : MOk R2 R1 ys) (hf : Fits R1 C1 ys zs (R2 * C1))
    (hzero : ∀ i, i < (pl R1 C1 ys zs (R2 * C1) (R2 * C1)).length → (pl R1 C1 ys zs (R2 * C1) (R2 * C1)).getD i 0 = 0) (f1 f2 : List Int) (hl1 : f1.length ≤ 48) (hl2 : f2.length ≤ 48)
    (hA : ∀ W : World, Below w.heap.size w W → Calls Try.prog 72 #[.agg #[.int .i64 R1, .int .i64 C1, .slice A1 n1 c1]] W (ResF W f1 true))
    (hB : ∀ W : World, Below w.heap.size w W → Calls Try.prog 72 #[.agg #[.int .i64 R2, .int .i64 R1, .slice A2 n2 c2]] W (ResF W f2 true)) :
    Calls Try.prog 48 #[.agg #[.int .i64 R1, .int .i64 C1, .slice A1 n1 c1], .agg #[.int .i64 R2, .int .i64 R1, .slice A2 n2 c2]] w (ResGC w ((R1 : Int) - (f1.length : Int) - (f2.length : Int)) (tors f1) 0) := by
  have H1 := Lib.hid h1
  have H2 := Lib.hid h2
  have HP1 := Lib.hid P1
  clear h1 h2 P1
  have HP2 := Lib.hid P2
  clear P2
  have pz := rc_le hR2 hC1
  have HF := Lib.hid hf
  clear hf
  have HZ := Lib.hid hzero
  clear hzero
  have HA := Lib.hid hA
  have HB_ := Lib.hid hB
  clear hA hB
  have Ka0 := Lib.hid (((Box3.new w 27 (.int .i64 R1) (.int .i64 C1) (.slice A1 n1 c1)).below (al1 _ (Obj.cells #[.int .i64 R2, .int .i64 R1, .slice A2 n2 c2] 27)) (by simp)).below (al1 ((w.alloc (Obj.cells #[.int .i64 R1, .int .i64 C1, .slice A1 n1 c1] 27)).alloc (Obj.cells #[.int .i64 R2, .int .i64 R1, .slice A2 n2 c2] 27)) (Obj.cells #[.int .i64 0, .slice none 0 0] 54)) (by simp; omega))
  have Kb0 := Lib.hid ((Box3.new (w.alloc (Obj.cells #[.int .i64 R1, .int .i64 C1, .slice A1 n1 c1] 27)) 27 (.int .i64 R2) (.int .i64 R1) (.slice A2 n2 c2)).below (al1 ((w.alloc (Obj.cells #[.int .i64 R1, .int .i64 C1, .slice A1 n1 c1] 27)).alloc (Obj.cells #[.int .i64 R2, .int .i64 R1, .slice A2 n2 c2] 27)) (Obj.cells #[.int .i64 0, .slice none 0 0] 54)) (by simp))
  have T0 := Lib.hid (BoxG.new ((w.alloc (Obj.cells #[.int .i64 R1, .int .i64 C1, .slice A1 n1 c1] 27)).alloc (Obj.cells #[.int .i64 R2, .int .i64 R1, .slice A2 n2 c2] 27)) 54 (.int .i64 0) (.slice none 0 0))
  have F0 := Lib.hid (Free.new ((w.alloc (Obj.cells #[.int .i64 R1, .int .i64 C1, .slice A1 n1 c1] 27)).alloc (Obj.cells #[.int .i64 R2, .int .i64 R1, .slice A2 n2 c2] 27)) 54 #[.int .i64 0, .slice none 0 0])
  simp only [World.size_alloc] at Kb0 T0 F0
  have HB0 := Lib.hid (al3 w (Obj.cells #[.int .i64 R1, .int .i64 C1, .slice A1 n1 c1] 27) (Obj.cells #[.int .i64 R2, .int .i64 R1, .slice A2 n2 c2] 27) (Obj.cells #[.int .i64 0, .slice none 0 0] 54))
  go_enter Try.func48, Try.ntmps48
  go_wp2_with fail
  refine (isMs_yes R1 C1 A1 n1 c1 zs _ (H1.out.into (al3 _ _ _ _)) m1 HP1.out).mono ?_
  rintro e w1 ⟨rfl, hb⟩
  have s1 : w.heap.size + 1 + 1 < w1.heap.size := by have := hb.size; simp at this; omega
  have Ka1 := Lib.hid (Ka0.out.below hb (by simp <;> omega))
  have Kb1 := Lib.hid (Kb0.out.below hb (by simp <;> omega))
  have T1 := Lib.hid (T0.out.below hb (by simp <;> omega))
  have F1 := Lib.hid (F0.out.below hb (by simp <;> omega))
  have HB1 := Lib.hid (on3 _ _ _ hb)
  clear hb Ka0 Kb0 T0 F0 HB0
  obtain ⟨k0, k1, k2⟩ := Ka1.out
  obtain ⟨l0, l1, l2⟩ := Kb1.out
  go_wp2_with fail
  refine (isMs_yes R2 R1 A2 n2 c2 ys _ (H2.out.into HB1.out) m2 HP2.out).mono ?_
  rintro e w2 ⟨rfl, hb⟩
  clear k0 k1 k2 l0 l1 l2
  have hbx := hb
  have s2 : w.heap.size + 1 + 1 < w2.heap.size := by have := hbx.size; omega
  have Ka2 := Lib.hid (Ka1.out.below hbx (by omega))
  have Kb2 := Lib.hid (Kb1.out.below hbx (by omega))
  have T2 := Lib.hid (T1.out.below hbx (by omega))
  have F2 := Lib.hid (F1.out.below hbx (by omega))
  have HB2 := Lib.hid (HB1.out.trans (hbx.mono (by omega)))
  have u2 := hbx.size
  clear hbx
  clear hb Ka1 Kb1 T1 F1 HB1
  obtain ⟨k0, k1, k2⟩ := Ka2.out
  obtain ⟨l0, l1, l2⟩ := Kb2.out
  go_wp2_with fail
  refine (lmul_spec R2 R1 C1 A2 A1 n2 c2 n1 c1 ys zs _ (H2.out.into HB2.out) (H1.out.into HB2.out) hR2 hR1 hC1 HP2.out HP1.out).mono ?_
  intro e w3 hsay
  clear k0 k1 k2 l0 l1 l2
  obtain ⟨A3, c3, rfl, hown, hb⟩ := hsay.1 HF.out
  have hpl := pl_len R1 C1 ys zs (R2 * C1) (R2 * C1)
  obtain ⟨pp, hpp⟩ : ∃ pp, pl R1 C1 ys zs (R2 * C1) (R2 * C1) = pp := ⟨_, rfl⟩
  rw [hpp] at hown hpl HZ
  rw [hpp]
  have HPL := Lib.hid hpl
  clear hsay hpp hpl
  have O3 := Lib.hid hown
  clear hown
  have hbx := hb
  have s3 : w.heap.size + 1 + 1 < w3.heap.size := by have := hbx.size; omega
  have Ka3 := Lib.hid (Ka2.out.below hbx (by omega))
  have Kb3 := Lib.hid (Kb2.out.below hbx (by omega))
  have T3 := Lib.hid (T2.out.below hbx (by omega))
  have F3 := Lib.hid (F2.out.below hbx (by omega))
  have HB3 := Lib.hid (HB2.out.trans (hbx.mono (by omega)))
  have u3 := hbx.size
  clear hbx
  clear hb Ka2 Kb2 T2 F2 HB2
  have P3 := Lib.hid (Box3.new w3 27 (.int .i64 R2) (.int .i64 C1) (.slice A3 pp.length c3))
  have AL := Lib.hid (al1 w3 (Obj.cells #[.int .i64 R2, .int .i64 C1, .slice A3 pp.length c3] 27))
  have O3' := Lib.hid (O3.out.al (Nat.le_refl _) AL.out)
  have Kx := Lib.hid (Ka3.out.below AL.out (by omega))
  have Ky := Lib.hid (Kb3.out.below AL.out (by omega))
  have Tx := Lib.hid (T3.out.below AL.out (by omega))
  have Fx := Lib.hid (F3.out.below AL.out (by omega))
  have HBx := Lib.hid (HB3.out.trans (AL.out.mono (by omega)))
  have v3a : w.heap.size < w3.heap.size := by omega
  have v3b : w.heap.size + 1 < w3.heap.size := by omega
  obtain ⟨k0, k1, k2⟩ := Ka3.out
  obtain ⟨l0, l1, l2⟩ := Kb3.out
  go_wp2_with fail
  clear k0 k1 k2 l0 l1 l2
  obtain ⟨V, hV⟩ : ∃ V, V = w3.alloc (Obj.cells #[.int .i64 R2, .int .i64 C1, .slice A3 pp.length c3] 27) := ⟨_, rfl⟩
  have v0 : w3.heap.size < V.heap.size := by rw [hV]; simp
  have v1 : w.heap.size + 1 + 1 < V.heap.size := by omega
  rw [← hV] at P3 AL O3' Kx Ky Tx Fx HBx
  rw [← hV]
  clear hV AL
  obtain ⟨k0, k1, k2⟩ := Kx.out
  obtain ⟨l0, l1, l2⟩ := Ky.out
  obtain ⟨m0, m1', m2'⟩ := P3.out
  go_region_held3 (fun W => (W.cell? ⟨w.heap.size, 0, none⟩ = some (.int .i64 R1) ∧ W.cell? ⟨w.heap.size, 1, none⟩ = some (.int .i64 C1) ∧ W.cell? ⟨w.heap.size, 2, none⟩ = some (.slice A1 n1 c1)) ∧ (W.cell? ⟨w.heap.size + 1, 0, none⟩ = some (.int .i64 R2) ∧ W.cell? ⟨w.heap.size + 1, 1, none⟩ = some (.int .i64 R1) ∧ W.cell? ⟨w.heap.size + 1, 2, none⟩ = some (.slice A2 n2 c2)) ∧ (W.cell? ⟨w3.heap.size, 0, none⟩ = some (.int .i64 R2) ∧ W.cell? ⟨w3.heap.size, 1, none⟩ = some (.int .i64 C1) ∧ W.cell? ⟨w3.heap.size, 2, none⟩ = some (.slice A3 pp.length c3))) (go_keep)
    (first
      | (go_at_call 58; (with_reducible refine (zero_spec R2 C1 (R2 * C1) _ (by rw [castM]; omega) (by rw [castM]; omega) (castM _ _)).mono ?_); rintro e w4 ⟨g4, rfl, hblk, hg1, hg2, hb'⟩; have B4 := Lib.hid (undrew hb'); have K4 := Lib.hid hblk; have z4 : V.heap.size ≤ w4.heap.size := B4.out.size; obtain ⟨e0, e1, e2⟩ := Kx.out.below B4.out (by omega); obtain ⟨f0, f1, f2⟩ := Ky.out.below B4.out (by omega); obtain ⟨g0, g1, g2⟩ := P3.out.below B4.out (by omega); clear hblk hg1 hg2 hb')
      | (go_at_call 78; (with_reducible refine (same_spec R2 C1 A3 _ pp.length (R2 * C1) c3 _ pp _ _ HPL.out (by exact ((O3'.out.ints).below (B4.out.mono (by omega))).more (by omega)) (by exact K4.out.ints (by simp)) (by have := HPL.out; omega)).mono ?_); rintro e w5 ⟨bb, rfl, hbb, hb5⟩; have B5 := Lib.hid (B4.out.trans (hb5.mono z4)); have HBB := Lib.hid hbb; have z5 : V.heap.size ≤ w5.heap.size := B5.out.size; obtain ⟨e3, e4, e5⟩ := Kx.out.below B5.out (by omega); obtain ⟨f3, f4, f5⟩ := Ky.out.below B5.out (by omega); obtain ⟨g3, g4', g5⟩ := P3.out.below B5.out (by omega); clear hbb hb5))
  clear k0 k1 k2 l0 l1 l2 m0 m1' m2' e0 e1 e2 f0 f1 f2 g0 g1 g2 e3 e4 e5 f3 f4 f5 g3 g4' g5
  have hbz : bb = true ↔ ∀ i, i < pp.length → pp.getD i 0 = 0 := by
    rw [HBB.out]
    exact ⟨fun h i hi => by rw [h i hi, rep_getD], fun h i hi => by rw [h i hi, rep_getD]⟩
  have Ka4 := Lib.hid (Kx.out.below B5.out (by omega))
  have Kb4 := Lib.hid (Ky.out.below B5.out (by omega))
  have T4 := Lib.hid (Tx.out.below B5.out (by omega))
  have F4 := Lib.hid (Fx.out.below B5.out (by omega))
  have HB4 := Lib.hid (HBx.out.trans (B5.out.mono (by omega)))
  have s4 : w.heap.size + 1 + 1 < w5.heap.size := by omega
  clear Kx Ky Tx Fx HBx B4 K4 HBB O3 O3' Ka3 Kb3 T3 F3 HB3 P3
  obtain rfl : bb = true := hbz.2 HZ.out
  clear hbz
  obtain ⟨k0, k1, k2⟩ := Ka4.out
  obtain ⟨l0, l1, l2⟩ := Kb4.out
  go_wp2_with fail
  refine (HA.out _ HB4.out).mono ?_
  rintro e w6 ⟨A6, c6, rfl, hown, hb⟩
  have O6 := Lib.hid hown
  clear hown k0 k1 k2 l0 l1 l2
  have hbx := hb
  have s5 : w.heap.size + 1 + 1 < w6.heap.size := by have := hbx.size; omega
  have Ka5 := Lib.hid (Ka4.out.below hbx (by omega))
  have Kb5 := Lib.hid (Kb4.out.below hbx (by omega))
  have T5 := Lib.hid (T4.out.below hbx (by omega))
  have F5 := Lib.hid (F4.out.below hbx (by omega))
  have HB5 := Lib.hid (HB4.out.trans (hbx.mono (by omega)))
  have u5 := hbx.size
  clear hbx
  clear hb Ka4 Kb4 T4 F4 HB4
  obtain ⟨k0, k1, k2⟩ := Ka5.out
  obtain ⟨l0, l1, l2⟩ := Kb5.out
  go_wp2_with fail
  refine (HB_.out _ HB5.out).mono ?_
  rintro e w7 ⟨A7, c7, rfl, hown, hb⟩
  have O6' := Lib.hid (O6.out.below hb (Nat.le_refl _))
  clear hown O6 k0 k1 k2 l0 l1 l2
  have hbx := hb
  have s6 : w.heap.size + 1 + 1 < w7.heap.size := by have := hbx.size; omega
  have Ka6 := Lib.hid (Ka5.out.below hbx (by omega))
  have Kb6 := Lib.hid (Kb5.out.below hbx (by omega))
  have T6 := Lib.hid (T5.out.below hbx (by omega))
  have F6 := Lib.hid (F5.out.below hbx (by omega))
  have HB6 := Lib.hid (HB5.out.trans (hbx.mono (by omega)))
  have u6 := hbx.size
  clear hbx
  clear hb Ka5 Kb5 T5 F5 HB5
  have wr1 : IntKind.i64.wrap ((R1 : Int) - (f1.length : Int)) = (R1 : Int) - (f1.length : Int) := IntWalk.i64_in _ (by omega)
  have wr2 : IntKind.i64.wrap ((R1 : Int) - (f1.length : Int) - (f2.length : Int)) = (R1 : Int) - (f1.length : Int) - (f2.length : Int) := IntWalk.i64_in _ (by omega)
  have ne1 : ¬ w.heap.size + 1 + 1 = w.heap.size := by omega
  have ne2 : ¬ w.heap.size = w.heap.size + 1 + 1 := by omega
  obtain ⟨k0, k1, k2⟩ := Ka6.out
  go_wp2_with fail
  go_region_held3 (fun W => W.cell? ⟨w.heap.size, 0, none⟩ = some (.int .i64 R1) ∧ W.cell? ⟨w.heap.size, 1, none⟩ = some (.int .i64 C1) ∧ W.cell? ⟨w.heap.size, 2, none⟩ = some (.slice A1 n1 c1)) (go_keep)
    ((go_at_call 76; (with_reducible refine (torsion_spec A6 f1.length c6 f1 _ (by exact (O6'.out.ints.more (by omega)).into (Below.refl _ _).drew) (by omega)).mono ?_); rintro e w8 ⟨A8, c8, rfl, hown, hb'⟩; have hb := undrew hb'; have s8 : w7.heap.size ≤ w8.heap.size := hb.size; obtain ⟨n0, n1'⟩ := T6.out.below hb (by omega); have f0 := F6.out.below hb (by omega); unfold Free at f0; have O8 : Hid (Own w8 w7.heap.size w8.heap.size A8 (tors f1).length c8 (tors f1)) := Lib.hid hown; have HB8 := Lib.hid (HB6.out.trans (hb.mono (by omega))); obtain ⟨e0, e1, e2⟩ := Ka6.out.below hb (by omega); clear hown hb hb'))
  go_wp2
  refine bodyPost_ret (v := .tuple #[.agg #[.int .i64 ((R1 : Int) - (f1.length : Int) - (f2.length : Int)), .slice A8 (tors f1).length c8], .int .i64 0]) (by simp [results, Try.results48, n0, n1', go_sem]) rfl ⟨A8, c8, rfl, ?_, ?_⟩
  · refine (((O8.out.far (p := ⟨w.heap.size + 1 + 1, 0, none⟩) (by dsimp only; omega) _).far (p := ⟨w.heap.size + 1 + 1, 1, none⟩) (by dsimp only; omega) _)).wide (by omega) ?_
    simp [World.setCell]
  · exact (HB8.out.setCell (by dsimp only; omega) _).setCell (by dsimp only; omega) _

end Go.Proofs.Ytdbljeglnhefmaa
