/- The program's HomologyOf, from what it calls. No condition but those that each theorem names. -/
import Derived.Test.YtdbljeglnhefmaaHomA
import Derived.Test.YtdbljeglnhefmaaCokA
namespace Go.Proofs.Ytdbljeglnhefmaa
open Go.RowKit

set_option maxRecDepth 100000 in
set_option maxHeartbeats 8000000 in
theorem hom_impl_mul (r1 q1 r2 q2 : Int) (A1 A2 : Option Addr) (n1 c1 n2 c2 : Nat) (w : World) (code : Int) (hcode : code ≠ 0)
    (hM : Calls Try.prog 28 #[.agg #[.int .i64 r2, .int .i64 q2, .slice A2 n2 c2], .agg #[.int .i64 r1, .int .i64 q1, .slice A1 n1 c1]] (((w.alloc (Obj.cells #[.int .i64 r1, .int .i64 q1, .slice A1 n1 c1] 27)).alloc (Obj.cells #[.int .i64 r2, .int .i64 q2, .slice A2 n2 c2] 27)).alloc (Obj.cells #[.int .i64 0, .slice none 0 0] 54)) (ResM (((w.alloc (Obj.cells #[.int .i64 r1, .int .i64 q1, .slice A1 n1 c1] 27)).alloc (Obj.cells #[.int .i64 r2, .int .i64 q2, .slice A2 n2 c2] 27)).alloc (Obj.cells #[.int .i64 0, .slice none 0 0] 54)) 0 0 [] (.int .i64 code))) :
    Calls Try.prog 49 #[.agg #[.int .i64 r1, .int .i64 q1, .slice A1 n1 c1], .agg #[.int .i64 r2, .int .i64 q2, .slice A2 n2 c2]] w (ResGC w 0 [] code) := by
  have HM := Lib.hid hM
  clear hM
  have t1 : (code != 0) = true := by simpa using hcode
  clear hcode
  have Ka0 := Lib.hid (((Box3.new w 27 (.int .i64 r1) (.int .i64 q1) (.slice A1 n1 c1)).below (al1 _ (Obj.cells #[.int .i64 r2, .int .i64 q2, .slice A2 n2 c2] 27)) (by simp)).below (al1 ((w.alloc (Obj.cells #[.int .i64 r1, .int .i64 q1, .slice A1 n1 c1] 27)).alloc (Obj.cells #[.int .i64 r2, .int .i64 q2, .slice A2 n2 c2] 27)) (Obj.cells #[.int .i64 0, .slice none 0 0] 54)) (by simp; omega))
  have Kb0 := Lib.hid ((Box3.new (w.alloc (Obj.cells #[.int .i64 r1, .int .i64 q1, .slice A1 n1 c1] 27)) 27 (.int .i64 r2) (.int .i64 q2) (.slice A2 n2 c2)).below (al1 ((w.alloc (Obj.cells #[.int .i64 r1, .int .i64 q1, .slice A1 n1 c1] 27)).alloc (Obj.cells #[.int .i64 r2, .int .i64 q2, .slice A2 n2 c2] 27)) (Obj.cells #[.int .i64 0, .slice none 0 0] 54)) (by simp))
  have T0 := Lib.hid (BoxG.new ((w.alloc (Obj.cells #[.int .i64 r1, .int .i64 q1, .slice A1 n1 c1] 27)).alloc (Obj.cells #[.int .i64 r2, .int .i64 q2, .slice A2 n2 c2] 27)) 54 (.int .i64 0) (.slice none 0 0))
  have F0 := Lib.hid (Free.new ((w.alloc (Obj.cells #[.int .i64 r1, .int .i64 q1, .slice A1 n1 c1] 27)).alloc (Obj.cells #[.int .i64 r2, .int .i64 q2, .slice A2 n2 c2] 27)) 54 #[.int .i64 0, .slice none 0 0])
  simp only [World.size_alloc] at Kb0 T0 F0
  have HB0 := Lib.hid (al3 w (Obj.cells #[.int .i64 r1, .int .i64 q1, .slice A1 n1 c1] 27) (Obj.cells #[.int .i64 r2, .int .i64 q2, .slice A2 n2 c2] 27) (Obj.cells #[.int .i64 0, .slice none 0 0] 54))
  go_enter Try.func49, Try.ntmps49
  go_wp2_with fail
  refine HM.out.mono ?_
  rintro e w1 ⟨A3, c3, rfl, hown, hb⟩
  have O1 := Lib.hid hown
  clear hown
  have s1 : w.heap.size + 1 + 1 < w1.heap.size := by have := hb.size; simp at this; omega
  have Ka1 := Lib.hid (Ka0.out.below hb (by simp <;> omega))
  have Kb1 := Lib.hid (Kb0.out.below hb (by simp <;> omega))
  have T1 := Lib.hid (T0.out.below hb (by simp <;> omega))
  have F1 := Lib.hid (F0.out.below hb (by simp <;> omega))
  have HB1 := Lib.hid (on3 _ _ _ hb)
  clear hb Ka0 Kb0 T0 F0 HB0
  obtain ⟨n0, n1'⟩ := T1.out
  have f0 := F1.out
  unfold Free at f0
  go_wp2
  refine bodyPost_ret (v := .tuple #[.agg #[.int .i64 0, .slice none 0 0], .int .i64 code]) (by simp [results, Try.results49, n0, n1', s1, go_sem]) rfl ⟨none, 0, rfl, Own.none_ _ _ _, ?_⟩
  first
    | exact ((HB1.out.setCell (by dsimp only; omega) _).setCell (by dsimp only; omega) _).alloc (by simp [World.setCell]; omega) _
    | exact ((HB1.out.alloc (by omega) _).setCell (by dsimp only; omega) _).setCell (by dsimp only; omega) _
    | exact (((HB1.out.setCell (by dsimp only; omega) _).setCell (by dsimp only; omega) _).alloc (by simp [World.setCell]; omega) _).alloc (by simp [World.setCell]; omega) _

set_option maxRecDepth 100000 in
set_option maxHeartbeats 8000000 in
theorem hom_impl_state (r1 q1 r2 q2 : Int) (A1 A2 : Option Addr) (n1 c1 n2 c2 : Nat) (w : World) (rr qq : Int) (pp : List Int) (hpl : pp.length ≤ 2304)
    (hpp : ¬ ∀ i, i < pp.length → pp.getD i 0 = 0)
    (hM : Calls Try.prog 28 #[.agg #[.int .i64 r2, .int .i64 q2, .slice A2 n2 c2], .agg #[.int .i64 r1, .int .i64 q1, .slice A1 n1 c1]] (((w.alloc (Obj.cells #[.int .i64 r1, .int .i64 q1, .slice A1 n1 c1] 27)).alloc (Obj.cells #[.int .i64 r2, .int .i64 q2, .slice A2 n2 c2] 27)).alloc (Obj.cells #[.int .i64 0, .slice none 0 0] 54)) (ResM (((w.alloc (Obj.cells #[.int .i64 r1, .int .i64 q1, .slice A1 n1 c1] 27)).alloc (Obj.cells #[.int .i64 r2, .int .i64 q2, .slice A2 n2 c2] 27)).alloc (Obj.cells #[.int .i64 0, .slice none 0 0] 54)) rr qq pp (.int .i64 0))) :
    Calls Try.prog 49 #[.agg #[.int .i64 r1, .int .i64 q1, .slice A1 n1 c1], .agg #[.int .i64 r2, .int .i64 q2, .slice A2 n2 c2]] w (ResGC w 0 [] 5) := by
  have HM := Lib.hid hM
  clear hM
  have HPP := Lib.hid hpp
  clear hpp
  have Ka0 := Lib.hid (((Box3.new w 27 (.int .i64 r1) (.int .i64 q1) (.slice A1 n1 c1)).below (al1 _ (Obj.cells #[.int .i64 r2, .int .i64 q2, .slice A2 n2 c2] 27)) (by simp)).below (al1 ((w.alloc (Obj.cells #[.int .i64 r1, .int .i64 q1, .slice A1 n1 c1] 27)).alloc (Obj.cells #[.int .i64 r2, .int .i64 q2, .slice A2 n2 c2] 27)) (Obj.cells #[.int .i64 0, .slice none 0 0] 54)) (by simp; omega))
  have Kb0 := Lib.hid ((Box3.new (w.alloc (Obj.cells #[.int .i64 r1, .int .i64 q1, .slice A1 n1 c1] 27)) 27 (.int .i64 r2) (.int .i64 q2) (.slice A2 n2 c2)).below (al1 ((w.alloc (Obj.cells #[.int .i64 r1, .int .i64 q1, .slice A1 n1 c1] 27)).alloc (Obj.cells #[.int .i64 r2, .int .i64 q2, .slice A2 n2 c2] 27)) (Obj.cells #[.int .i64 0, .slice none 0 0] 54)) (by simp))
  have T0 := Lib.hid (BoxG.new ((w.alloc (Obj.cells #[.int .i64 r1, .int .i64 q1, .slice A1 n1 c1] 27)).alloc (Obj.cells #[.int .i64 r2, .int .i64 q2, .slice A2 n2 c2] 27)) 54 (.int .i64 0) (.slice none 0 0))
  have F0 := Lib.hid (Free.new ((w.alloc (Obj.cells #[.int .i64 r1, .int .i64 q1, .slice A1 n1 c1] 27)).alloc (Obj.cells #[.int .i64 r2, .int .i64 q2, .slice A2 n2 c2] 27)) 54 #[.int .i64 0, .slice none 0 0])
  simp only [World.size_alloc] at Kb0 T0 F0
  have HB0 := Lib.hid (al3 w (Obj.cells #[.int .i64 r1, .int .i64 q1, .slice A1 n1 c1] 27) (Obj.cells #[.int .i64 r2, .int .i64 q2, .slice A2 n2 c2] 27) (Obj.cells #[.int .i64 0, .slice none 0 0] 54))
  go_enter Try.func49, Try.ntmps49
  go_wp2_with fail
  refine HM.out.mono ?_
  rintro e w1 ⟨A3, c3, rfl, hown, hb⟩
  have O1 := Lib.hid hown
  clear hown
  have s1 : w.heap.size + 1 + 1 < w1.heap.size := by have := hb.size; simp at this; omega
  have Ka1 := Lib.hid (Ka0.out.below hb (by simp <;> omega))
  have Kb1 := Lib.hid (Kb0.out.below hb (by simp <;> omega))
  have T1 := Lib.hid (T0.out.below hb (by simp <;> omega))
  have F1 := Lib.hid (F0.out.below hb (by simp <;> omega))
  have HB1 := Lib.hid (on3 _ _ _ hb)
  clear hb Ka0 Kb0 T0 F0 HB0
  obtain ⟨k0, k1, k2⟩ := Ka1.out
  obtain ⟨l0, l1, l2⟩ := Kb1.out
  go_wp2_with fail
  refine (iszero_impl _ _ A3 pp.length c3 pp _ ((O1.out.ints).into (al1 _ _)) (by omega)).mono ?_
  intro e w2 hs
  obtain ⟨rfl, hb⟩ := hs.no HPP.out
  clear hs k0 k1 k2 l0 l1 l2 O1
  have hbx := on1 _ hb
  have s2 : w.heap.size + 1 + 1 < w2.heap.size := by have := hbx.size; omega
  have Ka2 := Lib.hid (Ka1.out.below hbx (by omega))
  have Kb2 := Lib.hid (Kb1.out.below hbx (by omega))
  have T2 := Lib.hid (T1.out.below hbx (by omega))
  have F2 := Lib.hid (F1.out.below hbx (by omega))
  have HB2 := Lib.hid (HB1.out.trans (hbx.mono (by omega)))
  have u2 := hbx.size
  clear hbx
  clear hb Ka1 Kb1 T1 F1 HB1
  obtain ⟨n0, n1'⟩ := T2.out
  have f0 := F2.out
  unfold Free at f0
  go_wp2
  refine bodyPost_ret (v := .tuple #[.agg #[.int .i64 0, .slice none 0 0], .int .i64 5]) (by simp [results, Try.results49, n0, n1', s2, go_sem]) rfl ⟨none, 0, rfl, Own.none_ _ _ _, ?_⟩
  exact (HB2.out.setCell (by dsimp only; omega) _).setCell (by dsimp only; omega) _

set_option maxRecDepth 100000 in
set_option maxHeartbeats 8000000 in
theorem hom_impl_cok (r1 q1 r2 q2 : Int) (A1 A2 : Option Addr) (n1 c1 n2 c2 : Nat) (w : World) (rr qq : Int) (pp : List Int) (hpl : pp.length ≤ 2304) (code : Int) (hcode : code ≠ 0)
    (hpp : ∀ i, i < pp.length → pp.getD i 0 = 0)
    (hM : Calls Try.prog 28 #[.agg #[.int .i64 r2, .int .i64 q2, .slice A2 n2 c2], .agg #[.int .i64 r1, .int .i64 q1, .slice A1 n1 c1]] (((w.alloc (Obj.cells #[.int .i64 r1, .int .i64 q1, .slice A1 n1 c1] 27)).alloc (Obj.cells #[.int .i64 r2, .int .i64 q2, .slice A2 n2 c2] 27)).alloc (Obj.cells #[.int .i64 0, .slice none 0 0] 54)) (ResM (((w.alloc (Obj.cells #[.int .i64 r1, .int .i64 q1, .slice A1 n1 c1] 27)).alloc (Obj.cells #[.int .i64 r2, .int .i64 q2, .slice A2 n2 c2] 27)).alloc (Obj.cells #[.int .i64 0, .slice none 0 0] 54)) rr qq pp (.int .i64 0)))
    (hC : ∀ W : World, Below w.heap.size w W → Calls Try.prog 44 #[.agg #[.int .i64 r1, .int .i64 q1, .slice A1 n1 c1]] W (ResGC W 0 [] code)) :
    Calls Try.prog 49 #[.agg #[.int .i64 r1, .int .i64 q1, .slice A1 n1 c1], .agg #[.int .i64 r2, .int .i64 q2, .slice A2 n2 c2]] w (ResGC w 0 [] code) := by
  have HM := Lib.hid hM
  clear hM
  have HPP := Lib.hid hpp
  clear hpp
  have HC := Lib.hid hC
  clear hC
  have t1 : (code != 0) = true := by simpa using hcode
  clear hcode
  have Ka0 := Lib.hid (((Box3.new w 27 (.int .i64 r1) (.int .i64 q1) (.slice A1 n1 c1)).below (al1 _ (Obj.cells #[.int .i64 r2, .int .i64 q2, .slice A2 n2 c2] 27)) (by simp)).below (al1 ((w.alloc (Obj.cells #[.int .i64 r1, .int .i64 q1, .slice A1 n1 c1] 27)).alloc (Obj.cells #[.int .i64 r2, .int .i64 q2, .slice A2 n2 c2] 27)) (Obj.cells #[.int .i64 0, .slice none 0 0] 54)) (by simp; omega))
  have Kb0 := Lib.hid ((Box3.new (w.alloc (Obj.cells #[.int .i64 r1, .int .i64 q1, .slice A1 n1 c1] 27)) 27 (.int .i64 r2) (.int .i64 q2) (.slice A2 n2 c2)).below (al1 ((w.alloc (Obj.cells #[.int .i64 r1, .int .i64 q1, .slice A1 n1 c1] 27)).alloc (Obj.cells #[.int .i64 r2, .int .i64 q2, .slice A2 n2 c2] 27)) (Obj.cells #[.int .i64 0, .slice none 0 0] 54)) (by simp))
  have T0 := Lib.hid (BoxG.new ((w.alloc (Obj.cells #[.int .i64 r1, .int .i64 q1, .slice A1 n1 c1] 27)).alloc (Obj.cells #[.int .i64 r2, .int .i64 q2, .slice A2 n2 c2] 27)) 54 (.int .i64 0) (.slice none 0 0))
  have F0 := Lib.hid (Free.new ((w.alloc (Obj.cells #[.int .i64 r1, .int .i64 q1, .slice A1 n1 c1] 27)).alloc (Obj.cells #[.int .i64 r2, .int .i64 q2, .slice A2 n2 c2] 27)) 54 #[.int .i64 0, .slice none 0 0])
  simp only [World.size_alloc] at Kb0 T0 F0
  have HB0 := Lib.hid (al3 w (Obj.cells #[.int .i64 r1, .int .i64 q1, .slice A1 n1 c1] 27) (Obj.cells #[.int .i64 r2, .int .i64 q2, .slice A2 n2 c2] 27) (Obj.cells #[.int .i64 0, .slice none 0 0] 54))
  go_enter Try.func49, Try.ntmps49
  go_wp2_with fail
  refine HM.out.mono ?_
  rintro e w1 ⟨A3, c3, rfl, hown, hb⟩
  have O1 := Lib.hid hown
  clear hown
  have s1 : w.heap.size + 1 + 1 < w1.heap.size := by have := hb.size; simp at this; omega
  have Ka1 := Lib.hid (Ka0.out.below hb (by simp <;> omega))
  have Kb1 := Lib.hid (Kb0.out.below hb (by simp <;> omega))
  have T1 := Lib.hid (T0.out.below hb (by simp <;> omega))
  have F1 := Lib.hid (F0.out.below hb (by simp <;> omega))
  have HB1 := Lib.hid (on3 _ _ _ hb)
  clear hb Ka0 Kb0 T0 F0 HB0
  obtain ⟨k0, k1, k2⟩ := Ka1.out
  obtain ⟨l0, l1, l2⟩ := Kb1.out
  go_wp2_with fail
  refine (iszero_impl _ _ A3 pp.length c3 pp _ ((O1.out.ints).into (al1 _ _)) (by omega)).mono ?_
  intro e w2 hs
  obtain ⟨rfl, hb⟩ := hs.yes HPP.out
  clear hs k0 k1 k2 l0 l1 l2 O1
  have hbx := on1 _ hb
  have s2 : w.heap.size + 1 + 1 < w2.heap.size := by have := hbx.size; omega
  have Ka2 := Lib.hid (Ka1.out.below hbx (by omega))
  have Kb2 := Lib.hid (Kb1.out.below hbx (by omega))
  have T2 := Lib.hid (T1.out.below hbx (by omega))
  have F2 := Lib.hid (F1.out.below hbx (by omega))
  have HB2 := Lib.hid (HB1.out.trans (hbx.mono (by omega)))
  have u2 := hbx.size
  clear hbx
  clear hb Ka1 Kb1 T1 F1 HB1
  obtain ⟨k0, k1, k2⟩ := Ka2.out
  obtain ⟨l0, l1, l2⟩ := Kb2.out
  go_wp2_with fail
  refine (HC.out _ HB2.out).mono ?_
  rintro e w3 ⟨A4, c4, rfl, hown, hb⟩
  have O3 := Lib.hid hown
  clear hown k0 k1 k2 l0 l1 l2
  have hbx := hb
  have s3 : w.heap.size + 1 + 1 < w3.heap.size := by have := hbx.size; omega
  have Ka3 := Lib.hid (Ka2.out.below hbx (by omega))
  have Kb3 := Lib.hid (Kb2.out.below hbx (by omega))
  have T3 := Lib.hid (T2.out.below hbx (by omega))
  have F3 := Lib.hid (F2.out.below hbx (by omega))
  have HB3 := Lib.hid (HB2.out.trans (hbx.mono (by omega)))
  have u3 := hbx.size
  clear hbx
  clear hb Ka2 Kb2 T2 F2 HB2
  obtain ⟨n0, n1'⟩ := T3.out
  have f0 := F3.out
  unfold Free at f0
  go_wp2
  refine bodyPost_ret (v := .tuple #[.agg #[.int .i64 0, .slice none 0 0], .int .i64 code]) (by simp [results, Try.results49, n0, n1', s3, go_sem]) rfl ⟨none, 0, rfl, Own.none_ _ _ _, ?_⟩
  first
    | exact ((HB3.out.setCell (by dsimp only; omega) _).setCell (by dsimp only; omega) _).alloc (by simp [World.setCell]; omega) _
    | exact ((HB3.out.alloc (by omega) _).setCell (by dsimp only; omega) _).setCell (by dsimp only; omega) _
    | exact (((HB3.out.setCell (by dsimp only; omega) _).setCell (by dsimp only; omega) _).alloc (by simp [World.setCell]; omega) _).alloc (by simp [World.setCell]; omega) _

set_option maxRecDepth 100000 in
set_option maxHeartbeats 8000000 in
theorem hom_impl_rank (r1 q1 r2 q2 : Int) (A1 A2 : Option Addr) (n1 c1 n2 c2 : Nat) (w : World) (rr qq : Int) (pp : List Int) (hpl : pp.length ≤ 2304) (rk : Int) (ll : List Int) (x code : Int) (hcode : code ≠ 0)
    (hpp : ∀ i, i < pp.length → pp.getD i 0 = 0)
    (hM : Calls Try.prog 28 #[.agg #[.int .i64 r2, .int .i64 q2, .slice A2 n2 c2], .agg #[.int .i64 r1, .int .i64 q1, .slice A1 n1 c1]] (((w.alloc (Obj.cells #[.int .i64 r1, .int .i64 q1, .slice A1 n1 c1] 27)).alloc (Obj.cells #[.int .i64 r2, .int .i64 q2, .slice A2 n2 c2] 27)).alloc (Obj.cells #[.int .i64 0, .slice none 0 0] 54)) (ResM (((w.alloc (Obj.cells #[.int .i64 r1, .int .i64 q1, .slice A1 n1 c1] 27)).alloc (Obj.cells #[.int .i64 r2, .int .i64 q2, .slice A2 n2 c2] 27)).alloc (Obj.cells #[.int .i64 0, .slice none 0 0] 54)) rr qq pp (.int .i64 0)))
    (hC : ∀ W : World, Below w.heap.size w W → Calls Try.prog 44 #[.agg #[.int .i64 r1, .int .i64 q1, .slice A1 n1 c1]] W (ResGC W rk ll 0))
    (hR : ∀ W : World, Below w.heap.size w W → Calls Try.prog 42 #[.agg #[.int .i64 r2, .int .i64 q2, .slice A2 n2 c2]] W fun e w' => e = .returned (.tuple #[.int .i64 x, .int .i64 code]) ∧ Below W.heap.size W w') :
    Calls Try.prog 49 #[.agg #[.int .i64 r1, .int .i64 q1, .slice A1 n1 c1], .agg #[.int .i64 r2, .int .i64 q2, .slice A2 n2 c2]] w (ResGC w 0 [] code) := by
  have HM := Lib.hid hM
  clear hM
  have HPP := Lib.hid hpp
  clear hpp
  have HC := Lib.hid hC
  clear hC
  have HR := Lib.hid hR
  clear hR
  have t1 : (code != 0) = true := by simpa using hcode
  clear hcode
  have Ka0 := Lib.hid (((Box3.new w 27 (.int .i64 r1) (.int .i64 q1) (.slice A1 n1 c1)).below (al1 _ (Obj.cells #[.int .i64 r2, .int .i64 q2, .slice A2 n2 c2] 27)) (by simp)).below (al1 ((w.alloc (Obj.cells #[.int .i64 r1, .int .i64 q1, .slice A1 n1 c1] 27)).alloc (Obj.cells #[.int .i64 r2, .int .i64 q2, .slice A2 n2 c2] 27)) (Obj.cells #[.int .i64 0, .slice none 0 0] 54)) (by simp; omega))
  have Kb0 := Lib.hid ((Box3.new (w.alloc (Obj.cells #[.int .i64 r1, .int .i64 q1, .slice A1 n1 c1] 27)) 27 (.int .i64 r2) (.int .i64 q2) (.slice A2 n2 c2)).below (al1 ((w.alloc (Obj.cells #[.int .i64 r1, .int .i64 q1, .slice A1 n1 c1] 27)).alloc (Obj.cells #[.int .i64 r2, .int .i64 q2, .slice A2 n2 c2] 27)) (Obj.cells #[.int .i64 0, .slice none 0 0] 54)) (by simp))
  have T0 := Lib.hid (BoxG.new ((w.alloc (Obj.cells #[.int .i64 r1, .int .i64 q1, .slice A1 n1 c1] 27)).alloc (Obj.cells #[.int .i64 r2, .int .i64 q2, .slice A2 n2 c2] 27)) 54 (.int .i64 0) (.slice none 0 0))
  have F0 := Lib.hid (Free.new ((w.alloc (Obj.cells #[.int .i64 r1, .int .i64 q1, .slice A1 n1 c1] 27)).alloc (Obj.cells #[.int .i64 r2, .int .i64 q2, .slice A2 n2 c2] 27)) 54 #[.int .i64 0, .slice none 0 0])
  simp only [World.size_alloc] at Kb0 T0 F0
  have HB0 := Lib.hid (al3 w (Obj.cells #[.int .i64 r1, .int .i64 q1, .slice A1 n1 c1] 27) (Obj.cells #[.int .i64 r2, .int .i64 q2, .slice A2 n2 c2] 27) (Obj.cells #[.int .i64 0, .slice none 0 0] 54))
  go_enter Try.func49, Try.ntmps49
  go_wp2_with fail
  refine HM.out.mono ?_
  rintro e w1 ⟨A3, c3, rfl, hown, hb⟩
  have O1 := Lib.hid hown
  clear hown
  have s1 : w.heap.size + 1 + 1 < w1.heap.size := by have := hb.size; simp at this; omega
  have Ka1 := Lib.hid (Ka0.out.below hb (by simp <;> omega))
  have Kb1 := Lib.hid (Kb0.out.below hb (by simp <;> omega))
  have T1 := Lib.hid (T0.out.below hb (by simp <;> omega))
  have F1 := Lib.hid (F0.out.below hb (by simp <;> omega))
  have HB1 := Lib.hid (on3 _ _ _ hb)
  clear hb Ka0 Kb0 T0 F0 HB0
  obtain ⟨k0, k1, k2⟩ := Ka1.out
  obtain ⟨l0, l1, l2⟩ := Kb1.out
  go_wp2_with fail
  refine (iszero_impl _ _ A3 pp.length c3 pp _ ((O1.out.ints).into (al1 _ _)) (by omega)).mono ?_
  intro e w2 hs
  obtain ⟨rfl, hb⟩ := hs.yes HPP.out
  clear hs k0 k1 k2 l0 l1 l2 O1
  have hbx := on1 _ hb
  have s2 : w.heap.size + 1 + 1 < w2.heap.size := by have := hbx.size; omega
  have Ka2 := Lib.hid (Ka1.out.below hbx (by omega))
  have Kb2 := Lib.hid (Kb1.out.below hbx (by omega))
  have T2 := Lib.hid (T1.out.below hbx (by omega))
  have F2 := Lib.hid (F1.out.below hbx (by omega))
  have HB2 := Lib.hid (HB1.out.trans (hbx.mono (by omega)))
  have u2 := hbx.size
  clear hbx
  clear hb Ka1 Kb1 T1 F1 HB1
  obtain ⟨k0, k1, k2⟩ := Ka2.out
  obtain ⟨l0, l1, l2⟩ := Kb2.out
  go_wp2_with fail
  refine (HC.out _ HB2.out).mono ?_
  rintro e w3 ⟨A4, c4, rfl, hown, hb⟩
  have O3 := Lib.hid hown
  clear hown k0 k1 k2 l0 l1 l2
  have hbx := hb
  have s3 : w.heap.size + 1 + 1 < w3.heap.size := by have := hbx.size; omega
  have Ka3 := Lib.hid (Ka2.out.below hbx (by omega))
  have Kb3 := Lib.hid (Kb2.out.below hbx (by omega))
  have T3 := Lib.hid (T2.out.below hbx (by omega))
  have F3 := Lib.hid (F2.out.below hbx (by omega))
  have HB3 := Lib.hid (HB2.out.trans (hbx.mono (by omega)))
  have u3 := hbx.size
  clear hbx
  clear hb Ka2 Kb2 T2 F2 HB2
  have G3 := Lib.hid (BoxG.new w3 54 (.int .i64 rk) (.slice A4 ll.length c4))
  have FG3 := Lib.hid (Free.new w3 54 #[.int .i64 rk, .slice A4 ll.length c4])
  have AL := Lib.hid (al1 w3 (Obj.cells #[.int .i64 rk, .slice A4 ll.length c4] 54))
  have v3a : w.heap.size < w3.heap.size := by omega
  have v3b : w.heap.size + 1 < w3.heap.size := by omega
  obtain ⟨k0, k1, k2⟩ := Ka3.out
  obtain ⟨l0, l1, l2⟩ := Kb3.out
  go_wp2_with fail
  refine (HR.out _ (HB3.out.alloc HB3.out.size _)).mono ?_
  rintro e w4 ⟨rfl, hb⟩
  have G4 := Lib.hid (G3.out.below hb (by simp))
  have FG4 := Lib.hid (FG3.out.below hb (by simp))
  have hb3 := on1 _ hb
  have O4 := Lib.hid (O3.out.below hb3 (Nat.le_refl _))
  have v4 : w3.heap.size < w4.heap.size := by have := hb.size; simp at this; omega
  clear hb3 G3 FG3 AL O3 k0 k1 k2 l0 l1 l2
  have hbx := on1 _ hb
  have s4 : w.heap.size + 1 + 1 < w4.heap.size := by have := hbx.size; omega
  have Ka4 := Lib.hid (Ka3.out.below hbx (by omega))
  have Kb4 := Lib.hid (Kb3.out.below hbx (by omega))
  have T4 := Lib.hid (T3.out.below hbx (by omega))
  have F4 := Lib.hid (F3.out.below hbx (by omega))
  have HB4 := Lib.hid (HB3.out.trans (hbx.mono (by omega)))
  have u4 := hbx.size
  clear hbx
  clear hb Ka3 Kb3 T3 F3 HB3
  obtain ⟨n0, n1'⟩ := T4.out
  have f0 := F4.out
  unfold Free at f0
  go_wp2
  refine bodyPost_ret (v := .tuple #[.agg #[.int .i64 0, .slice none 0 0], .int .i64 code]) (by simp [results, Try.results49, n0, n1', s4, go_sem]) rfl ⟨none, 0, rfl, Own.none_ _ _ _, ?_⟩
  exact (HB4.out.setCell (by dsimp only; omega) _).setCell (by dsimp only; omega) _

set_option maxRecDepth 100000 in
set_option maxHeartbeats 8000000 in
theorem hom_impl_ok (r1 q1 r2 q2 : Int) (A1 A2 : Option Addr) (n1 c1 n2 c2 : Nat) (w : World) (rr qq : Int) (pp : List Int) (hpl : pp.length ≤ 2304) (rk : Int) (ll : List Int) (x : Int) (hx0 : -1000 ≤ rk - x) (hx1 : rk - x ≤ 1000)
    (hpp : ∀ i, i < pp.length → pp.getD i 0 = 0)
    (hM : Calls Try.prog 28 #[.agg #[.int .i64 r2, .int .i64 q2, .slice A2 n2 c2], .agg #[.int .i64 r1, .int .i64 q1, .slice A1 n1 c1]] (((w.alloc (Obj.cells #[.int .i64 r1, .int .i64 q1, .slice A1 n1 c1] 27)).alloc (Obj.cells #[.int .i64 r2, .int .i64 q2, .slice A2 n2 c2] 27)).alloc (Obj.cells #[.int .i64 0, .slice none 0 0] 54)) (ResM (((w.alloc (Obj.cells #[.int .i64 r1, .int .i64 q1, .slice A1 n1 c1] 27)).alloc (Obj.cells #[.int .i64 r2, .int .i64 q2, .slice A2 n2 c2] 27)).alloc (Obj.cells #[.int .i64 0, .slice none 0 0] 54)) rr qq pp (.int .i64 0)))
    (hC : ∀ W : World, Below w.heap.size w W → Calls Try.prog 44 #[.agg #[.int .i64 r1, .int .i64 q1, .slice A1 n1 c1]] W (ResGC W rk ll 0))
    (hR : ∀ W : World, Below w.heap.size w W → Calls Try.prog 42 #[.agg #[.int .i64 r2, .int .i64 q2, .slice A2 n2 c2]] W fun e w' => e = .returned (.tuple #[.int .i64 x, .int .i64 0]) ∧ Below W.heap.size W w') :
    Calls Try.prog 49 #[.agg #[.int .i64 r1, .int .i64 q1, .slice A1 n1 c1], .agg #[.int .i64 r2, .int .i64 q2, .slice A2 n2 c2]] w (ResGC w (rk - x) ll 0) := by
  have HM := Lib.hid hM
  clear hM
  have HPP := Lib.hid hpp
  clear hpp
  have HC := Lib.hid hC
  clear hC
  have HR := Lib.hid hR
  clear hR
  have Ka0 := Lib.hid (((Box3.new w 27 (.int .i64 r1) (.int .i64 q1) (.slice A1 n1 c1)).below (al1 _ (Obj.cells #[.int .i64 r2, .int .i64 q2, .slice A2 n2 c2] 27)) (by simp)).below (al1 ((w.alloc (Obj.cells #[.int .i64 r1, .int .i64 q1, .slice A1 n1 c1] 27)).alloc (Obj.cells #[.int .i64 r2, .int .i64 q2, .slice A2 n2 c2] 27)) (Obj.cells #[.int .i64 0, .slice none 0 0] 54)) (by simp; omega))
  have Kb0 := Lib.hid ((Box3.new (w.alloc (Obj.cells #[.int .i64 r1, .int .i64 q1, .slice A1 n1 c1] 27)) 27 (.int .i64 r2) (.int .i64 q2) (.slice A2 n2 c2)).below (al1 ((w.alloc (Obj.cells #[.int .i64 r1, .int .i64 q1, .slice A1 n1 c1] 27)).alloc (Obj.cells #[.int .i64 r2, .int .i64 q2, .slice A2 n2 c2] 27)) (Obj.cells #[.int .i64 0, .slice none 0 0] 54)) (by simp))
  have T0 := Lib.hid (BoxG.new ((w.alloc (Obj.cells #[.int .i64 r1, .int .i64 q1, .slice A1 n1 c1] 27)).alloc (Obj.cells #[.int .i64 r2, .int .i64 q2, .slice A2 n2 c2] 27)) 54 (.int .i64 0) (.slice none 0 0))
  have F0 := Lib.hid (Free.new ((w.alloc (Obj.cells #[.int .i64 r1, .int .i64 q1, .slice A1 n1 c1] 27)).alloc (Obj.cells #[.int .i64 r2, .int .i64 q2, .slice A2 n2 c2] 27)) 54 #[.int .i64 0, .slice none 0 0])
  simp only [World.size_alloc] at Kb0 T0 F0
  have HB0 := Lib.hid (al3 w (Obj.cells #[.int .i64 r1, .int .i64 q1, .slice A1 n1 c1] 27) (Obj.cells #[.int .i64 r2, .int .i64 q2, .slice A2 n2 c2] 27) (Obj.cells #[.int .i64 0, .slice none 0 0] 54))
  go_enter Try.func49, Try.ntmps49
  go_wp2_with fail
  refine HM.out.mono ?_
  rintro e w1 ⟨A3, c3, rfl, hown, hb⟩
  have O1 := Lib.hid hown
  clear hown
  have s1 : w.heap.size + 1 + 1 < w1.heap.size := by have := hb.size; simp at this; omega
  have Ka1 := Lib.hid (Ka0.out.below hb (by simp <;> omega))
  have Kb1 := Lib.hid (Kb0.out.below hb (by simp <;> omega))
  have T1 := Lib.hid (T0.out.below hb (by simp <;> omega))
  have F1 := Lib.hid (F0.out.below hb (by simp <;> omega))
  have HB1 := Lib.hid (on3 _ _ _ hb)
  clear hb Ka0 Kb0 T0 F0 HB0
  obtain ⟨k0, k1, k2⟩ := Ka1.out
  obtain ⟨l0, l1, l2⟩ := Kb1.out
  go_wp2_with fail
  refine (iszero_impl _ _ A3 pp.length c3 pp _ ((O1.out.ints).into (al1 _ _)) (by omega)).mono ?_
  intro e w2 hs
  obtain ⟨rfl, hb⟩ := hs.yes HPP.out
  clear hs k0 k1 k2 l0 l1 l2 O1
  have hbx := on1 _ hb
  have s2 : w.heap.size + 1 + 1 < w2.heap.size := by have := hbx.size; omega
  have Ka2 := Lib.hid (Ka1.out.below hbx (by omega))
  have Kb2 := Lib.hid (Kb1.out.below hbx (by omega))
  have T2 := Lib.hid (T1.out.below hbx (by omega))
  have F2 := Lib.hid (F1.out.below hbx (by omega))
  have HB2 := Lib.hid (HB1.out.trans (hbx.mono (by omega)))
  have u2 := hbx.size
  clear hbx
  clear hb Ka1 Kb1 T1 F1 HB1
  obtain ⟨k0, k1, k2⟩ := Ka2.out
  obtain ⟨l0, l1, l2⟩ := Kb2.out
  go_wp2_with fail
  refine (HC.out _ HB2.out).mono ?_
  rintro e w3 ⟨A4, c4, rfl, hown, hb⟩
  have O3 := Lib.hid hown
  clear hown k0 k1 k2 l0 l1 l2
  have hbx := hb
  have s3 : w.heap.size + 1 + 1 < w3.heap.size := by have := hbx.size; omega
  have Ka3 := Lib.hid (Ka2.out.below hbx (by omega))
  have Kb3 := Lib.hid (Kb2.out.below hbx (by omega))
  have T3 := Lib.hid (T2.out.below hbx (by omega))
  have F3 := Lib.hid (F2.out.below hbx (by omega))
  have HB3 := Lib.hid (HB2.out.trans (hbx.mono (by omega)))
  have u3 := hbx.size
  clear hbx
  clear hb Ka2 Kb2 T2 F2 HB2
  have G3 := Lib.hid (BoxG.new w3 54 (.int .i64 rk) (.slice A4 ll.length c4))
  have FG3 := Lib.hid (Free.new w3 54 #[.int .i64 rk, .slice A4 ll.length c4])
  have AL := Lib.hid (al1 w3 (Obj.cells #[.int .i64 rk, .slice A4 ll.length c4] 54))
  have v3a : w.heap.size < w3.heap.size := by omega
  have v3b : w.heap.size + 1 < w3.heap.size := by omega
  obtain ⟨k0, k1, k2⟩ := Ka3.out
  obtain ⟨l0, l1, l2⟩ := Kb3.out
  go_wp2_with fail
  refine (HR.out _ (HB3.out.alloc HB3.out.size _)).mono ?_
  rintro e w4 ⟨rfl, hb⟩
  have G4 := Lib.hid (G3.out.below hb (by simp))
  have FG4 := Lib.hid (FG3.out.below hb (by simp))
  have hb3 := on1 _ hb
  have O4 := Lib.hid (O3.out.below hb3 (Nat.le_refl _))
  have v4 : w3.heap.size < w4.heap.size := by have := hb.size; simp at this; omega
  clear hb3 G3 FG3 AL O3 k0 k1 k2 l0 l1 l2
  have hbx := on1 _ hb
  have s4 : w.heap.size + 1 + 1 < w4.heap.size := by have := hbx.size; omega
  have Ka4 := Lib.hid (Ka3.out.below hbx (by omega))
  have Kb4 := Lib.hid (Kb3.out.below hbx (by omega))
  have T4 := Lib.hid (T3.out.below hbx (by omega))
  have F4 := Lib.hid (F3.out.below hbx (by omega))
  have HB4 := Lib.hid (HB3.out.trans (hbx.mono (by omega)))
  have u4 := hbx.size
  clear hbx
  clear hb Ka3 Kb3 T3 F3 HB3
  have wr1 : IntKind.i64.wrap (rk - x) = rk - x := IntWalk.i64_in _ (by omega)
  obtain ⟨g0, g1⟩ := G4.out
  have fg := FG4.out
  obtain ⟨n0, n1'⟩ := T4.out
  have f0 := F4.out
  have ne1 : ¬ w3.heap.size = w.heap.size + 1 + 1 := by omega
  have ne2 : ¬ w.heap.size + 1 + 1 = w3.heap.size := by omega
  unfold Free at f0 fg
  go_wp2
  refine bodyPost_ret (v := .tuple #[.agg #[.int .i64 (rk - x), .slice A4 ll.length c4], .int .i64 0]) (by simp [results, Try.results49, n0, n1', g0, g1, s4, ne1, ne2, go_sem]) rfl ⟨A4, c4, rfl, ?_, ?_⟩
  · refine ((((O4.out.far (p := ⟨w3.heap.size, 0, none⟩) (by dsimp only; omega) _).far (p := ⟨w.heap.size + 1 + 1, 0, none⟩) (by dsimp only; omega) _).far (p := ⟨w.heap.size + 1 + 1, 1, none⟩) (by dsimp only; omega) _)).wide (by omega) ?_
    simp [World.setCell]; omega
  · exact ((HB4.out.setCell (by dsimp only; omega) _).setCell (by dsimp only; omega) _).setCell (by dsimp only; omega) _

end Go.Proofs.Ytdbljeglnhefmaa
