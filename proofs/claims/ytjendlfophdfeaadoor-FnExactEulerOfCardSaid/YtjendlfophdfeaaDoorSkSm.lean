/- EulerOf of both sides. No condition but those that each theorem names. -/
import Derived.Test.YtjendlfophdfeaaDoorG1a
namespace Go.Proofs.YtjendlfophdfeaaDoor
open Go.RowKit
namespace Sk
def euV (T : List (List Int)) : Int := if Tr.Is T then cntV T - cntE T + cntF T - T.length else 0
def euC (T : List (List Int)) : Int := if Tr.Is T then 0 else 1
def ResE (w : World) (T : List (List Int)) (e : Ending) (w' : World) : Prop := e = .returned (.tuple #[.int .i64 (euV T), .int .i64 (euC T)]) ∧ Below w.heap.size w w'
set_option maxRecDepth 100000 in
set_option maxHeartbeats 8000000 in
theorem euler_impl (A : Option Addr) (n c : Nat) (T : List (List Int)) (w : World) (h : Fc.RdT w w.heap.size A n T) (hv : Ws w) (hn : n ≤ 1048576) :
    Calls Tryd.prog 50 #[.agg #[.slice A n c]] w (ResE w T) := by
  obtain ⟨U, hU⟩ : ∃ U, U = w.alloc (Obj.cells #[.slice A n c] 29) := ⟨_, rfl⟩
  have hB : Below w.heap.size w U := by rw [hU]; exact al1 _ _
  obtain ⟨z, zb⟩ : U.heap.size ≤ w.heap.size + 1 ∧ w.heap.size + 1 ≤ U.heap.size := by rw [hU]; simp
  have k0 : U.cell? ⟨w.heap.size, 0, none⟩ = some (.slice A n c) := by rw [hU]; simp [go_sem]
  have LN := Lib.hid h.len
  have DU := Lib.hid hB
  have HT := Lib.hid h
  have HV := Lib.hid hv
  have TI := Lib.hid (Fc.isTri_implT A n c T U (h.into hB) (hv.below hB (Nat.le_refl _)).1 hn)
  clear h hv hB
  by_cases hok : Tr.Is T
  case neg =>
    have R := Lib.hid (show euV T = 0 ∧ euC T = 1 from by unfold euV euC; rw [if_neg hok, if_neg hok]; exact ⟨rfl, rfl⟩)
    rw [decide_eq_false hok] at TI
    clear hok
    go_enter Tryd.func50, Tryd.ntmps50
    go_upto_region 1 with fail
    rw [← hU]
    clear hU
    go_wp2_with fail
    (with_reducible refine TI.out.mono ?_)
    rintro e w1 ⟨rfl, hb⟩
    have D1 := Lib.hid (DU.out.trans (hb.mono (by omega)))
    clear hb
    go_wp2
    refine bodyPost_ret (v := .tuple #[.int .i64 0, .int .i64 1]) (by simp [results, Tryd.results50, go_sem]) rfl ?_
    unfold ResE
    rw [R.out.1, R.out.2]
    exact ⟨rfl, D1.out⟩
  rw [decide_eq_true hok] at TI
  have h8 : n ≤ 8 := by rw [← LN.out]; exact hok.1
  have CL := Lib.hid (show ccL T = [(cntV T : Int), cntE T, cntF T, n] from by unfold ccL; rw [if_pos hok, LN.out])
  have R := Lib.hid (show euV T = cntV T - cntE T + cntF T - n ∧ euC T = 0 from by unfold euV euC; rw [if_pos hok, if_pos hok, LN.out]; exact ⟨rfl, rfl⟩)
  obtain ⟨l1, l2, l3⟩ := cnt_le T
  rw [LN.out] at l1 l2 l3
  obtain ⟨q1, hq1⟩ : ∃ q, cntV T = q := ⟨_, rfl⟩
  obtain ⟨q2, hq2⟩ : ∃ q, cntE T = q := ⟨_, rfl⟩
  obtain ⟨q3, hq3⟩ : ∃ q, cntF T = q := ⟨_, rfl⟩
  rw [hq1, hq2, hq3] at R CL
  rw [hq1] at l1
  rw [hq2] at l2
  rw [hq3] at l3
  clear hok hq1 hq2 hq3
  go_enter Tryd.func50, Tryd.ntmps50
  go_upto_region 1 with fail
  rw [← hU]
  clear hU
  go_wp2_with fail
  (with_reducible refine TI.out.mono ?_)
  rintro e w1 ⟨rfl, hb⟩
  have D1 := Lib.hid (DU.out.trans (hb.mono (by omega)))
  have z1 := hb.size
  have k0 := (hb.cell (p := ⟨w.heap.size, 0, none⟩) (by dsimp only; omega)).trans k0
  have CI := Lib.hid (counts_impl A n c T w1 (HT.out.into D1.out) (HV.out.below D1.out (Nat.le_refl _)) hn)
  clear hb TI
  go_wp2_with fail
  (with_reducible refine CI.out.mono ?_)
  rintro e w2 ⟨A2, c2, rfl, hcc, hM, hb⟩
  rw [CL.out] at hM hcc
  rw [CL.out]
  have D2 := Lib.hid (D1.out.trans (hb.mono (by omega)))
  obtain ⟨b, off, rfl, -, hc⟩ := hM.ints.2 (by simp)
  have c0 := hc 0 (by simp)
  have c1 := hc 1 (by simp)
  have c3 := hc 2 (by simp)
  have c4 := hc 3 (by simp)
  simp only [List.getD_cons_zero, List.getD_cons_succ, Nat.add_zero] at c0 c1 c3 c4
  have FIN := Lib.hid (show (0 : Int) + q1 - q2 + q3 - n = euV T from by rw [R.out.1]; omega)
  clear hM hc hcc hb CI k0
  have g1 : (q1 : Int) ≤ 32 := by omega
  have g2 : (q2 : Int) ≤ 48 := by omega
  have g3 : (q3 : Int) ≤ 32 := by omega
  have g4 : (n : Int) ≤ 8 := by omega
  go_wp2
  refine wp_loop_rounds 5 ?_
  rw [rounds_succ]
  go_wp2
  rw [rounds_succ]
  go_wp2
  rw [rounds_succ]
  go_wp2
  rw [rounds_succ]
  go_wp2
  rw [rounds_succ]
  go_wp2
  refine bodyPost_ret (v := .tuple #[.int .i64 (euV T), .int .i64 0]) (by simp [results, Tryd.results50, go_sem]; rw [R.out.1]; omega) rfl ?_
  unfold ResE
  rw [R.out.2]
  exact ⟨rfl, D2.out⟩
set_option maxRecDepth 100000 in
set_option maxHeartbeats 8000000 in
theorem euler_spec (A : Option Addr) (n c : Nat) (T : List (List Int)) (w : World) (h : Fc.RdT w w.heap.size A n T) (hn : n ≤ 1048576) :
    Calls Tryd.prog 49 #[.agg #[.slice A n c]] w (ResE w T) := by
  obtain ⟨U, hU⟩ : ∃ U, U = w.alloc (Obj.cells #[.slice A n c] 29) := ⟨_, rfl⟩
  have hB : Below w.heap.size w U := by rw [hU]; exact al1 _ _
  obtain ⟨z, zb⟩ : U.heap.size ≤ w.heap.size + 1 ∧ w.heap.size + 1 ≤ U.heap.size := by rw [hU]; simp
  have k0 : U.cell? ⟨w.heap.size, 0, none⟩ = some (.slice A n c) := by rw [hU]; simp [go_sem]
  have LN := Lib.hid h.len
  have DU := Lib.hid hB
  have HT := Lib.hid h
  have TI := Lib.hid (Fc.isTri_specT A n c T U (h.into hB) hn)
  clear h hB
  by_cases hok : Tr.Is T
  case neg =>
    have R := Lib.hid (show euV T = 0 ∧ euC T = 1 from by unfold euV euC; rw [if_neg hok, if_neg hok]; exact ⟨rfl, rfl⟩)
    rw [decide_eq_false hok] at TI
    clear hok
    go_enter Tryd.func49, Tryd.ntmps49
    go_upto_region 1 with fail
    rw [← hU]
    clear hU
    go_wp2_with fail
    (with_reducible refine TI.out.mono ?_)
    rintro e w1 ⟨rfl, hb⟩
    have D1 := Lib.hid (DU.out.trans (hb.mono (by omega)))
    clear hb
    go_wp2
    refine bodyPost_ret (v := .tuple #[.int .i64 0, .int .i64 1]) (by simp [results, Tryd.results49, go_sem]) rfl ?_
    unfold ResE
    rw [R.out.1, R.out.2]
    exact ⟨rfl, D1.out⟩
  rw [decide_eq_true hok] at TI
  have h8 : n ≤ 8 := by rw [← LN.out]; exact hok.1
  have IS := Lib.hid hok
  have R := Lib.hid (show euV T = cntV T - cntE T + cntF T - n ∧ euC T = 0 from by unfold euV euC; rw [if_pos hok, if_pos hok, LN.out]; exact ⟨rfl, rfl⟩)
  obtain ⟨l1, l2, l3⟩ := cnt_le T
  rw [LN.out] at l1 l2 l3
  obtain ⟨q1, hq1⟩ : ∃ q, cntV T = q := ⟨_, rfl⟩
  obtain ⟨q2, hq2⟩ : ∃ q, cntE T = q := ⟨_, rfl⟩
  obtain ⟨q3, hq3⟩ : ∃ q, cntF T = q := ⟨_, rfl⟩
  rw [hq1, hq2, hq3] at R
  have QQ := Lib.hid (show [(cntV T : Int), cntE T, cntF T, T.length] = [(q1 : Int), q2, q3, T.length] from by rw [hq1, hq2, hq3])
  rw [hq1] at l1
  rw [hq2] at l2
  rw [hq3] at l3
  clear hok hq1 hq2 hq3
  go_enter Tryd.func49, Tryd.ntmps49
  go_upto_region 1 with fail
  rw [← hU]
  clear hU
  go_wp2_with fail
  (with_reducible refine TI.out.mono ?_)
  rintro e w1 ⟨rfl, hb⟩
  have D1 := Lib.hid (DU.out.trans (hb.mono (by omega)))
  have z1 := hb.size
  have k0 := (hb.cell (p := ⟨w.heap.size, 0, none⟩) (by dsimp only; omega)).trans k0
  have CI := Lib.hid (count_spec A n c T w1 (HT.out.into D1.out) IS.out)
  clear hb TI
  go_wp2_with fail
  (with_reducible refine CI.out.mono ?_)
  rintro e w2 ⟨Av, cv, Ae, ce, Af, cf, Ac, cc, rv, re, rf, rfl, -, -, -, ⟨hcc, hM⟩, hb⟩
  rw [QQ.out, LN.out] at hM
  have z2 := hb.size
  have D2 := Lib.hid (D1.out.trans (hb.mono (by omega)))
  obtain ⟨b, off, rfl, hbl, hc⟩ := hM.ints.2 (by simp)
  have c0 := hc 0 (by simp)
  have c1 := hc 1 (by simp)
  have c3 := hc 2 (by simp)
  have c4 := hc 3 (by simp)
  simp only [List.getD_cons_zero, List.getD_cons_succ, Nat.add_zero] at c0 c1 c3 c4
  have FIN := Lib.hid (show (0 : Int) + q1 - q2 + q3 - n = euV T from by rw [R.out.1]; omega)
  clear hM hc hcc hb CI k0
  have g1 : (q1 : Int) ≤ 32 := by omega
  have g2 : (q2 : Int) ≤ 48 := by omega
  have g3 : (q3 : Int) ≤ 32 := by omega
  have g4 : (n : Int) ≤ 8 := by omega
  obtain ⟨V, hV⟩ : ∃ V, V = w2.alloc (Obj.cells #[.slice Av rv.length cv, .slice Ae re.length ce, .slice Af rf.length cf] 59) := ⟨_, rfl⟩
  have BV : Below w2.heap.size w2 V := by rw [hV]; exact al1 _ _
  have c0 := (BV.cell (p := ⟨b, off, none⟩) hbl).trans c0
  have c1 := (BV.cell (p := ⟨b, off + 1, none⟩) hbl).trans c1
  have c3 := (BV.cell (p := ⟨b, off + 2, none⟩) hbl).trans c3
  have c4 := (BV.cell (p := ⟨b, off + 3, none⟩) hbl).trans c4
  have D3 := Lib.hid (D2.out.trans (BV.mono (by omega)))
  clear BV
  go_upto_region 4 with fail
  rw [← hV]
  clear hV
  go_quiet (fail)
  go_wp2
  refine bodyPost_ret (v := .tuple #[.int .i64 (euV T), .int .i64 0]) (by simp [results, Tryd.results49, go_sem]; rw [R.out.1]) rfl ?_
  unfold ResE
  rw [R.out.2]
  exact ⟨rfl, below_drewN D3.out _⟩
end Sk
end Go.Proofs.YtjendlfophdfeaaDoor
