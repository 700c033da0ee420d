/- Contracts of the specification's sum of two polynomials. No condition but those that each theorem names. -/
import Derived.Test.YtopbfjhgpgjnnaaLauD
import Derived.RegionTactic
namespace Go.Proofs.Ytopbfjhgpgjnnaa
open Go.RowKit

section
variable (r s : Int) (A B : Option Addr) (n ca m cb : Nat) (zs : List Int) (w : World) (hA : Ints w w.heap.size A n zs) (hn : n ≤ 1048576)
include hA hn

set_option maxHeartbeats 2000000 in
theorem add_spec_badA (hP : ¬ Lau.LOk r zs) : Calls Try.prog 21 #[.agg #[.int .i64 r, .slice A n ca], .agg #[.int .i64 s, .slice B m cb]] w (ResLC w 0 [] 1) := by
  have X0 := Lib.hid ((BoxG.new w 27 (.int .i64 r) (.slice A n ca)).below (al2 _ (Obj.cells #[.int .i64 s, .slice B m cb] 27) (Obj.cells #[.int .i64 0, .slice none 0 0] 27)) (by simp))
  have Y0 := Lib.hid ((BoxG.new (w.alloc (Obj.cells #[.int .i64 r, .slice A n ca] 27)) 27 (.int .i64 s) (.slice B m cb)).below (al1 _ (Obj.cells #[.int .i64 0, .slice none 0 0] 27)) (by simp))
  have K0 := Lib.hid (BoxG.new ((w.alloc (Obj.cells #[.int .i64 r, .slice A n ca] 27)).alloc (Obj.cells #[.int .i64 s, .slice B m cb] 27)) 27 (.int .i64 0) (.slice none 0 0))
  have F0 := Lib.hid (Free.new ((w.alloc (Obj.cells #[.int .i64 r, .slice A n ca] 27)).alloc (Obj.cells #[.int .i64 s, .slice B m cb] 27)) 27 #[.int .i64 0, .slice none 0 0])
  have FX0 := Lib.hid ((Free.new w 27 #[.int .i64 r, .slice A n ca]).below (al2 _ (Obj.cells #[.int .i64 s, .slice B m cb] 27) (Obj.cells #[.int .i64 0, .slice none 0 0] 27)) (by simp))
  have FY0 := Lib.hid ((Free.new (w.alloc (Obj.cells #[.int .i64 r, .slice A n ca] 27)) 27 #[.int .i64 s, .slice B m cb]).below (al1 _ (Obj.cells #[.int .i64 0, .slice none 0 0] 27)) (by simp))
  simp only [World.size_alloc] at Y0 K0 F0 FY0
  have HLA := Lib.hid (isLs_no r A n ca zs _ (hA.into (al3 w (Obj.cells #[.int .i64 r, .slice A n ca] 27) (Obj.cells #[.int .i64 s, .slice B m cb] 27) (Obj.cells #[.int .i64 0, .slice none 0 0] 27))) hn hP)
  clear hA hP
  go_enter Try.func21, Try.ntmps21
  go_wp2_with fail
  refine HLA.out.mono ?_
  rintro e1 w1 ⟨rfl, hb⟩
  have s1 : w.heap.size + 1 + 1 < w1.heap.size := by have := hb.size; simp at this; omega
  have X1 := Lib.hid (X0.out.below hb (by simp <;> omega))
  have Y1 := Lib.hid (Y0.out.below hb (by simp <;> omega))
  have K1 := Lib.hid (K0.out.below hb (by simp))
  have F1 := Lib.hid (F0.out.below hb (by simp))
  have FX1 := Lib.hid (FX0.out.below hb (by simp <;> omega))
  have FY1 := Lib.hid (FY0.out.below hb (by simp <;> omega))
  have HB1 := Lib.hid (on3 _ _ _ hb)
  clear hb X0 Y0 K0 F0 FX0 FY0
  obtain ⟨n0, n1⟩ := K1.out
  have f0 := F1.out
  unfold Free at f0
  go_wp2
  refine bodyPost_ret (v := .tuple #[.agg #[.int .i64 0, .slice none 0 0], .int .i64 1]) (by simp [results, Try.results21, n0, n1, go_sem]) rfl ?_
  exact ⟨none, 0, rfl, Mine.none_ _ _ _ _, (HB1.out.setCell (by dsimp only; omega) _).setCell (by dsimp only; omega) _⟩

end

section
variable (r s : Int) (A B : Option Addr) (n ca m cb : Nat) (zs ys : List Int) (w : World) (hA : Ints w w.heap.size A n zs) (hB : Ints w w.heap.size B m ys) (hn : n ≤ 1048576) (hm : m ≤ 1048576)
include hA hB hn hm

set_option maxHeartbeats 2000000 in
theorem ssum_nilA (hz0 : n = 0) (hnc : m ≤ cb) (hcm : cb ≤ maxLen) (hQ : Lau.LOk s ys) : Calls Try.prog 49 #[.agg #[.int .i64 r, .slice A n ca], .agg #[.int .i64 s, .slice B m cb]] w (ResL1 w s ys) := by
  have X0 := Lib.hid ((BoxG.new w 27 (.int .i64 r) (.slice A n ca)).below (al2 _ (Obj.cells #[.int .i64 s, .slice B m cb] 27) (Obj.cells #[.int .i64 0, .slice none 0 0] 27)) (by simp))
  have Y0 := Lib.hid ((BoxG.new (w.alloc (Obj.cells #[.int .i64 r, .slice A n ca] 27)) 27 (.int .i64 s) (.slice B m cb)).below (al1 _ (Obj.cells #[.int .i64 0, .slice none 0 0] 27)) (by simp))
  have K0 := Lib.hid (BoxG.new ((w.alloc (Obj.cells #[.int .i64 r, .slice A n ca] 27)).alloc (Obj.cells #[.int .i64 s, .slice B m cb] 27)) 27 (.int .i64 0) (.slice none 0 0))
  have F0 := Lib.hid (Free.new ((w.alloc (Obj.cells #[.int .i64 r, .slice A n ca] 27)).alloc (Obj.cells #[.int .i64 s, .slice B m cb] 27)) 27 #[.int .i64 0, .slice none 0 0])
  have FX0 := Lib.hid ((Free.new w 27 #[.int .i64 r, .slice A n ca]).below (al2 _ (Obj.cells #[.int .i64 s, .slice B m cb] 27) (Obj.cells #[.int .i64 0, .slice none 0 0] 27)) (by simp))
  have FY0 := Lib.hid ((Free.new (w.alloc (Obj.cells #[.int .i64 r, .slice A n ca] 27)) 27 #[.int .i64 s, .slice B m cb]).below (al1 _ (Obj.cells #[.int .i64 0, .slice none 0 0] 27)) (by simp))
  simp only [World.size_alloc] at Y0 K0 F0 FY0
  have D0 := Lib.hid (al3 w (Obj.cells #[.int .i64 r, .slice A n ca] 27) (Obj.cells #[.int .i64 s, .slice B m cb] 27) (Obj.cells #[.int .i64 0, .slice none 0 0] 27))
  have HX := Lib.hid (hB.into (al3 w (Obj.cells #[.int .i64 r, .slice A n ca] 27) (Obj.cells #[.int .i64 s, .slice B m cb] 27) (Obj.cells #[.int .i64 0, .slice none 0 0] 27)))
  have HT := Lib.hid hQ.trim
  have hlow := hQ.low
  have E1 := Lib.hid hQ.lowOf
  subst hz0
  clear hA hB hQ
  go_enter Try.func49, Try.ntmps49
  obtain ⟨x0, x1⟩ := X0.out
  obtain ⟨y0, y1⟩ := Y0.out
  go_wp2_with fail
  refine (sform_any s B m cb ys 0 ys.length _ HX.out hnc (by omega) hcm (by omega) (by omega) HT.out).mono ?_
  rw [Lau.cut_all, E1.out]
  rintro e2 w2 ⟨A2, c2, rfl, hM, hb⟩
  have s2 : w.heap.size + 1 + 1 < w2.heap.size := by have := hb.size; simp at this; omega
  obtain ⟨n0, n1⟩ := K0.out.below hb (by simp)
  have f0 := F0.out.below hb (by simp)
  unfold Free at f0
  have M2 := Lib.hid hM
  have HB2 := Lib.hid (on3 _ _ _ hb)
  clear hb hM x0 x1 y0 y1
  go_wp2
  refine bodyPost_ret (v := .agg #[.int .i64 s, .slice A2 ys.length c2]) (by simp [results, Try.results49, n0, n1, go_sem]) rfl ?_
  exact ResL1.fin M2.out HB2.out (by omega) (.inl (by simp <;> omega)) (by simp <;> omega) (Nat.le_refl _)

set_option maxHeartbeats 2000000 in
theorem ssum_nilB (hn0 : 0 < n) (hz0 : m = 0) (hnc : n ≤ ca) (hcm : ca ≤ maxLen) (hP : Lau.LOk r zs) : Calls Try.prog 49 #[.agg #[.int .i64 r, .slice A n ca], .agg #[.int .i64 s, .slice B m cb]] w (ResL1 w r zs) := by
  have X0 := Lib.hid ((BoxG.new w 27 (.int .i64 r) (.slice A n ca)).below (al2 _ (Obj.cells #[.int .i64 s, .slice B m cb] 27) (Obj.cells #[.int .i64 0, .slice none 0 0] 27)) (by simp))
  have Y0 := Lib.hid ((BoxG.new (w.alloc (Obj.cells #[.int .i64 r, .slice A n ca] 27)) 27 (.int .i64 s) (.slice B m cb)).below (al1 _ (Obj.cells #[.int .i64 0, .slice none 0 0] 27)) (by simp))
  have K0 := Lib.hid (BoxG.new ((w.alloc (Obj.cells #[.int .i64 r, .slice A n ca] 27)).alloc (Obj.cells #[.int .i64 s, .slice B m cb] 27)) 27 (.int .i64 0) (.slice none 0 0))
  have F0 := Lib.hid (Free.new ((w.alloc (Obj.cells #[.int .i64 r, .slice A n ca] 27)).alloc (Obj.cells #[.int .i64 s, .slice B m cb] 27)) 27 #[.int .i64 0, .slice none 0 0])
  have FX0 := Lib.hid ((Free.new w 27 #[.int .i64 r, .slice A n ca]).below (al2 _ (Obj.cells #[.int .i64 s, .slice B m cb] 27) (Obj.cells #[.int .i64 0, .slice none 0 0] 27)) (by simp))
  have FY0 := Lib.hid ((Free.new (w.alloc (Obj.cells #[.int .i64 r, .slice A n ca] 27)) 27 #[.int .i64 s, .slice B m cb]).below (al1 _ (Obj.cells #[.int .i64 0, .slice none 0 0] 27)) (by simp))
  simp only [World.size_alloc] at Y0 K0 F0 FY0
  have D0 := Lib.hid (al3 w (Obj.cells #[.int .i64 r, .slice A n ca] 27) (Obj.cells #[.int .i64 s, .slice B m cb] 27) (Obj.cells #[.int .i64 0, .slice none 0 0] 27))
  have HX := Lib.hid (hA.into (al3 w (Obj.cells #[.int .i64 r, .slice A n ca] 27) (Obj.cells #[.int .i64 s, .slice B m cb] 27) (Obj.cells #[.int .i64 0, .slice none 0 0] 27)))
  have HT := Lib.hid hP.trim
  have hlow := hP.low
  have E1 := Lib.hid hP.lowOf
  have m0 : ((n : Int) == 0) = false := by simp; omega
  subst hz0
  clear hA hB hP
  go_enter Try.func49, Try.ntmps49
  obtain ⟨x0, x1⟩ := X0.out
  obtain ⟨y0, y1⟩ := Y0.out
  go_wp2_with fail
  refine (sform_any r A n ca zs 0 zs.length _ HX.out hnc (by omega) hcm (by omega) (by omega) HT.out).mono ?_
  rw [Lau.cut_all, E1.out]
  rintro e2 w2 ⟨A2, c2, rfl, hM, hb⟩
  have s2 : w.heap.size + 1 + 1 < w2.heap.size := by have := hb.size; simp at this; omega
  obtain ⟨n0, n1⟩ := K0.out.below hb (by simp)
  have f0 := F0.out.below hb (by simp)
  unfold Free at f0
  have M2 := Lib.hid hM
  have HB2 := Lib.hid (on3 _ _ _ hb)
  clear hb hM x0 x1 y0 y1
  go_wp2
  refine bodyPost_ret (v := .agg #[.int .i64 r, .slice A2 zs.length c2]) (by simp [results, Try.results49, n0, n1, go_sem]) rfl ?_
  exact ResL1.fin M2.out HB2.out (by omega) (.inl (by simp <;> omega)) (by simp <;> omega) (Nat.le_refl _)

set_option maxHeartbeats 8000000 in
theorem ssum_both (L : Int) (dp dq N a b : Nat) (hP : Lau.LOk r zs) (hQ : Lau.LOk s ys) (hn0 : 0 < n) (hm0 : 0 < m) (hL : L = if s < r then s else r) (hdp : r = L + (dp : Int)) (hdq : s = L + (dq : Int)) (hN : N = max (dp + n) (dq + m)) (hT : Lau.Trimmed (Lau.addL N dp zs n dq ys m) a b) :
    Calls Try.prog 49 #[.agg #[.int .i64 r, .slice A n ca], .agg #[.int .i64 s, .slice B m cb]] w (ResL1 w (Lau.lowOf L a b) (Lau.cut (Lau.addL N dp zs n dq ys m) a b)) := by
  have X0 := Lib.hid ((BoxG.new w 27 (.int .i64 r) (.slice A n ca)).below (al2 _ (Obj.cells #[.int .i64 s, .slice B m cb] 27) (Obj.cells #[.int .i64 0, .slice none 0 0] 27)) (by simp))
  have Y0 := Lib.hid ((BoxG.new (w.alloc (Obj.cells #[.int .i64 r, .slice A n ca] 27)) 27 (.int .i64 s) (.slice B m cb)).below (al1 _ (Obj.cells #[.int .i64 0, .slice none 0 0] 27)) (by simp))
  have K0 := Lib.hid (BoxG.new ((w.alloc (Obj.cells #[.int .i64 r, .slice A n ca] 27)).alloc (Obj.cells #[.int .i64 s, .slice B m cb] 27)) 27 (.int .i64 0) (.slice none 0 0))
  have F0 := Lib.hid (Free.new ((w.alloc (Obj.cells #[.int .i64 r, .slice A n ca] 27)).alloc (Obj.cells #[.int .i64 s, .slice B m cb] 27)) 27 #[.int .i64 0, .slice none 0 0])
  have FX0 := Lib.hid ((Free.new w 27 #[.int .i64 r, .slice A n ca]).below (al2 _ (Obj.cells #[.int .i64 s, .slice B m cb] 27) (Obj.cells #[.int .i64 0, .slice none 0 0] 27)) (by simp))
  have FY0 := Lib.hid ((Free.new (w.alloc (Obj.cells #[.int .i64 r, .slice A n ca] 27)) 27 #[.int .i64 s, .slice B m cb]).below (al1 _ (Obj.cells #[.int .i64 0, .slice none 0 0] 27)) (by simp))
  simp only [World.size_alloc] at Y0 K0 F0 FY0
  have D0 := Lib.hid (al3 w (Obj.cells #[.int .i64 r, .slice A n ca] 27) (Obj.cells #[.int .i64 s, .slice B m cb] 27) (Obj.cells #[.int .i64 0, .slice none 0 0] 27))
  have HA := Lib.hid hA
  have HB := Lib.hid hB
  have HT := Lib.hid hT
  have EP := Lib.hid hP.ent'
  have EQ := Lib.hid hQ.ent'
  have hlr := hP.low
  have hls := hQ.low
  have nz : n ≤ 160 := by have := hP.len; have := hA.1; omega
  have mz : m ≤ 160 := by have := hQ.len; have := hB.1; omega
  have hLb : -240 ≤ L ∧ L ≤ 240 := by rw [hL]; split <;> omega
  have m0 : ((n : Int) == 0) = false := by simp; omega
  have m1 : ((m : Int) == 0) = false := by simp; omega
  have HDP := Lib.hid hdp
  have HDQ := Lib.hid hdq
  have dpn : dp + n ≤ N := by omega
  have dqm : dq + m ≤ N := by omega
  have NN : N ≤ 1000 := by omega
  have hmin : (if s < r then s else r) = L := hL.symm
  have hmax : (if r + (n : Int) < s + (m : Int) then s + (m : Int) else r + (n : Int)) = L + (N : Int) := by split <;> omega
  have hdiff : L + (N : Int) - L = (N : Int) := by omega
  have hmk := run_make_ints N (by omega)
  clear hA hB hP hQ hL hdp hdq hN hT
  go_enter Try.func49, Try.ntmps49
  obtain ⟨x0, x1⟩ := X0.out
  obtain ⟨y0, y1⟩ := Y0.out
  go_wp2_with fail
  obtain ⟨W0, hW0⟩ : ∃ W0, W0 = ((w.alloc (Obj.cells #[.int .i64 r, .slice A n ca] 27)).alloc (Obj.cells #[.int .i64 s, .slice B m cb] 27)).alloc (Obj.cells #[.int .i64 0, .slice none 0 0] 27) := ⟨_, rfl⟩
  have s0 : w.heap.size + 1 + 1 < W0.heap.size := by rw [hW0]; simp <;> omega
  have SZ := Lib.hid (show W0.heap.size = w.heap.size + 1 + 1 + 1 by rw [hW0]; simp)
  rw [← hW0] at X0 Y0 K0 F0 D0
  rw [← hW0]
  clear hW0 x0 x1 y0 y1 FX0 FY0 hmin hmax hdiff hmk
  have GZ := Lib.hid (show Blk (W0.alloc (Obj.cells (Array.replicate N (Value.int .i64 0)) 2)) (w.heap.size + 1 + 1 + 1) (List.replicate N 0) from by rw [← SZ.out]; exact Blk.zeros W0 N)
  have DZ := Lib.hid (al1 W0 (Obj.cells (Array.replicate N (Value.int .i64 0)) 2))
  go_loopw [8] (fun x wr => ∃ k : Nat, k ≤ n ∧ x = .int .i64 k ∧ Blk wr (w.heap.size + 1 + 1 + 1) (Lau.addL N dp zs k dq ys 0) ∧ Below W0.heap.size W0 wr) (fun x _ => n - (intOf x).toNat)
  case atStart => exact ⟨0, Nat.zero_le _, rfl, by rw [Lau.addL_zero]; exact GZ.out, DZ.out⟩
  case round =>
    obtain ⟨k, hk, rfl, hblk, hbel⟩ := hrel
    have HG := Lib.hid hblk
    have HL := Lib.hid hbel
    clear hblk hbel
    have DB := Lib.hid (D0.out.trans (HL.out.mono (by omega)))
    obtain ⟨x0, x1⟩ := X0.out.below HL.out (by omega)
    obtain ⟨y0, y1⟩ := Y0.out.below HL.out (by omega)
    by_cases hlt : k < n
    · obtain ⟨b, off, z, rfl, hbw, hz, hc⟩ := (HA.out.below DB.out).at_z hlt
      have hdk : dp + k < N := by omega
      have hcv := HG.out.cell (i := dp + k) (by rw [Lau.addL_len]; exact hdk)
      have hfr := HG.out.frozen (dp + k)
      have hbd := Lau.addL_bound (N := N) (dp := dp) (kp := k) (dq := dq) (kq := 0) EP.out EQ.out (dp + k)
      have hbz := EP.out k
      rw [hz] at hbz
      have Q := Lib.hid (Lau.addL_p (N := N) (dp := dp) (zs := zs) (kp := k) (dq := dq) (ys := ys) hdk)
      rw [hz] at Q
      obtain ⟨v, hv⟩ : ∃ v, (Lau.addL N dp zs k dq ys 0).getD (dp + k) 0 = v := ⟨_, rfl⟩
      rw [hv] at hcv hbd Q
      obtain ⟨v1, v2⟩ := hbd
      obtain ⟨b1, b2⟩ := hbz
      have i0 : (0 : Int) ≤ (dp : Int) + (k : Int) := by omega
      have i1 : (dp : Int) + (k : Int) < (N : Int) := by omega
      have i2 : ((dp : Int) + (k : Int)).toNat = dp + k := by omega
      have i3 : (0 : Int) ≤ (k : Int) := by omega
      have i4 : (k : Int) < (n : Int) := by omega
      have ws1 : IntKind.i64.wrap (r - L) = (dp : Int) := by have := HDP.out; rw [show r - L = (dp : Int) by omega]; exact IntWalk.i64_in _ (by omega)
      have ws2 : IntKind.i64.wrap ((dp : Int) + (k : Int)) = (dp : Int) + (k : Int) := IntWalk.i64_in _ (by omega)
      have ws3 : IntKind.i64.wrap (v + z) = v + z := IntWalk.i64_in _ (by omega)
      have gl := HG.out.lt
      clear hz hv hdk
      go_wp2
      go_region
      all_goals
        go_wp2
        go_roundw
        case rel => exact ⟨k + 1, by omega, by go_num, by rw [← Q.out]; exact (HG.out.drewN _).set_ _ _, (HL.out.trans (Go.Joins.below_draws _ _ _)).setCell (by have := SZ.out; dsimp only; omega) _⟩
        case measure => simp [intOf]; omega
    · obtain rfl : n = k := by omega
      have i4 : ¬ (n : Int) < (n : Int) := by omega
      obtain ⟨w5, rfl⟩ : ∃ w5, w5 = wr := ⟨_, rfl⟩
      go_wp2
      clear x0 x1 y0 y1 DB
      go_loopw [9] (fun x wr => ∃ k : Nat, k ≤ m ∧ x = .int .i64 k ∧ Blk wr (w.heap.size + 1 + 1 + 1) (Lau.addL N dp zs n dq ys k) ∧ Below W0.heap.size W0 wr) (fun x _ => m - (intOf x).toNat)
      case atStart => exact ⟨0, Nat.zero_le _, rfl, HG.out, HL.out⟩
      case round =>
        obtain ⟨k, hk, rfl, hblk, hbel⟩ := hrel
        have HG := Lib.hid hblk
        have HL := Lib.hid hbel
        clear hblk hbel
        have DB := Lib.hid (D0.out.trans (HL.out.mono (by omega)))
        obtain ⟨x0, x1⟩ := X0.out.below HL.out (by omega)
        obtain ⟨y0, y1⟩ := Y0.out.below HL.out (by omega)
        by_cases hlt : k < m
        · obtain ⟨b, off, z, rfl, hbw, hz, hc⟩ := (HB.out.below DB.out).at_z hlt
          have hdk : dq + k < N := by omega
          have hcv := HG.out.cell (i := dq + k) (by rw [Lau.addL_len]; exact hdk)
          have hfr := HG.out.frozen (dq + k)
          have hbd := Lau.addL_bound (N := N) (dp := dp) (kp := n) (dq := dq) (kq := k) EP.out EQ.out (dq + k)
          have hbz := EQ.out k
          rw [hz] at hbz
          have Q := Lib.hid (Lau.addL_q (N := N) (dp := dp) (zs := zs) (kp := n) (dq := dq) (ys := ys) (kq := k) hdk)
          rw [hz] at Q
          obtain ⟨v, hv⟩ : ∃ v, (Lau.addL N dp zs n dq ys k).getD (dq + k) 0 = v := ⟨_, rfl⟩
          rw [hv] at hcv hbd Q
          obtain ⟨v1, v2⟩ := hbd
          obtain ⟨b1, b2⟩ := hbz
          have i0 : (0 : Int) ≤ (dq : Int) + (k : Int) := by omega
          have i1 : (dq : Int) + (k : Int) < (N : Int) := by omega
          have i2 : ((dq : Int) + (k : Int)).toNat = dq + k := by omega
          have i3 : (0 : Int) ≤ (k : Int) := by omega
          have i4 : (k : Int) < (m : Int) := by omega
          have ws1 : IntKind.i64.wrap (s - L) = (dq : Int) := by have := HDQ.out; rw [show s - L = (dq : Int) by omega]; exact IntWalk.i64_in _ (by omega)
          have ws2 : IntKind.i64.wrap ((dq : Int) + (k : Int)) = (dq : Int) + (k : Int) := IntWalk.i64_in _ (by omega)
          have ws3 : IntKind.i64.wrap (v + z) = v + z := IntWalk.i64_in _ (by omega)
          have gl := HG.out.lt
          clear hz hv hdk
          go_wp2
          go_region
          all_goals
            go_wp2
            go_roundw
            case rel => exact ⟨k + 1, by omega, by go_num, by rw [← Q.out]; exact (HG.out.drewN _).set_ _ _, (HL.out.trans (Go.Joins.below_draws _ _ _)).setCell (by have := SZ.out; dsimp only; omega) _⟩
            case measure => simp [intOf]; omega
        · obtain rfl : m = k := by omega
          have i4 : ¬ (m : Int) < (m : Int) := by omega
          go_wp2_with fail
          refine (sform_any L _ N N (Lau.addL N dp zs n dq ys m) a b _ (HG.out.ints (Lau.addL_len _ _ _ _ _ _ _)) (Nat.le_refl _) (by omega) (by unfold maxLen; omega) (by omega) (by omega) HT.out).mono ?_
          rintro e6 w6 ⟨A6, c6, rfl, hM, hb⟩
          have s6 : W0.heap.size ≤ w6.heap.size := by have := hb.size; have := HL.out.size; omega
          have hws : W0.heap.size ≤ wr.heap.size := HL.out.size
          obtain ⟨n0, n1⟩ := (K0.out.below HL.out (by omega)).below hb (by omega)
          have f0 := (F0.out.below HL.out (by omega)).below hb (by omega)
          unfold Free at f0
          have M6 := Lib.hid hM
          have HB6 := Lib.hid (DB.out.trans (hb.mono (by omega)))
          clear hb hM x0 x1 y0 y1
          obtain ⟨ll, hll⟩ : ∃ ll, Lau.cut (Lau.addL N dp zs n dq ys m) a b = ll := ⟨_, rfl⟩
          obtain ⟨rk, hrk⟩ : ∃ rk, Lau.lowOf L a b = rk := ⟨_, rfl⟩
          rw [hll] at M6
          rw [hll, hrk]
          have LL := Lib.hid hll
          have RK := Lib.hid hrk
          clear hll hrk
          go_wp2
          refine bodyPost_ret (v := .agg #[.int .i64 rk, .slice A6 ll.length c6]) (by simp [results, Try.results49, n0, n1, go_sem]) rfl ?_
          rw [LL.out, RK.out]
          exact ResL1.fin M6.out HB6.out (by omega) (.inl (by omega)) (by omega) (Nat.le_refl _)

set_option maxHeartbeats 2000000 in
theorem add_spec_badB (hP : Lau.LOk r zs) (hQ : ¬ Lau.LOk s ys) : Calls Try.prog 21 #[.agg #[.int .i64 r, .slice A n ca], .agg #[.int .i64 s, .slice B m cb]] w (ResLC w 0 [] 1) := by
  have X0 := Lib.hid ((BoxG.new w 27 (.int .i64 r) (.slice A n ca)).below (al2 _ (Obj.cells #[.int .i64 s, .slice B m cb] 27) (Obj.cells #[.int .i64 0, .slice none 0 0] 27)) (by simp))
  have Y0 := Lib.hid ((BoxG.new (w.alloc (Obj.cells #[.int .i64 r, .slice A n ca] 27)) 27 (.int .i64 s) (.slice B m cb)).below (al1 _ (Obj.cells #[.int .i64 0, .slice none 0 0] 27)) (by simp))
  have K0 := Lib.hid (BoxG.new ((w.alloc (Obj.cells #[.int .i64 r, .slice A n ca] 27)).alloc (Obj.cells #[.int .i64 s, .slice B m cb] 27)) 27 (.int .i64 0) (.slice none 0 0))
  have F0 := Lib.hid (Free.new ((w.alloc (Obj.cells #[.int .i64 r, .slice A n ca] 27)).alloc (Obj.cells #[.int .i64 s, .slice B m cb] 27)) 27 #[.int .i64 0, .slice none 0 0])
  have FX0 := Lib.hid ((Free.new w 27 #[.int .i64 r, .slice A n ca]).below (al2 _ (Obj.cells #[.int .i64 s, .slice B m cb] 27) (Obj.cells #[.int .i64 0, .slice none 0 0] 27)) (by simp))
  have FY0 := Lib.hid ((Free.new (w.alloc (Obj.cells #[.int .i64 r, .slice A n ca] 27)) 27 #[.int .i64 s, .slice B m cb]).below (al1 _ (Obj.cells #[.int .i64 0, .slice none 0 0] 27)) (by simp))
  simp only [World.size_alloc] at Y0 K0 F0 FY0
  have HLA := Lib.hid (isLs_yes r A n ca zs _ (hA.into (al3 w (Obj.cells #[.int .i64 r, .slice A n ca] 27) (Obj.cells #[.int .i64 s, .slice B m cb] 27) (Obj.cells #[.int .i64 0, .slice none 0 0] 27))) hn hP)
  have HLB := Lib.hid (fun (W : World) (hb : Below w.heap.size w W) => isLs_no s B m cb ys W (hB.into hb) hm hQ)
  clear hA hB hP hQ
  go_enter Try.func21, Try.ntmps21
  go_wp2_with fail
  refine HLA.out.mono ?_
  rintro e1 w1 ⟨rfl, hb⟩
  have s1 : w.heap.size + 1 + 1 < w1.heap.size := by have := hb.size; simp at this; omega
  have X1 := Lib.hid (X0.out.below hb (by simp <;> omega))
  have Y1 := Lib.hid (Y0.out.below hb (by simp <;> omega))
  have K1 := Lib.hid (K0.out.below hb (by simp))
  have F1 := Lib.hid (F0.out.below hb (by simp))
  have FX1 := Lib.hid (FX0.out.below hb (by simp <;> omega))
  have FY1 := Lib.hid (FY0.out.below hb (by simp <;> omega))
  have HB1 := Lib.hid (on3 _ _ _ hb)
  clear hb X0 Y0 K0 F0 FX0 FY0
  obtain ⟨y0, y1⟩ := Y1.out
  go_wp2_with fail
  refine (HLB.out _ HB1.out).mono ?_
  rintro e1 w2 ⟨rfl, hb⟩
  have s2 : w1.heap.size ≤ w2.heap.size := hb.size
  have X2 := Lib.hid (X1.out.below hb (by omega))
  have Y2 := Lib.hid (Y1.out.below hb (by omega))
  have K2 := Lib.hid (K1.out.below hb (by omega))
  have F2 := Lib.hid (F1.out.below hb (by omega))
  have FX2 := Lib.hid (FX1.out.below hb (by omega))
  have FY2 := Lib.hid (FY1.out.below hb (by omega))
  have HB2 := Lib.hid (HB1.out.trans (hb.mono (by omega)))
  clear hb X1 Y1 K1 F1 FX1 FY1 HB1 y0 y1
  obtain ⟨n0, n1⟩ := K2.out
  have f0 := F2.out
  unfold Free at f0
  go_wp2
  refine bodyPost_ret (v := .tuple #[.agg #[.int .i64 0, .slice none 0 0], .int .i64 1]) (by simp [results, Try.results21, n0, n1, go_sem]) rfl ?_
  exact ⟨none, 0, rfl, Mine.none_ _ _ _ _, (HB2.out.setCell (by dsimp only; omega) _).setCell (by dsimp only; omega) _⟩

set_option maxHeartbeats 4000000 in
theorem add_spec_yes (r1 : Int) (l1 : List Int) (rk : Int) (ll : List Int) (code : Int) (hP : Lau.LOk r zs) (hQ : Lau.LOk s ys) (hl1 : l1.length ≤ 1048576)
    (hS : ∀ W : World, Below w.heap.size w W → Calls Try.prog 49 #[.agg #[.int .i64 r, .slice A n ca], .agg #[.int .i64 s, .slice B m cb]] W (ResL1 W r1 l1)) (ho : LOut r1 l1 rk ll code) : Calls Try.prog 21 #[.agg #[.int .i64 r, .slice A n ca], .agg #[.int .i64 s, .slice B m cb]] w (ResLC w rk ll code) := by
  have X0 := Lib.hid ((BoxG.new w 27 (.int .i64 r) (.slice A n ca)).below (al2 _ (Obj.cells #[.int .i64 s, .slice B m cb] 27) (Obj.cells #[.int .i64 0, .slice none 0 0] 27)) (by simp))
  have Y0 := Lib.hid ((BoxG.new (w.alloc (Obj.cells #[.int .i64 r, .slice A n ca] 27)) 27 (.int .i64 s) (.slice B m cb)).below (al1 _ (Obj.cells #[.int .i64 0, .slice none 0 0] 27)) (by simp))
  have K0 := Lib.hid (BoxG.new ((w.alloc (Obj.cells #[.int .i64 r, .slice A n ca] 27)).alloc (Obj.cells #[.int .i64 s, .slice B m cb] 27)) 27 (.int .i64 0) (.slice none 0 0))
  have F0 := Lib.hid (Free.new ((w.alloc (Obj.cells #[.int .i64 r, .slice A n ca] 27)).alloc (Obj.cells #[.int .i64 s, .slice B m cb] 27)) 27 #[.int .i64 0, .slice none 0 0])
  have FX0 := Lib.hid ((Free.new w 27 #[.int .i64 r, .slice A n ca]).below (al2 _ (Obj.cells #[.int .i64 s, .slice B m cb] 27) (Obj.cells #[.int .i64 0, .slice none 0 0] 27)) (by simp))
  have FY0 := Lib.hid ((Free.new (w.alloc (Obj.cells #[.int .i64 r, .slice A n ca] 27)) 27 #[.int .i64 s, .slice B m cb]).below (al1 _ (Obj.cells #[.int .i64 0, .slice none 0 0] 27)) (by simp))
  simp only [World.size_alloc] at Y0 K0 F0 FY0
  have HLA := Lib.hid (isLs_yes r A n ca zs _ (hA.into (al3 w (Obj.cells #[.int .i64 r, .slice A n ca] 27) (Obj.cells #[.int .i64 s, .slice B m cb] 27) (Obj.cells #[.int .i64 0, .slice none 0 0] 27))) hn hP)
  have HLB := Lib.hid (fun (W : World) (hb : Below w.heap.size w W) => isLs_yes s B m cb ys W (hB.into hb) hm hQ)
  have HS := Lib.hid hS
  have HO := Lib.hid ho
  clear hA hB hP hQ hS ho
  go_enter Try.func21, Try.ntmps21
  go_wp2_with fail
  refine HLA.out.mono ?_
  rintro e1 w1 ⟨rfl, hb⟩
  have s1 : w.heap.size + 1 + 1 < w1.heap.size := by have := hb.size; simp at this; omega
  have X1 := Lib.hid (X0.out.below hb (by simp <;> omega))
  have Y1 := Lib.hid (Y0.out.below hb (by simp <;> omega))
  have K1 := Lib.hid (K0.out.below hb (by simp))
  have F1 := Lib.hid (F0.out.below hb (by simp))
  have FX1 := Lib.hid (FX0.out.below hb (by simp <;> omega))
  have FY1 := Lib.hid (FY0.out.below hb (by simp <;> omega))
  have HB1 := Lib.hid (on3 _ _ _ hb)
  clear hb X0 Y0 K0 F0 FX0 FY0
  obtain ⟨y0, y1⟩ := Y1.out
  go_wp2_with fail
  refine (HLB.out _ HB1.out).mono ?_
  rintro e1 w2 ⟨rfl, hb⟩
  have s2 : w1.heap.size ≤ w2.heap.size := hb.size
  have X2 := Lib.hid (X1.out.below hb (by omega))
  have Y2 := Lib.hid (Y1.out.below hb (by omega))
  have K2 := Lib.hid (K1.out.below hb (by omega))
  have F2 := Lib.hid (F1.out.below hb (by omega))
  have FX2 := Lib.hid (FX1.out.below hb (by omega))
  have FY2 := Lib.hid (FY1.out.below hb (by omega))
  have HB2 := Lib.hid (HB1.out.trans (hb.mono (by omega)))
  clear hb X1 Y1 K1 F1 FX1 FY1 HB1 y0 y1
  obtain ⟨x0, x1⟩ := X2.out
  obtain ⟨y0, y1⟩ := Y2.out
  go_wp2_with fail
  refine (HS.out _ HB2.out).mono ?_
  rintro e3 w3 ⟨A3, c3, rfl, hM, hb⟩
  have s3 : w2.heap.size ≤ w3.heap.size := hb.size
  have X3 := Lib.hid (X2.out.below hb (by omega))
  have Y3 := Lib.hid (Y2.out.below hb (by omega))
  have K3 := Lib.hid (K2.out.below hb (by omega))
  have F3 := Lib.hid (F2.out.below hb (by omega))
  have FX3 := Lib.hid (FX2.out.below hb (by omega))
  have FY3 := Lib.hid (FY2.out.below hb (by omega))
  have HB3 := Lib.hid (HB2.out.trans (hb.mono (by omega)))
  have M3 := Lib.hid hM
  clear hb hM x0 x1 y0 y1 X2 Y2 K2 F2 FX2 FY2 HB2
  go_wp2_with fail
  refine (sif_any r1 A3 l1.length c3 l1 rk ll code w2.heap.size w3.heap.size w3 M3.out (Nat.le_refl _) hl1 HO.out).mono ?_
  rintro e4 w4 ⟨A4, c4, rfl, hM, hb⟩
  have s4 : w3.heap.size ≤ w4.heap.size := hb.size
  obtain ⟨n0, n1⟩ := K3.out.below hb (by omega)
  have f0 := F3.out.below hb (by omega)
  unfold Free at f0
  have M4 := Lib.hid hM
  have HB4 := Lib.hid (HB3.out.trans (hb.mono (by omega)))
  clear hb hM
  go_wp2
  refine bodyPost_ret (v := .tuple #[.agg #[.int .i64 rk, .slice A4 ll.length c4], .int .i64 code]) (by simp [results, Try.results21, n0, n1, go_sem]) rfl ?_
  exact ResLC.fin M4.out HB4.out (by omega) (.inl (by omega)) (by omega) s4
end

end Go.Proofs.Ytopbfjhgpgjnnaa
