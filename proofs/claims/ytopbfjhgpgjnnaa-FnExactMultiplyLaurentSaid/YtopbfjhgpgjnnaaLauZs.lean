/- Contracts of the specification's product of two polynomials. No condition but those that each theorem names. -/
import Derived.Test.YtopbfjhgpgjnnaaLauY
import Derived.RegionTactic
import Derived.Deep.RegionHeld3
namespace Go.Proofs.Ytopbfjhgpgjnnaa
open Go.RowKit

section
variable (r s : Int) (A B : Option Addr) (n ca m cb : Nat) (zs : List Int) (w : World) (hA : Ints w w.heap.size A n zs) (hn : n ≤ 1048576)
include hA hn

set_option maxHeartbeats 2000000 in
theorem mul_spec_badA (hP : ¬ Lau.LOk r zs) : Calls Try.prog 23 #[.agg #[.int .i64 r, .slice A n ca], .agg #[.int .i64 s, .slice B m cb]] w (ResLC w 0 [] 1) := by
  have X0 := Lib.hid ((BoxG.new w 27 (.int .i64 r) (.slice A n ca)).below (al2 _ (Obj.cells #[.int .i64 s, .slice B m cb] 27) (Obj.cells #[.int .i64 0, .slice none 0 0] 27)) (by simp))
  have Y0 := Lib.hid ((BoxG.new (w.alloc (Obj.cells #[.int .i64 r, .slice A n ca] 27)) 27 (.int .i64 s) (.slice B m cb)).below (al1 _ (Obj.cells #[.int .i64 0, .slice none 0 0] 27)) (by simp))
  have K0 := Lib.hid (BoxG.new ((w.alloc (Obj.cells #[.int .i64 r, .slice A n ca] 27)).alloc (Obj.cells #[.int .i64 s, .slice B m cb] 27)) 27 (.int .i64 0) (.slice none 0 0))
  have F0 := Lib.hid (Free.new ((w.alloc (Obj.cells #[.int .i64 r, .slice A n ca] 27)).alloc (Obj.cells #[.int .i64 s, .slice B m cb] 27)) 27 #[.int .i64 0, .slice none 0 0])
  have FX0 := Lib.hid ((Free.new w 27 #[.int .i64 r, .slice A n ca]).below (al2 _ (Obj.cells #[.int .i64 s, .slice B m cb] 27) (Obj.cells #[.int .i64 0, .slice none 0 0] 27)) (by simp))
  have FY0 := Lib.hid ((Free.new (w.alloc (Obj.cells #[.int .i64 r, .slice A n ca] 27)) 27 #[.int .i64 s, .slice B m cb]).below (al1 _ (Obj.cells #[.int .i64 0, .slice none 0 0] 27)) (by simp))
  simp only [World.size_alloc] at Y0 K0 F0 FY0
  have HLA := Lib.hid (isLs_no r A n ca zs _ (hA.into (al3 w (Obj.cells #[.int .i64 r, .slice A n ca] 27) (Obj.cells #[.int .i64 s, .slice B m cb] 27) (Obj.cells #[.int .i64 0, .slice none 0 0] 27))) hn hP)
  clear hA hP
  go_enter Try.func23, Try.ntmps23
  go_wp2_with fail
  refine HLA.out.mono ?_
  rintro e1 w1 ⟨rfl, hb⟩
  have s1 : w.heap.size + 1 + 1 < w1.heap.size := by have := hb.size; simp at this; omega
  have X1 := Lib.hid (X0.out.below hb (by simp <;> omega))
  have Y1 := Lib.hid (Y0.out.below hb (by simp <;> omega))
  have K1 := Lib.hid (K0.out.below hb (by simp))
  have F1 := Lib.hid (F0.out.below hb (by simp))
  have FX1 := Lib.hid (FX0.out.below hb (by simp <;> omega))
  have FY1 := Lib.hid (FY0.out.below hb (by simp <;> omega))
  have HB1 := Lib.hid (on3 _ _ _ hb)
  clear hb X0 Y0 K0 F0 FX0 FY0
  obtain ⟨n0, n1⟩ := K1.out
  have f0 := F1.out
  unfold Free at f0
  go_wp2
  refine bodyPost_ret (v := .tuple #[.agg #[.int .i64 0, .slice none 0 0], .int .i64 1]) (by simp [results, Try.results23, n0, n1, go_sem]) rfl ?_
  exact ⟨none, 0, rfl, Mine.none_ _ _ _ _, (HB1.out.setCell (by dsimp only; omega) _).setCell (by dsimp only; omega) _⟩

end

section
variable (r s : Int) (A B : Option Addr) (n ca m cb : Nat) (zs ys : List Int) (w : World)

set_option maxHeartbeats 2000000 in
theorem sprod_nil (h0 : n = 0 ∨ m = 0) : Calls Try.prog 53 #[.agg #[.int .i64 r, .slice A n ca], .agg #[.int .i64 s, .slice B m cb]] w (ResL1 w 0 []) := by
  have X0 := Lib.hid ((BoxG.new w 27 (.int .i64 r) (.slice A n ca)).below (al2 _ (Obj.cells #[.int .i64 s, .slice B m cb] 27) (Obj.cells #[.int .i64 0, .slice none 0 0] 27)) (by simp))
  have Y0 := Lib.hid ((BoxG.new (w.alloc (Obj.cells #[.int .i64 r, .slice A n ca] 27)) 27 (.int .i64 s) (.slice B m cb)).below (al1 _ (Obj.cells #[.int .i64 0, .slice none 0 0] 27)) (by simp))
  have K0 := Lib.hid (BoxG.new ((w.alloc (Obj.cells #[.int .i64 r, .slice A n ca] 27)).alloc (Obj.cells #[.int .i64 s, .slice B m cb] 27)) 27 (.int .i64 0) (.slice none 0 0))
  have F0 := Lib.hid (Free.new ((w.alloc (Obj.cells #[.int .i64 r, .slice A n ca] 27)).alloc (Obj.cells #[.int .i64 s, .slice B m cb] 27)) 27 #[.int .i64 0, .slice none 0 0])
  have FX0 := Lib.hid ((Free.new w 27 #[.int .i64 r, .slice A n ca]).below (al2 _ (Obj.cells #[.int .i64 s, .slice B m cb] 27) (Obj.cells #[.int .i64 0, .slice none 0 0] 27)) (by simp))
  have FY0 := Lib.hid ((Free.new (w.alloc (Obj.cells #[.int .i64 r, .slice A n ca] 27)) 27 #[.int .i64 s, .slice B m cb]).below (al1 _ (Obj.cells #[.int .i64 0, .slice none 0 0] 27)) (by simp))
  simp only [World.size_alloc] at Y0 K0 F0 FY0
  have D0 := Lib.hid (al3 w (Obj.cells #[.int .i64 r, .slice A n ca] 27) (Obj.cells #[.int .i64 s, .slice B m cb] 27) (Obj.cells #[.int .i64 0, .slice none 0 0] 27))
  by_cases hn0 : n = 0
  · have t1 : ((n : Int) == 0) = true := by simp; omega
    clear h0 hn0
    go_enter Try.func53, Try.ntmps53
    obtain ⟨x0, x1⟩ := X0.out
    obtain ⟨y0, y1⟩ := Y0.out
    obtain ⟨n0, n1⟩ := K0.out
    have f0 := F0.out
    unfold Free at f0
    go_wp2
    refine bodyPost_ret (v := .agg #[.int .i64 0, .slice none 0 0]) (by simp [results, Try.results53, n0, n1, go_sem]) rfl ?_
    exact ⟨none, 0, rfl, Mine.none_ _ _ _ _, D0.out⟩
  · have t1 : ((n : Int) == 0) = false := by simp; omega
    have t2 : ((m : Int) == 0) = true := by simp; omega
    clear h0 hn0
    go_enter Try.func53, Try.ntmps53
    obtain ⟨x0, x1⟩ := X0.out
    obtain ⟨y0, y1⟩ := Y0.out
    obtain ⟨n0, n1⟩ := K0.out
    have f0 := F0.out
    unfold Free at f0
    go_wp2
    refine bodyPost_ret (v := .agg #[.int .i64 0, .slice none 0 0]) (by simp [results, Try.results53, n0, n1, go_sem]) rfl ?_
    exact ⟨none, 0, rfl, Mine.none_ _ _ _ _, D0.out⟩

variable (hA : Ints w w.heap.size A n zs) (hB : Ints w w.heap.size B m ys)
include hA hB

set_option maxHeartbeats 8000000 in
theorem sprod_both (N a b : Nat) (hP : Lau.LOk r zs) (hQ : Lau.LOk s ys) (hn0 : 0 < n) (hm0 : 0 < m) (hsz : Lau.szL zs n * Lau.szL ys m ≤ 1000000000000) (hN : (n : Int) + (m : Int) - 1 = (N : Int)) (hT : Lau.Trimmed (Lau.mulL N zs ys m (n * m)) a b) :
    Calls Try.prog 53 #[.agg #[.int .i64 r, .slice A n ca], .agg #[.int .i64 s, .slice B m cb]] w (ResL1 w (Lau.lowOf (r + s) a b) (Lau.cut (Lau.mulL N zs ys m (n * m)) a b)) := by
  have X0 := Lib.hid ((BoxG.new w 27 (.int .i64 r) (.slice A n ca)).below (al2 _ (Obj.cells #[.int .i64 s, .slice B m cb] 27) (Obj.cells #[.int .i64 0, .slice none 0 0] 27)) (by simp))
  have Y0 := Lib.hid ((BoxG.new (w.alloc (Obj.cells #[.int .i64 r, .slice A n ca] 27)) 27 (.int .i64 s) (.slice B m cb)).below (al1 _ (Obj.cells #[.int .i64 0, .slice none 0 0] 27)) (by simp))
  have K0 := Lib.hid (BoxG.new ((w.alloc (Obj.cells #[.int .i64 r, .slice A n ca] 27)).alloc (Obj.cells #[.int .i64 s, .slice B m cb] 27)) 27 (.int .i64 0) (.slice none 0 0))
  have F0 := Lib.hid (Free.new ((w.alloc (Obj.cells #[.int .i64 r, .slice A n ca] 27)).alloc (Obj.cells #[.int .i64 s, .slice B m cb] 27)) 27 #[.int .i64 0, .slice none 0 0])
  have FX0 := Lib.hid ((Free.new w 27 #[.int .i64 r, .slice A n ca]).below (al2 _ (Obj.cells #[.int .i64 s, .slice B m cb] 27) (Obj.cells #[.int .i64 0, .slice none 0 0] 27)) (by simp))
  have FY0 := Lib.hid ((Free.new (w.alloc (Obj.cells #[.int .i64 r, .slice A n ca] 27)) 27 #[.int .i64 s, .slice B m cb]).below (al1 _ (Obj.cells #[.int .i64 0, .slice none 0 0] 27)) (by simp))
  simp only [World.size_alloc] at Y0 K0 F0 FY0
  have D0 := Lib.hid (al3 w (Obj.cells #[.int .i64 r, .slice A n ca] 27) (Obj.cells #[.int .i64 s, .slice B m cb] 27) (Obj.cells #[.int .i64 0, .slice none 0 0] 27))
  have nz : n ≤ 160 := by have := hP.len; have := hA.1; omega
  have mz : m ≤ 160 := by have := hQ.len; have := hB.1; omega
  have hlr := hP.low
  have hls := hQ.low
  have PR := Lib.hid (Lau.prod_le hA.1 hB.1 hsz)
  have HA := Lib.hid hA
  have HB := Lib.hid hB
  have HT := Lib.hid hT
  have NM := Lib.hid hN
  have NN : N ≤ 320 := by omega
  have nmb := Lib.hid (Nat.mul_le_mul nz mz)
  have t1 : ((n : Int) == 0) = false := by simp; omega
  have t2 : ((m : Int) == 0) = false := by simp; omega
  have ws0 : IntKind.i64.wrap (r + s) = r + s := IntWalk.i64_in _ (by omega)
  have hmk := run_make_ints N (by omega)
  clear hA hB hP hQ hT hsz
  go_enter Try.func53, Try.ntmps53
  obtain ⟨x0, x1⟩ := X0.out
  obtain ⟨y0, y1⟩ := Y0.out
  go_wp2_with fail
  obtain ⟨W0, hW0⟩ : ∃ W0, W0 = ((w.alloc (Obj.cells #[.int .i64 r, .slice A n ca] 27)).alloc (Obj.cells #[.int .i64 s, .slice B m cb] 27)).alloc (Obj.cells #[.int .i64 0, .slice none 0 0] 27) := ⟨_, rfl⟩
  have s0 : w.heap.size + 1 + 1 < W0.heap.size := by rw [hW0]; simp <;> omega
  have SZ := Lib.hid (show W0.heap.size = w.heap.size + 1 + 1 + 1 by rw [hW0]; simp)
  rw [← hW0] at X0 Y0 K0 F0 D0
  rw [← hW0]
  clear hW0 x0 x1 y0 y1 FX0 FY0 hmk
  have GZ := Lib.hid (show Blk (W0.alloc (Obj.cells (Array.replicate N (Value.int .i64 0)) 2)) (w.heap.size + 1 + 1 + 1) (List.replicate N 0) from by rw [← SZ.out]; exact Blk.zeros W0 N)
  have DZ := Lib.hid (al1 W0 (Obj.cells (Array.replicate N (Value.int .i64 0)) 2))
  go_loopw [6] (fun x wr => ∃ i : Nat, i ≤ n ∧ x = .int .i64 i ∧ Blk wr (w.heap.size + 1 + 1 + 1) (Lau.mulL N zs ys m (i * m)) ∧ Below W0.heap.size W0 wr) (fun x _ => n - (intOf x).toNat)
  case atStart => exact ⟨0, Nat.zero_le _, rfl, by rw [Nat.zero_mul, Lau.mulL_zero]; exact GZ.out, DZ.out⟩
  case round =>
    obtain ⟨i, hi, rfl, hblk, hbel⟩ := hrel
    have HG := Lib.hid hblk
    have HL := Lib.hid hbel
    clear hblk hbel
    obtain ⟨x0, x1⟩ := X0.out.below HL.out (by omega)
    obtain ⟨y0, y1⟩ := Y0.out.below HL.out (by omega)
    by_cases hlt : i < n
    · have i0 : (0 : Int) ≤ (i : Int) := by omega
      have i1 : (i : Int) < (n : Int) := by omega
      go_wp2
      go_loopw [7] (fun y wr => ∃ j : Nat, j ≤ m ∧ y = .int .i64 j ∧ Blk wr (w.heap.size + 1 + 1 + 1) (Lau.mulL N zs ys m (i * m + j)) ∧ Below W0.heap.size W0 wr) (fun y _ => m - (intOf y).toNat)
      case atStart => exact ⟨0, Nat.zero_le _, rfl, HG.out, HL.out⟩
      case round =>
        clear x0 x1 y0 y1
        obtain ⟨j, hj, rfl, hblk, hbel⟩ := hrel
        have HG2 := Lib.hid hblk
        have HL2 := Lib.hid hbel
        clear hblk hbel
        have E5 := Lib.hid (D0.out.trans (HL2.out.mono (by omega)))
        obtain ⟨x0, x1⟩ := X0.out.below HL2.out (by omega)
        obtain ⟨y0, y1⟩ := Y0.out.below HL2.out (by omega)
        by_cases hlj : j < m
        · obtain ⟨b1, off1, z, rfl, _, hz, hc1⟩ := (HA.out.into E5.out).at_z hlt
          obtain ⟨b2, off2, y, rfl, _, hy, hc2⟩ := (HB.out.into E5.out).at_z hlj
          have hij : i + j < N := by have := NM.out; omega
          have hcv := HG2.out.cell (i := i + j) (by rw [Lau.mulL_len]; exact hij)
          have hfr := HG2.out.frozen (i + j)
          have hb2 : i * m + j ≤ 25600 := by
            have h1 : (i + 1) * m ≤ n * m := Nat.mul_le_mul (by omega) (Nat.le_refl _)
            rw [Nat.add_mul] at h1
            have := nmb.out
            omega
          have hbd := Lau.mulL_bound (N := N) (m := m) PR.out hb2 (i + j)
          have hbz := PR.out i j
          rw [hz, hy] at hbz
          have Q := Lib.hid (Lau.mulL_next (N := N) (zs := zs) (ys := ys) hlj hij)
          rw [hz, hy] at Q
          obtain ⟨x, hx⟩ : ∃ x, (Lau.mulL N zs ys m (i * m + j)).getD (i + j) 0 = x := ⟨_, rfl⟩
          rw [hx] at hcv hbd Q
          have j0 : (0 : Int) ≤ (i : Int) + (j : Int) := by omega
          have j1 : (i : Int) + (j : Int) < (N : Int) := by omega
          have j2 : ((i : Int) + (j : Int)).toNat = i + j := by omega
          have j3 : (0 : Int) ≤ (j : Int) := by omega
          have j4 : (j : Int) < (m : Int) := by omega
          have ws1 : IntKind.i64.wrap (z * y) = z * y := IntWalk.i64_in _ (by omega)
          have ws2 : IntKind.i64.wrap (x + z * y) = x + z * y := IntWalk.i64_in _ (by omega)
          have ws3 : IntKind.i64.wrap ((i : Int) + (j : Int)) = (i : Int) + (j : Int) := IntWalk.i64_in _ (by omega)
          have gl := HG2.out.lt
          clear hy hx hij hb2 hz
          go_wp2
          go_region
          all_goals
            go_wp2
            go_roundw
            case rel => exact ⟨j + 1, by omega, by go_num, by rw [← Nat.add_assoc, ← Q.out]; exact (HG2.out.drewN _).set_ _ _, (HL2.out.trans (Go.Joins.below_draws _ _ _)).setCell (by have := SZ.out; dsimp only; omega) _⟩
            case measure => simp [intOf]; omega
        · obtain rfl : m = j := by omega
          have j4 : ¬ (m : Int) < (m : Int) := by omega
          go_wp2
          go_roundw
          case rel => exact ⟨i + 1, by omega, by go_num, by rw [Nat.succ_mul]; exact HG2.out, HL2.out⟩
          case measure => simp [intOf]; omega
    · obtain rfl : n = i := by omega
      have i4 : ¬ (n : Int) < (n : Int) := by omega
      go_wp2_with fail
      refine (sform_any (r + s) _ N N (Lau.mulL N zs ys m (n * m)) a b _ (HG.out.ints (Lau.mulL_len _ _ _ _ _)) (Nat.le_refl _) (by omega) (by unfold maxLen; omega) (by omega) (by omega) HT.out).mono ?_
      rintro e6 w6 ⟨A6, c6, rfl, hM, hb⟩
      have s6 : W0.heap.size ≤ w6.heap.size := by have := hb.size; have := HL.out.size; omega
      have hws : W0.heap.size ≤ wr.heap.size := HL.out.size
      obtain ⟨n0, n1⟩ := (K0.out.below HL.out (by omega)).below hb (by omega)
      have f0 := (F0.out.below HL.out (by omega)).below hb (by omega)
      unfold Free at f0
      have M6 := Lib.hid hM
      have HB6 := Lib.hid ((D0.out.trans (HL.out.mono (by omega))).trans (hb.mono (by omega)))
      clear hb hM x0 x1 y0 y1
      obtain ⟨ll, hll⟩ : ∃ ll, Lau.cut (Lau.mulL N zs ys m (n * m)) a b = ll := ⟨_, rfl⟩
      obtain ⟨rk, hrk⟩ : ∃ rk, Lau.lowOf (r + s) a b = rk := ⟨_, rfl⟩
      rw [hll] at M6
      rw [hll, hrk]
      have LL := Lib.hid hll
      have RK := Lib.hid hrk
      clear hll hrk
      go_wp2
      refine bodyPost_ret (v := .agg #[.int .i64 rk, .slice A6 ll.length c6]) (by simp [results, Try.results53, n0, n1, go_sem]) rfl ?_
      rw [LL.out, RK.out]
      exact ResL1.fin M6.out HB6.out (by omega) (.inl (by omega)) (by omega) (Nat.le_refl _)
end

section
variable (r s : Int) (A B : Option Addr) (n ca m cb : Nat) (zs ys : List Int) (w : World) (hA : Ints w w.heap.size A n zs) (hB : Ints w w.heap.size B m ys) (hn : n ≤ 1048576) (hm : m ≤ 1048576)
include hA hB hn hm

set_option maxHeartbeats 2000000 in
theorem mul_spec_badB (hP : Lau.LOk r zs) (hQ : ¬ Lau.LOk s ys) : Calls Try.prog 23 #[.agg #[.int .i64 r, .slice A n ca], .agg #[.int .i64 s, .slice B m cb]] w (ResLC w 0 [] 1) := by
  have X0 := Lib.hid ((BoxG.new w 27 (.int .i64 r) (.slice A n ca)).below (al2 _ (Obj.cells #[.int .i64 s, .slice B m cb] 27) (Obj.cells #[.int .i64 0, .slice none 0 0] 27)) (by simp))
  have Y0 := Lib.hid ((BoxG.new (w.alloc (Obj.cells #[.int .i64 r, .slice A n ca] 27)) 27 (.int .i64 s) (.slice B m cb)).below (al1 _ (Obj.cells #[.int .i64 0, .slice none 0 0] 27)) (by simp))
  have K0 := Lib.hid (BoxG.new ((w.alloc (Obj.cells #[.int .i64 r, .slice A n ca] 27)).alloc (Obj.cells #[.int .i64 s, .slice B m cb] 27)) 27 (.int .i64 0) (.slice none 0 0))
  have F0 := Lib.hid (Free.new ((w.alloc (Obj.cells #[.int .i64 r, .slice A n ca] 27)).alloc (Obj.cells #[.int .i64 s, .slice B m cb] 27)) 27 #[.int .i64 0, .slice none 0 0])
  have FX0 := Lib.hid ((Free.new w 27 #[.int .i64 r, .slice A n ca]).below (al2 _ (Obj.cells #[.int .i64 s, .slice B m cb] 27) (Obj.cells #[.int .i64 0, .slice none 0 0] 27)) (by simp))
  have FY0 := Lib.hid ((Free.new (w.alloc (Obj.cells #[.int .i64 r, .slice A n ca] 27)) 27 #[.int .i64 s, .slice B m cb]).below (al1 _ (Obj.cells #[.int .i64 0, .slice none 0 0] 27)) (by simp))
  simp only [World.size_alloc] at Y0 K0 F0 FY0
  have HLA := Lib.hid (isLs_yes r A n ca zs _ (hA.into (al3 w (Obj.cells #[.int .i64 r, .slice A n ca] 27) (Obj.cells #[.int .i64 s, .slice B m cb] 27) (Obj.cells #[.int .i64 0, .slice none 0 0] 27))) hn hP)
  have HLB := Lib.hid (fun (W : World) (hb : Below w.heap.size w W) => isLs_no s B m cb ys W (hB.into hb) hm hQ)
  clear hA hB hP hQ
  go_enter Try.func23, Try.ntmps23
  go_wp2_with fail
  refine HLA.out.mono ?_
  rintro e1 w1 ⟨rfl, hb⟩
  have s1 : w.heap.size + 1 + 1 < w1.heap.size := by have := hb.size; simp at this; omega
  have X1 := Lib.hid (X0.out.below hb (by simp <;> omega))
  have Y1 := Lib.hid (Y0.out.below hb (by simp <;> omega))
  have K1 := Lib.hid (K0.out.below hb (by simp))
  have F1 := Lib.hid (F0.out.below hb (by simp))
  have FX1 := Lib.hid (FX0.out.below hb (by simp <;> omega))
  have FY1 := Lib.hid (FY0.out.below hb (by simp <;> omega))
  have HB1 := Lib.hid (on3 _ _ _ hb)
  clear hb X0 Y0 K0 F0 FX0 FY0
  obtain ⟨y0, y1⟩ := Y1.out
  go_wp2_with fail
  refine (HLB.out _ HB1.out).mono ?_
  rintro e1 w2 ⟨rfl, hb⟩
  have s2 : w1.heap.size ≤ w2.heap.size := hb.size
  have X2 := Lib.hid (X1.out.below hb (by omega))
  have Y2 := Lib.hid (Y1.out.below hb (by omega))
  have K2 := Lib.hid (K1.out.below hb (by omega))
  have F2 := Lib.hid (F1.out.below hb (by omega))
  have FX2 := Lib.hid (FX1.out.below hb (by omega))
  have FY2 := Lib.hid (FY1.out.below hb (by omega))
  have HB2 := Lib.hid (HB1.out.trans (hb.mono (by omega)))
  clear hb X1 Y1 K1 F1 FX1 FY1 HB1 y0 y1
  obtain ⟨n0, n1⟩ := K2.out
  have f0 := F2.out
  unfold Free at f0
  go_wp2
  refine bodyPost_ret (v := .tuple #[.agg #[.int .i64 0, .slice none 0 0], .int .i64 1]) (by simp [results, Try.results23, n0, n1, go_sem]) rfl ?_
  exact ⟨none, 0, rfl, Mine.none_ _ _ _ _, (HB2.out.setCell (by dsimp only; omega) _).setCell (by dsimp only; omega) _⟩

set_option maxHeartbeats 4000000 in
theorem mul_spec_no (hP : Lau.LOk r zs) (hQ : Lau.LOk s ys) (hsz : ¬ Lau.szL zs n * Lau.szL ys m ≤ 1000000000000) : Calls Try.prog 23 #[.agg #[.int .i64 r, .slice A n ca], .agg #[.int .i64 s, .slice B m cb]] w (ResLC w 0 [] 3) := by
  have X0 := Lib.hid ((BoxG.new w 27 (.int .i64 r) (.slice A n ca)).below (al2 _ (Obj.cells #[.int .i64 s, .slice B m cb] 27) (Obj.cells #[.int .i64 0, .slice none 0 0] 27)) (by simp))
  have Y0 := Lib.hid ((BoxG.new (w.alloc (Obj.cells #[.int .i64 r, .slice A n ca] 27)) 27 (.int .i64 s) (.slice B m cb)).below (al1 _ (Obj.cells #[.int .i64 0, .slice none 0 0] 27)) (by simp))
  have K0 := Lib.hid (BoxG.new ((w.alloc (Obj.cells #[.int .i64 r, .slice A n ca] 27)).alloc (Obj.cells #[.int .i64 s, .slice B m cb] 27)) 27 (.int .i64 0) (.slice none 0 0))
  have F0 := Lib.hid (Free.new ((w.alloc (Obj.cells #[.int .i64 r, .slice A n ca] 27)).alloc (Obj.cells #[.int .i64 s, .slice B m cb] 27)) 27 #[.int .i64 0, .slice none 0 0])
  have FX0 := Lib.hid ((Free.new w 27 #[.int .i64 r, .slice A n ca]).below (al2 _ (Obj.cells #[.int .i64 s, .slice B m cb] 27) (Obj.cells #[.int .i64 0, .slice none 0 0] 27)) (by simp))
  have FY0 := Lib.hid ((Free.new (w.alloc (Obj.cells #[.int .i64 r, .slice A n ca] 27)) 27 #[.int .i64 s, .slice B m cb]).below (al1 _ (Obj.cells #[.int .i64 0, .slice none 0 0] 27)) (by simp))
  simp only [World.size_alloc] at Y0 K0 F0 FY0
  have HLA := Lib.hid (isLs_yes r A n ca zs _ (hA.into (al3 w (Obj.cells #[.int .i64 r, .slice A n ca] 27) (Obj.cells #[.int .i64 s, .slice B m cb] 27) (Obj.cells #[.int .i64 0, .slice none 0 0] 27))) hn hP)
  have HLB := Lib.hid (fun (W : World) (hb : Below w.heap.size w W) => isLs_yes s B m cb ys W (hB.into hb) hm hQ)
  have nz : n ≤ 160 := by have := hP.len; have := hA.1; omega
  have mz : m ≤ 160 := by have := hQ.len; have := hB.1; omega
  have SP := Lib.hid (fun (W : World) (hb : Below w.heap.size w W) => size_spec r A n ca zs W (hA.into hb) nz hP.ent')
  have SQ := Lib.hid (fun (W : World) (hb : Below w.heap.size w W) => size_spec s B m cb ys W (hB.into hb) mz hQ.ent')
  have u0 := Lau.szL_pos zs n
  have u1 := Lau.szL_le hP.ent' n
  have v0 := Lau.szL_pos ys m
  have v1 := Lau.szL_le hQ.ent' m
  obtain ⟨u, hu⟩ : ∃ u, Lau.szL zs n = u := ⟨_, rfl⟩
  obtain ⟨v, hv⟩ : ∃ v, Lau.szL ys m = v := ⟨_, rfl⟩
  rw [hu] at SP u0 u1
  rw [hv] at SQ v0 v1
  rw [hu, hv] at hsz
  have TM := Lib.hid (fun W => (times_pos u v W (by omega) (by omega)).mono fun e w' h => (show e = .returned (.tuple #[.int .i64 0, .bool false]) ∧ W = w' from ⟨h.2.1 hsz, h.2.2⟩))
  clear u0 u1 v0 v1 hsz hu hv
  clear hA hB hP hQ
  go_enter Try.func23, Try.ntmps23
  go_wp2_with fail
  refine HLA.out.mono ?_
  rintro e1 w1 ⟨rfl, hb⟩
  have s1 : w.heap.size + 1 + 1 < w1.heap.size := by have := hb.size; simp at this; omega
  have X1 := Lib.hid (X0.out.below hb (by simp <;> omega))
  have Y1 := Lib.hid (Y0.out.below hb (by simp <;> omega))
  have K1 := Lib.hid (K0.out.below hb (by simp))
  have F1 := Lib.hid (F0.out.below hb (by simp))
  have FX1 := Lib.hid (FX0.out.below hb (by simp <;> omega))
  have FY1 := Lib.hid (FY0.out.below hb (by simp <;> omega))
  have HB1 := Lib.hid (on3 _ _ _ hb)
  clear hb X0 Y0 K0 F0 FX0 FY0
  obtain ⟨y0, y1⟩ := Y1.out
  go_wp2_with fail
  refine (HLB.out _ HB1.out).mono ?_
  rintro e1 w2 ⟨rfl, hb⟩
  have s2 : w1.heap.size ≤ w2.heap.size := hb.size
  have X2 := Lib.hid (X1.out.below hb (by omega))
  have Y2 := Lib.hid (Y1.out.below hb (by omega))
  have K2 := Lib.hid (K1.out.below hb (by omega))
  have F2 := Lib.hid (F1.out.below hb (by omega))
  have FX2 := Lib.hid (FX1.out.below hb (by omega))
  have FY2 := Lib.hid (FY1.out.below hb (by omega))
  have HB2 := Lib.hid (HB1.out.trans (hb.mono (by omega)))
  clear hb X1 Y1 K1 F1 FX1 FY1 HB1 y0 y1
  obtain ⟨x0, x1⟩ := X2.out
  obtain ⟨y0, y1⟩ := Y2.out
  go_wp2_with fail
  go_region_held3 (fun W => (W.cell? ⟨w.heap.size, 0, none⟩ = some (.int .i64 r) ∧ W.cell? ⟨w.heap.size, 1, none⟩ = some (.slice A n ca)) ∧ (W.cell? ⟨w.heap.size + 1, 0, none⟩ = some (.int .i64 s) ∧ W.cell? ⟨w.heap.size + 1, 1, none⟩ = some (.slice B m cb))) (go_keep)
    (first
      | (go_at_call 52; (with_reducible refine (SP.out _ (by exact HB2.out.drew)).mono ?_); rintro e5 w5 ⟨rfl, hb'⟩; have hb5 := undrew hb'; have B5 := Lib.hid hb5; have s5 : w2.heap.size ≤ w5.heap.size := hb5.size; have HB5 := Lib.hid (HB2.out.trans (hb5.mono (by omega))); obtain ⟨p0, p1⟩ := X2.out.below hb5 (by omega); obtain ⟨q0, q1⟩ := Y2.out.below hb5 (by omega); clear hb5 hb')
      | (go_at_call 52; (with_reducible refine (SQ.out _ (by exact HB5.out)).mono ?_); rintro e6 w6 ⟨rfl, hb6⟩; have B6 := Lib.hid (B5.out.trans (hb6.mono (by omega))); have s6 : w2.heap.size ≤ w6.heap.size := B6.out.size; have HB6 := Lib.hid (HB2.out.trans (B6.out.mono (by omega))); obtain ⟨a0, a1⟩ := X2.out.below B6.out (by omega); obtain ⟨b0, b1⟩ := Y2.out.below B6.out (by omega); obtain ⟨n0, n1⟩ := K2.out.below B6.out (by omega); have f0 := F2.out.below B6.out (by omega); unfold Free at f0; clear hb6)
      | (go_at_call 51; (with_reducible refine (TM.out _).mono ?_); rintro e7 w7 ⟨rfl, rfl⟩))
  go_wp2
  refine bodyPost_ret (v := .tuple #[.agg #[.int .i64 0, .slice none 0 0], .int .i64 3]) (by simp [results, Try.results23, n0, n1, go_sem]) rfl ?_
  exact ⟨none, 0, rfl, Mine.none_ _ _ _ _, (HB6.out.setCell (by dsimp only; omega) _).setCell (by dsimp only; omega) _⟩

set_option maxHeartbeats 4000000 in
theorem mul_spec_yes (r1 : Int) (l1 : List Int) (rk : Int) (ll : List Int) (code : Int) (hP : Lau.LOk r zs) (hQ : Lau.LOk s ys) (hsz : Lau.szL zs n * Lau.szL ys m ≤ 1000000000000) (hl1 : l1.length ≤ 1048576)
    (hS : ∀ W : World, Below w.heap.size w W → Calls Try.prog 53 #[.agg #[.int .i64 r, .slice A n ca], .agg #[.int .i64 s, .slice B m cb]] W (ResL1 W r1 l1)) (ho : LOut r1 l1 rk ll code) : Calls Try.prog 23 #[.agg #[.int .i64 r, .slice A n ca], .agg #[.int .i64 s, .slice B m cb]] w (ResLC w rk ll code) := by
  have X0 := Lib.hid ((BoxG.new w 27 (.int .i64 r) (.slice A n ca)).below (al2 _ (Obj.cells #[.int .i64 s, .slice B m cb] 27) (Obj.cells #[.int .i64 0, .slice none 0 0] 27)) (by simp))
  have Y0 := Lib.hid ((BoxG.new (w.alloc (Obj.cells #[.int .i64 r, .slice A n ca] 27)) 27 (.int .i64 s) (.slice B m cb)).below (al1 _ (Obj.cells #[.int .i64 0, .slice none 0 0] 27)) (by simp))
  have K0 := Lib.hid (BoxG.new ((w.alloc (Obj.cells #[.int .i64 r, .slice A n ca] 27)).alloc (Obj.cells #[.int .i64 s, .slice B m cb] 27)) 27 (.int .i64 0) (.slice none 0 0))
  have F0 := Lib.hid (Free.new ((w.alloc (Obj.cells #[.int .i64 r, .slice A n ca] 27)).alloc (Obj.cells #[.int .i64 s, .slice B m cb] 27)) 27 #[.int .i64 0, .slice none 0 0])
  have FX0 := Lib.hid ((Free.new w 27 #[.int .i64 r, .slice A n ca]).below (al2 _ (Obj.cells #[.int .i64 s, .slice B m cb] 27) (Obj.cells #[.int .i64 0, .slice none 0 0] 27)) (by simp))
  have FY0 := Lib.hid ((Free.new (w.alloc (Obj.cells #[.int .i64 r, .slice A n ca] 27)) 27 #[.int .i64 s, .slice B m cb]).below (al1 _ (Obj.cells #[.int .i64 0, .slice none 0 0] 27)) (by simp))
  simp only [World.size_alloc] at Y0 K0 F0 FY0
  have HLA := Lib.hid (isLs_yes r A n ca zs _ (hA.into (al3 w (Obj.cells #[.int .i64 r, .slice A n ca] 27) (Obj.cells #[.int .i64 s, .slice B m cb] 27) (Obj.cells #[.int .i64 0, .slice none 0 0] 27))) hn hP)
  have HLB := Lib.hid (fun (W : World) (hb : Below w.heap.size w W) => isLs_yes s B m cb ys W (hB.into hb) hm hQ)
  have nz : n ≤ 160 := by have := hP.len; have := hA.1; omega
  have mz : m ≤ 160 := by have := hQ.len; have := hB.1; omega
  have SP := Lib.hid (fun (W : World) (hb : Below w.heap.size w W) => size_spec r A n ca zs W (hA.into hb) nz hP.ent')
  have SQ := Lib.hid (fun (W : World) (hb : Below w.heap.size w W) => size_spec s B m cb ys W (hB.into hb) mz hQ.ent')
  have u0 := Lau.szL_pos zs n
  have u1 := Lau.szL_le hP.ent' n
  have v0 := Lau.szL_pos ys m
  have v1 := Lau.szL_le hQ.ent' m
  obtain ⟨u, hu⟩ : ∃ u, Lau.szL zs n = u := ⟨_, rfl⟩
  obtain ⟨v, hv⟩ : ∃ v, Lau.szL ys m = v := ⟨_, rfl⟩
  rw [hu] at SP u0 u1
  rw [hv] at SQ v0 v1
  rw [hu, hv] at hsz
  have TM := Lib.hid (fun W => (times_pos u v W (by omega) (by omega)).mono fun e w' h => (show e = .returned (.tuple #[.int .i64 (u * v), .bool true]) ∧ W = w' from ⟨h.1 hsz, h.2.2⟩))
  clear u0 u1 v0 v1 hsz hu hv
  have HS := Lib.hid hS
  have HO := Lib.hid ho
  clear hA hB hP hQ hS ho
  go_enter Try.func23, Try.ntmps23
  go_wp2_with fail
  refine HLA.out.mono ?_
  rintro e1 w1 ⟨rfl, hb⟩
  have s1 : w.heap.size + 1 + 1 < w1.heap.size := by have := hb.size; simp at this; omega
  have X1 := Lib.hid (X0.out.below hb (by simp <;> omega))
  have Y1 := Lib.hid (Y0.out.below hb (by simp <;> omega))
  have K1 := Lib.hid (K0.out.below hb (by simp))
  have F1 := Lib.hid (F0.out.below hb (by simp))
  have FX1 := Lib.hid (FX0.out.below hb (by simp <;> omega))
  have FY1 := Lib.hid (FY0.out.below hb (by simp <;> omega))
  have HB1 := Lib.hid (on3 _ _ _ hb)
  clear hb X0 Y0 K0 F0 FX0 FY0
  obtain ⟨y0, y1⟩ := Y1.out
  go_wp2_with fail
  refine (HLB.out _ HB1.out).mono ?_
  rintro e1 w2 ⟨rfl, hb⟩
  have s2 : w1.heap.size ≤ w2.heap.size := hb.size
  have X2 := Lib.hid (X1.out.below hb (by omega))
  have Y2 := Lib.hid (Y1.out.below hb (by omega))
  have K2 := Lib.hid (K1.out.below hb (by omega))
  have F2 := Lib.hid (F1.out.below hb (by omega))
  have FX2 := Lib.hid (FX1.out.below hb (by omega))
  have FY2 := Lib.hid (FY1.out.below hb (by omega))
  have HB2 := Lib.hid (HB1.out.trans (hb.mono (by omega)))
  clear hb X1 Y1 K1 F1 FX1 FY1 HB1 y0 y1
  obtain ⟨x0, x1⟩ := X2.out
  obtain ⟨y0, y1⟩ := Y2.out
  go_wp2_with fail
  go_region_held3 (fun W => (W.cell? ⟨w.heap.size, 0, none⟩ = some (.int .i64 r) ∧ W.cell? ⟨w.heap.size, 1, none⟩ = some (.slice A n ca)) ∧ (W.cell? ⟨w.heap.size + 1, 0, none⟩ = some (.int .i64 s) ∧ W.cell? ⟨w.heap.size + 1, 1, none⟩ = some (.slice B m cb))) (go_keep)
    (first
      | (go_at_call 52; (with_reducible refine (SP.out _ (by exact HB2.out.drew)).mono ?_); rintro e5 w5 ⟨rfl, hb'⟩; have hb5 := undrew hb'; have B5 := Lib.hid hb5; have s5 : w2.heap.size ≤ w5.heap.size := hb5.size; have HB5 := Lib.hid (HB2.out.trans (hb5.mono (by omega))); obtain ⟨p0, p1⟩ := X2.out.below hb5 (by omega); obtain ⟨q0, q1⟩ := Y2.out.below hb5 (by omega); clear hb5 hb')
      | (go_at_call 52; (with_reducible refine (SQ.out _ (by exact HB5.out)).mono ?_); rintro e6 w6 ⟨rfl, hb6⟩; have B6 := Lib.hid (B5.out.trans (hb6.mono (by omega))); have s6 : w2.heap.size ≤ w6.heap.size := B6.out.size; have HB6 := Lib.hid (HB2.out.trans (B6.out.mono (by omega))); obtain ⟨a0, a1⟩ := X2.out.below B6.out (by omega); obtain ⟨b0, b1⟩ := Y2.out.below B6.out (by omega); obtain ⟨n0, n1⟩ := K2.out.below B6.out (by omega); have f0 := F2.out.below B6.out (by omega); unfold Free at f0; clear hb6)
      | (go_at_call 51; (with_reducible refine (TM.out _).mono ?_); rintro e7 w7 ⟨rfl, rfl⟩))
  go_wp2_with fail
  refine (HS.out _ HB6.out).mono ?_
  rintro e3 w3 ⟨A3, c3, rfl, hM, hb⟩
  have s3 : w6.heap.size ≤ w3.heap.size := hb.size
  have B3 := Lib.hid (B6.out.trans (hb.mono (by omega)))
  have HB3 := Lib.hid (HB6.out.trans (hb.mono (by omega)))
  have M3 := Lib.hid hM
  have K3 := Lib.hid (K2.out.below B3.out (by omega))
  have F3 := Lib.hid (F2.out.below B3.out (by omega))
  clear hb hM x0 x1 y0 y1 p0 p1 q0 q1 a0 a1 b0 b1 n0 n1 f0
  go_wp2_with fail
  refine (sif_any r1 A3 l1.length c3 l1 rk ll code w6.heap.size w3.heap.size w3 M3.out (Nat.le_refl _) hl1 HO.out).mono ?_
  rintro e4 w4 ⟨A4, c4, rfl, hM, hb⟩
  have s4 : w3.heap.size ≤ w4.heap.size := hb.size
  obtain ⟨n0, n1⟩ := K3.out.below hb (by omega)
  have f0 := F3.out.below hb (by omega)
  unfold Free at f0
  have M4 := Lib.hid hM
  have HB4 := Lib.hid (HB3.out.trans (hb.mono (by omega)))
  clear hb hM
  go_wp2
  refine bodyPost_ret (v := .tuple #[.agg #[.int .i64 rk, .slice A4 ll.length c4], .int .i64 code]) (by simp [results, Try.results23, n0, n1, go_sem]) rfl ?_
  exact ResLC.fin M4.out HB4.out (by omega) (.inl (by omega)) (by omega) s4
end

end Go.Proofs.Ytopbfjhgpgjnnaa
