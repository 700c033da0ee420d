/- Contracts of the program's product of two valid polynomials. No condition but those that each theorem names. -/
import Derived.Test.YtpkjjcfcpmcdiaaLauX
namespace Go.Proofs.Ytpkjjcfcpmcdiaa
open Go.RowKit

theorem szL_none {r : Int} {zs : List Int} {n : Nat} (h : Lau.LOk r zs) (hn : zs.length = n) (h0 : Lau.szL zs n = 0) : n = 0 := by
  rcases h with ⟨rfl, _⟩ | ⟨_, _, h1, _⟩
  · simpa using hn.symm
  · have := Lau.szL_all hn 0
    omega

theorem quo_lim {v : Int} (h : 0 < v) : IntKind.i64.wrap (Int.tdiv 1000000000000 v) = 1000000000000 / v := by
  have h1 : (0 : Int) ≤ 1000000000000 / v := Int.ediv_nonneg (by omega) (by omega)
  have h2 : (1000000000000 : Int) / v ≤ 1000000000000 := Int.ediv_le_self _ (by omega)
  rw [Int.tdiv_eq_ediv_of_nonneg (by omega)]
  exact IntWalk.i64_in _ (by omega)

section
variable (r s : Int) (A B : Option Addr) (n ca m cb : Nat) (zs ys : List Int) (w : World) (hA : Ints w w.heap.size A n zs) (hB : Ints w w.heap.size B m ys) (hn : n ≤ 1048576) (hm : m ≤ 1048576)
include hA hB hn hm

set_option maxHeartbeats 4000000 in
theorem times_impl_no (hP : Lau.LOk r zs) (hQ : Lau.LOk s ys) (hsz : ¬ Lau.szL zs n * Lau.szL ys m ≤ 1000000000000) : Calls Try.prog 25 #[.agg #[.int .i64 r, .slice A n ca], .agg #[.int .i64 s, .slice B m cb]] w (ResLC w 0 [] 3) := by
  have X0 := Lib.hid ((BoxG.new w 26 (.int .i64 r) (.slice A n ca)).below (al2 _ (Obj.cells #[.int .i64 s, .slice B m cb] 26) (Obj.cells #[.int .i64 0, .slice none 0 0] 26)) (by simp))
  have Y0 := Lib.hid ((BoxG.new (w.alloc (Obj.cells #[.int .i64 r, .slice A n ca] 26)) 26 (.int .i64 s) (.slice B m cb)).below (al1 _ (Obj.cells #[.int .i64 0, .slice none 0 0] 26)) (by simp))
  have K0 := Lib.hid (BoxG.new ((w.alloc (Obj.cells #[.int .i64 r, .slice A n ca] 26)).alloc (Obj.cells #[.int .i64 s, .slice B m cb] 26)) 26 (.int .i64 0) (.slice none 0 0))
  have F0 := Lib.hid (Free.new ((w.alloc (Obj.cells #[.int .i64 r, .slice A n ca] 26)).alloc (Obj.cells #[.int .i64 s, .slice B m cb] 26)) 26 #[.int .i64 0, .slice none 0 0])
  have FX0 := Lib.hid ((Free.new w 26 #[.int .i64 r, .slice A n ca]).below (al2 _ (Obj.cells #[.int .i64 s, .slice B m cb] 26) (Obj.cells #[.int .i64 0, .slice none 0 0] 26)) (by simp))
  have FY0 := Lib.hid ((Free.new (w.alloc (Obj.cells #[.int .i64 r, .slice A n ca] 26)) 26 #[.int .i64 s, .slice B m cb]).below (al1 _ (Obj.cells #[.int .i64 0, .slice none 0 0] 26)) (by simp))
  simp only [World.size_alloc] at Y0 K0 F0 FY0
  have D0 := Lib.hid (al3 w (Obj.cells #[.int .i64 r, .slice A n ca] 26) (Obj.cells #[.int .i64 s, .slice B m cb] 26) (Obj.cells #[.int .i64 0, .slice none 0 0] 26))
  have nz : n ≤ 160 := by have := hP.len; have := hA.1; omega
  have mz : m ≤ 160 := by have := hQ.len; have := hB.1; omega
  have hlr := hP.low
  have hls := hQ.low
  have SP := Lib.hid (fun (W : World) (hb : Below w.heap.size w W) => size_impl r A n ca zs W (hA.into hb) nz hP.ent')
  have SQ := Lib.hid (fun (W : World) (hb : Below w.heap.size w W) => size_impl s B m cb ys W (hB.into hb) mz hQ.ent')
  have u0 := Lau.szL_pos zs n
  have u1 := Lau.szL_le hP.ent' n
  have v0 := Lau.szL_pos ys m
  have v1 := Lau.szL_le hQ.ent' m
  have u2 : Lau.szL zs n ≤ 160000000000000 := by omega
  have v2 : Lau.szL ys m ≤ 160000000000000 := by omega
  clear u1 v1
  obtain ⟨u, hu⟩ : ∃ u, Lau.szL zs n = u := ⟨_, rfl⟩
  obtain ⟨v, hv⟩ : ∃ v, Lau.szL ys m = v := ⟨_, rfl⟩
  rw [hu, hv] at hsz
  rw [hu] at u0 u2
  rw [hv] at v0 v2
  have vp : 0 < v := by
    rcases Int.lt_or_eq_of_le v0 with h | h
    · exact h
    · rw [← h] at hsz; simp at hsz
  have vp1 : 1 ≤ v := vp
  have vn : ¬ v = 0 := by omega
  have wq := quo_lim vp
  have vb : (v == 0) = false := by simpa using vn
  have d0 : decide (0 < v) = true := by simpa using vp
  have d1 : (1000000000000 : Int) / v < u := by
    by_cases hg : (1000000000000 : Int) / v < u
    · exact hg
    · have := le_div_mul vp hg
      rw [Int.mul_comm] at this
      exact absurd this hsz
  have d2 : decide ((1000000000000 : Int) / v < u) = true := by simpa using d1
  clear hA hB hP hQ hsz
  go_enter Try.func25, Try.ntmps25
  go_wp2_with fail
  refine (SQ.out _ D0.out).mono ?_
  rintro e1 w1 ⟨rfl, hb⟩
  rw [hv]
  have s1 : w.heap.size + 1 + 1 < w1.heap.size := by have := hb.size; simp at this; omega
  have X1 := Lib.hid (X0.out.below hb (by simp <;> omega))
  have Y1 := Lib.hid (Y0.out.below hb (by simp <;> omega))
  have K1 := Lib.hid (K0.out.below hb (by simp))
  have F1 := Lib.hid (F0.out.below hb (by simp))
  have FX1 := Lib.hid (FX0.out.below hb (by simp <;> omega))
  have FY1 := Lib.hid (FY0.out.below hb (by simp <;> omega))
  have HB1 := Lib.hid (on3 _ _ _ hb)
  clear hb X0 Y0 K0 F0 FX0 FY0 D0
  obtain ⟨x0, x1⟩ := X1.out
  obtain ⟨y0, y1⟩ := Y1.out
  go_wp2_with fail
  go_region_held3 (fun W => (W.cell? ⟨w.heap.size, 0, none⟩ = some (.int .i64 r) ∧ W.cell? ⟨w.heap.size, 1, none⟩ = some (.slice A n ca)) ∧ (W.cell? ⟨w.heap.size + 1, 0, none⟩ = some (.int .i64 s) ∧ W.cell? ⟨w.heap.size + 1, 1, none⟩ = some (.slice B m cb))) (go_keep)
    (first
      | (go_at_call 27; (with_reducible refine (SP.out _ (by exact HB1.out.drew)).mono ?_); rintro e5 w5 ⟨rfl, hb'⟩; rw [hu]; have hb5 := undrew hb'; have B5 := Lib.hid hb5; have s5 : w1.heap.size ≤ w5.heap.size := hb5.size; have s6 : w.heap.size < w5.heap.size := (by omega); have s7 : w.heap.size + 1 < w5.heap.size := (by omega); obtain ⟨p0, p1⟩ := X1.out.below hb5 (by omega); obtain ⟨q0, q1⟩ := Y1.out.below hb5 (by omega); obtain ⟨n0, n1⟩ := K1.out.below hb5 (by omega); have f0 := F1.out.below hb5 (by omega); unfold Free at f0; clear hb5 hb'))
  have HB5 := Lib.hid (HB1.out.trans (B5.out.mono (by omega)))
  go_wp2
  refine bodyPost_ret (v := .tuple #[.agg #[.int .i64 0, .slice none 0 0], .int .i64 3]) (by simp [results, Try.results25, n0, n1, go_sem]) rfl ?_
  exact ⟨none, 0, rfl, Mine.none_ _ _ _ _, (HB5.out.setCell (by dsimp only; omega) _).setCell (by dsimp only; omega) _⟩


set_option maxHeartbeats 8000000 in
theorem times_impl_yes (N a b : Nat) (rk : Int) (ll : List Int) (code : Int) (hP : Lau.LOk r zs) (hQ : Lau.LOk s ys) (hsz : Lau.szL zs n * Lau.szL ys m ≤ 1000000000000) (hN : (n : Int) + (m : Int) = (N : Int)) (hT : Lau.Trimmed (Lau.mulL N zs ys m (n * m)) a b) (ho : LOut (Lau.lowOf (r + s) a b) (Lau.cut (Lau.mulL N zs ys m (n * m)) a b) rk ll code) :
    Calls Try.prog 25 #[.agg #[.int .i64 r, .slice A n ca], .agg #[.int .i64 s, .slice B m cb]] w (ResLC w rk ll code) := by
  have X0 := Lib.hid ((BoxG.new w 26 (.int .i64 r) (.slice A n ca)).below (al2 _ (Obj.cells #[.int .i64 s, .slice B m cb] 26) (Obj.cells #[.int .i64 0, .slice none 0 0] 26)) (by simp))
  have Y0 := Lib.hid ((BoxG.new (w.alloc (Obj.cells #[.int .i64 r, .slice A n ca] 26)) 26 (.int .i64 s) (.slice B m cb)).below (al1 _ (Obj.cells #[.int .i64 0, .slice none 0 0] 26)) (by simp))
  have K0 := Lib.hid (BoxG.new ((w.alloc (Obj.cells #[.int .i64 r, .slice A n ca] 26)).alloc (Obj.cells #[.int .i64 s, .slice B m cb] 26)) 26 (.int .i64 0) (.slice none 0 0))
  have F0 := Lib.hid (Free.new ((w.alloc (Obj.cells #[.int .i64 r, .slice A n ca] 26)).alloc (Obj.cells #[.int .i64 s, .slice B m cb] 26)) 26 #[.int .i64 0, .slice none 0 0])
  have FX0 := Lib.hid ((Free.new w 26 #[.int .i64 r, .slice A n ca]).below (al2 _ (Obj.cells #[.int .i64 s, .slice B m cb] 26) (Obj.cells #[.int .i64 0, .slice none 0 0] 26)) (by simp))
  have FY0 := Lib.hid ((Free.new (w.alloc (Obj.cells #[.int .i64 r, .slice A n ca] 26)) 26 #[.int .i64 s, .slice B m cb]).below (al1 _ (Obj.cells #[.int .i64 0, .slice none 0 0] 26)) (by simp))
  simp only [World.size_alloc] at Y0 K0 F0 FY0
  have D0 := Lib.hid (al3 w (Obj.cells #[.int .i64 r, .slice A n ca] 26) (Obj.cells #[.int .i64 s, .slice B m cb] 26) (Obj.cells #[.int .i64 0, .slice none 0 0] 26))
  have nz : n ≤ 160 := by have := hP.len; have := hA.1; omega
  have mz : m ≤ 160 := by have := hQ.len; have := hB.1; omega
  have hlr := hP.low
  have hls := hQ.low
  have SP := Lib.hid (fun (W : World) (hb : Below w.heap.size w W) => size_impl r A n ca zs W (hA.into hb) nz hP.ent')
  have SQ := Lib.hid (fun (W : World) (hb : Below w.heap.size w W) => size_impl s B m cb ys W (hB.into hb) mz hQ.ent')
  have u0 := Lau.szL_pos zs n
  have u1 := Lau.szL_le hP.ent' n
  have v0 := Lau.szL_pos ys m
  have v1 := Lau.szL_le hQ.ent' m
  have u2 : Lau.szL zs n ≤ 160000000000000 := by omega
  have v2 : Lau.szL ys m ≤ 160000000000000 := by omega
  clear u1 v1
  have PR := Lib.hid (Lau.prod_le hA.1 hB.1 hsz)
  have HV0 := Lib.hid (fun h0 => szL_none hQ hB.1 h0)
  have HA := Lib.hid hA
  have HB := Lib.hid hB
  have HT := Lib.hid hT
  have HO := Lib.hid ho
  obtain ⟨u, hu⟩ : ∃ u, Lau.szL zs n = u := ⟨_, rfl⟩
  obtain ⟨v, hv⟩ : ∃ v, Lau.szL ys m = v := ⟨_, rfl⟩
  rw [hu, hv] at hsz
  rw [hu] at u0 u2
  rw [hv] at v0 v2 HV0
  have NN : N ≤ 320 := by omega
  have nmb := Lib.hid (Nat.mul_le_mul nz mz)
  have ws0 : IntKind.i64.wrap (r + s) = r + s := IntWalk.i64_in _ (by omega)
  have hmk := run_make_ints N (by omega)
  have NM := Lib.hid hN
  clear hA hB hP hQ ho hT
  rcases Int.lt_or_eq_of_le v0 with vp | vz
  · have vp1 : 1 ≤ v := vp
    have vn : ¬ v = 0 := by omega
    have wq := quo_lim vp
    have vb : (v == 0) = false := by simpa using vn
    have d0 : decide (0 < v) = true := by simpa using vp
    have d1 : ¬ (1000000000000 : Int) / v < u := by
      intro hg
      have := div_lt_mul vp1 hg
      rw [Int.mul_comm] at this
      omega
    have d2 : decide ((1000000000000 : Int) / v < u) = false := by simpa using d1
    clear hsz
    go_enter Try.func25, Try.ntmps25
    go_wp2_with fail
    refine (SQ.out _ D0.out).mono ?_
    rintro e1 w1 ⟨rfl, hb⟩
    rw [hv]
    have s1 : w.heap.size + 1 + 1 < w1.heap.size := by have := hb.size; simp at this; omega
    have X1 := Lib.hid (X0.out.below hb (by simp <;> omega))
    have Y1 := Lib.hid (Y0.out.below hb (by simp <;> omega))
    have K1 := Lib.hid (K0.out.below hb (by simp))
    have F1 := Lib.hid (F0.out.below hb (by simp))
    have FX1 := Lib.hid (FX0.out.below hb (by simp <;> omega))
    have FY1 := Lib.hid (FY0.out.below hb (by simp <;> omega))
    have HB1 := Lib.hid (on3 _ _ _ hb)
    clear hb X0 Y0 K0 F0 FX0 FY0 D0
    obtain ⟨x0, x1⟩ := X1.out
    obtain ⟨y0, y1⟩ := Y1.out
    go_wp2_with fail
    go_region_held3 (fun W => (W.cell? ⟨w.heap.size, 0, none⟩ = some (.int .i64 r) ∧ W.cell? ⟨w.heap.size, 1, none⟩ = some (.slice A n ca)) ∧ (W.cell? ⟨w.heap.size + 1, 0, none⟩ = some (.int .i64 s) ∧ W.cell? ⟨w.heap.size + 1, 1, none⟩ = some (.slice B m cb))) (go_keep)
      (first
        | (go_at_call 27; (with_reducible refine (SP.out _ (by exact HB1.out.drew)).mono ?_); rintro e5 w5 ⟨rfl, hb'⟩; rw [hu]; have hb5 := undrew hb'; have B5 := Lib.hid hb5; have s5 : w1.heap.size ≤ w5.heap.size := hb5.size; have s6 : w.heap.size < w5.heap.size := (by omega); have s7 : w.heap.size + 1 < w5.heap.size := (by omega); obtain ⟨p0, p1⟩ := X1.out.below hb5 (by omega); obtain ⟨q0, q1⟩ := Y1.out.below hb5 (by omega); obtain ⟨n0, n1⟩ := K1.out.below hb5 (by omega); have f0 := F1.out.below hb5 (by omega); unfold Free at f0; clear hb5 hb'))
    go_wp2
    go_loopw [35] (fun x wr => ∃ i : Nat, i ≤ n ∧ x = .int .i64 i ∧ Blk wr w5.heap.size (Lau.mulL N zs ys m (i * m)) ∧ Below w5.heap.size w5 wr) (fun x _ => n - (intOf x).toNat)
    case atStart => exact ⟨0, Nat.zero_le _, rfl, by rw [Nat.zero_mul, Lau.mulL_zero]; exact Blk.zeros _ _, al1 _ _⟩
    case round =>
      obtain ⟨i, hi, rfl, hblk, hbel⟩ := hrel
      have HG := Lib.hid hblk
      have HL := Lib.hid hbel
      clear hblk hbel p0 p1 q0 q1 n0 n1 f0
      have D5 := Lib.hid (B5.out.trans (HL.out.mono (by omega)))
      obtain ⟨p0, p1⟩ := X1.out.below D5.out (by omega)
      obtain ⟨q0, q1⟩ := Y1.out.below D5.out (by omega)
      by_cases hlt : i < n
      · obtain ⟨b1, off1, z, rfl, _, hz, hc1⟩ := (HA.out.into (HB1.out.trans (D5.out.mono (by omega)))).at_z hlt
        have i0 : (0 : Int) ≤ (i : Int) := by omega
        have i1 : (i : Int) < (n : Int) := by omega
        go_wp2
        go_loopw [43] (fun y wr => ∃ j : Nat, j ≤ m ∧ y = .int .i64 j ∧ Blk wr w5.heap.size (Lau.mulL N zs ys m (i * m + j)) ∧ Below w5.heap.size w5 wr) (fun y _ => m - (intOf y).toNat)
        case atStart => exact ⟨0, Nat.zero_le _, rfl, HG.out, HL.out⟩
        case round =>
          obtain ⟨j, hj, rfl, hblk, hbel⟩ := hrel
          have HG2 := Lib.hid hblk
          have HL2 := Lib.hid hbel
          clear hblk hbel
          have E5 := Lib.hid (B5.out.trans (HL2.out.mono (by omega)))
          by_cases hlj : j < m
          · obtain ⟨b2, off2, y, rfl, _, hy, hc2⟩ := (HB.out.into (HB1.out.trans (E5.out.mono (by omega)))).at_z hlj
            have hij : i + j < N := by have := NM.out; omega
            have hcv := HG2.out.cell (i := i + j) (by rw [Lau.mulL_len]; exact hij)
            have hfr := HG2.out.frozen (i + j)
            have hb2 : i * m + j ≤ 25600 := by
              have h1 : (i + 1) * m ≤ n * m := Nat.mul_le_mul (by omega) (Nat.le_refl _)
              rw [Nat.add_mul] at h1
              have := nmb.out
              omega
            have hbd := Lau.mulL_bound (N := N) (m := m) PR.out hb2 (i + j)
            have hbz := PR.out i j
            rw [hz, hy] at hbz
            have Q := Lib.hid (Lau.mulL_next (N := N) (zs := zs) (ys := ys) hlj hij)
            rw [hz, hy] at Q
            obtain ⟨x, hx⟩ : ∃ x, (Lau.mulL N zs ys m (i * m + j)).getD (i + j) 0 = x := ⟨_, rfl⟩
            rw [hx] at hcv hbd Q
            have j0 : (0 : Int) ≤ (i : Int) + (j : Int) := by omega
            have j1 : (i : Int) + (j : Int) < (N : Int) := by omega
            have j2 : ((i : Int) + (j : Int)).toNat = i + j := by omega
            have j3 : (0 : Int) ≤ (j : Int) := by omega
            have j4 : (j : Int) < (m : Int) := by omega
            have ws1 : IntKind.i64.wrap (z * y) = z * y := IntWalk.i64_in _ (by omega)
            have ws2 : IntKind.i64.wrap (x + z * y) = x + z * y := IntWalk.i64_in _ (by omega)
            have gl := HG2.out.lt
            clear hy hx hij hb2
            go_wp2
            go_roundw
            case rel => exact ⟨j + 1, by omega, by go_num, by rw [← Nat.add_assoc, ← Q.out]; exact HG2.out.set_ _ _, HL2.out.setCell (Nat.le_refl _) _⟩
            case measure => simp [intOf]; omega
          · obtain rfl : m = j := by omega
            have j4 : ¬ (m : Int) < (m : Int) := by omega
            go_wp2
            go_roundw
            case rel => exact ⟨i + 1, by omega, by go_num, by rw [Nat.succ_mul]; exact HG2.out, HL2.out⟩
            case measure => simp [intOf]; omega
      · obtain rfl : n = i := by omega
        have i4 : ¬ (n : Int) < (n : Int) := by omega
        go_wp2_with fail
        have hl5 := HL.out.size
        refine (valid_any (r + s) _ N N (Lau.mulL N zs ys m (n * m)) a b w5.heap.size wr.heap.size rk ll code _ (Mine.of_blk HG.out (Nat.le_refl _) HG.out.lt (Lau.mulL_len _ _ _ _ _)) (Nat.le_refl _) (Nat.le_refl _) (by omega) (by unfold maxLen; omega) (by omega) (by omega) HT.out HO.out).mono ?_
        rintro e6 w6 ⟨A6, c6, rfl, hM, hb⟩
        have M6 := Lib.hid hM
        have s6 : wr.heap.size ≤ w6.heap.size := hb.size
        obtain ⟨n0, n1⟩ := (K1.out.below D5.out (by omega)).below hb (by omega)
        have f0 := (F1.out.below D5.out (by omega)).below hb (by omega)
        unfold Free at f0
        have HB6 := Lib.hid ((HB1.out.trans (D5.out.mono (by omega))).trans (hb.mono (by omega)))
        clear hb hM p0 p1 q0 q1
        go_wp2
        refine bodyPost_ret (v := .tuple #[.agg #[.int .i64 rk, .slice A6 ll.length c6], .int .i64 code]) (by simp [results, Try.results25, n0, n1, go_sem]) rfl ?_
        exact ResLC.fin M6.out HB6.out (by omega) (.inl (by omega)) (by omega) s6
  · have d0 : decide (0 < v) = false := by simp; omega
    have d1 : ¬ 0 < v := by omega
    clear hsz vz
    go_enter Try.func25, Try.ntmps25
    go_wp2_with fail
    refine (SQ.out _ D0.out).mono ?_
    rintro e1 w1 ⟨rfl, hb⟩
    rw [hv]
    have s1 : w.heap.size + 1 + 1 < w1.heap.size := by have := hb.size; simp at this; omega
    have X1 := Lib.hid (X0.out.below hb (by simp <;> omega))
    have Y1 := Lib.hid (Y0.out.below hb (by simp <;> omega))
    have K1 := Lib.hid (K0.out.below hb (by simp))
    have F1 := Lib.hid (F0.out.below hb (by simp))
    have FX1 := Lib.hid (FX0.out.below hb (by simp <;> omega))
    have FY1 := Lib.hid (FY0.out.below hb (by simp <;> omega))
    have HB1 := Lib.hid (on3 _ _ _ hb)
    clear hb X0 Y0 K0 F0 FX0 FY0 D0
    obtain ⟨x0, x1⟩ := X1.out
    obtain ⟨y0, y1⟩ := Y1.out
    go_wp2_with fail
    go_quiet (fail)
    rename_i nq
    generalize hw5 : w1.drewN nq = w5
    have B5 : Hid (Below w1.heap.size w1 w5) := Lib.hid (by rw [← hw5]; exact Go.Joins.below_draws _ _ _)
    clear hw5 x0 x1 y0 y1
    have s5 : w1.heap.size ≤ w5.heap.size := B5.out.size
    have s6 : w.heap.size < w5.heap.size := by omega
    have s7 : w.heap.size + 1 < w5.heap.size := by omega
    obtain ⟨p0, p1⟩ := X1.out.below B5.out (by omega)
    obtain ⟨q0, q1⟩ := Y1.out.below B5.out (by omega)
    have f0 := F1.out.below B5.out (by omega)
    obtain ⟨n0, n1⟩ := K1.out.below B5.out (by omega)
    go_wp2
    go_loopw [35] (fun x wr => ∃ i : Nat, i ≤ n ∧ x = .int .i64 i ∧ Blk wr w5.heap.size (Lau.mulL N zs ys m (i * m)) ∧ Below w5.heap.size w5 wr) (fun x _ => n - (intOf x).toNat)
    case atStart => exact ⟨0, Nat.zero_le _, rfl, by rw [Nat.zero_mul, Lau.mulL_zero]; exact Blk.zeros _ _, al1 _ _⟩
    case round =>
      obtain ⟨i, hi, rfl, hblk, hbel⟩ := hrel
      have HG := Lib.hid hblk
      have HL := Lib.hid hbel
      clear hblk hbel p0 p1 q0 q1 n0 n1 f0
      have D5 := Lib.hid (B5.out.trans (HL.out.mono (by omega)))
      obtain ⟨p0, p1⟩ := X1.out.below D5.out (by omega)
      obtain ⟨q0, q1⟩ := Y1.out.below D5.out (by omega)
      by_cases hlt : i < n
      · obtain ⟨b1, off1, z, rfl, _, hz, hc1⟩ := (HA.out.into (HB1.out.trans (D5.out.mono (by omega)))).at_z hlt
        have i0 : (0 : Int) ≤ (i : Int) := by omega
        have i1 : (i : Int) < (n : Int) := by omega
        go_wp2
        go_loopw [43] (fun y wr => ∃ j : Nat, j ≤ m ∧ y = .int .i64 j ∧ Blk wr w5.heap.size (Lau.mulL N zs ys m (i * m + j)) ∧ Below w5.heap.size w5 wr) (fun y _ => m - (intOf y).toNat)
        case atStart => exact ⟨0, Nat.zero_le _, rfl, HG.out, HL.out⟩
        case round =>
          obtain ⟨j, hj, rfl, hblk, hbel⟩ := hrel
          have HG2 := Lib.hid hblk
          have HL2 := Lib.hid hbel
          clear hblk hbel
          have E5 := Lib.hid (B5.out.trans (HL2.out.mono (by omega)))
          by_cases hlj : j < m
          · obtain ⟨b2, off2, y, rfl, _, hy, hc2⟩ := (HB.out.into (HB1.out.trans (E5.out.mono (by omega)))).at_z hlj
            have hij : i + j < N := by have := NM.out; omega
            have hcv := HG2.out.cell (i := i + j) (by rw [Lau.mulL_len]; exact hij)
            have hfr := HG2.out.frozen (i + j)
            have hb2 : i * m + j ≤ 25600 := by
              have h1 : (i + 1) * m ≤ n * m := Nat.mul_le_mul (by omega) (Nat.le_refl _)
              rw [Nat.add_mul] at h1
              have := nmb.out
              omega
            have hbd := Lau.mulL_bound (N := N) (m := m) PR.out hb2 (i + j)
            have hbz := PR.out i j
            rw [hz, hy] at hbz
            have Q := Lib.hid (Lau.mulL_next (N := N) (zs := zs) (ys := ys) hlj hij)
            rw [hz, hy] at Q
            obtain ⟨x, hx⟩ : ∃ x, (Lau.mulL N zs ys m (i * m + j)).getD (i + j) 0 = x := ⟨_, rfl⟩
            rw [hx] at hcv hbd Q
            have j0 : (0 : Int) ≤ (i : Int) + (j : Int) := by omega
            have j1 : (i : Int) + (j : Int) < (N : Int) := by omega
            have j2 : ((i : Int) + (j : Int)).toNat = i + j := by omega
            have j3 : (0 : Int) ≤ (j : Int) := by omega
            have j4 : (j : Int) < (m : Int) := by omega
            have ws1 : IntKind.i64.wrap (z * y) = z * y := IntWalk.i64_in _ (by omega)
            have ws2 : IntKind.i64.wrap (x + z * y) = x + z * y := IntWalk.i64_in _ (by omega)
            have gl := HG2.out.lt
            clear hy hx hij hb2
            go_wp2
            go_roundw
            case rel => exact ⟨j + 1, by omega, by go_num, by rw [← Nat.add_assoc, ← Q.out]; exact HG2.out.set_ _ _, HL2.out.setCell (Nat.le_refl _) _⟩
            case measure => simp [intOf]; omega
          · obtain rfl : m = j := by omega
            have j4 : ¬ (m : Int) < (m : Int) := by omega
            go_wp2
            go_roundw
            case rel => exact ⟨i + 1, by omega, by go_num, by rw [Nat.succ_mul]; exact HG2.out, HL2.out⟩
            case measure => simp [intOf]; omega
      · obtain rfl : n = i := by omega
        have i4 : ¬ (n : Int) < (n : Int) := by omega
        go_wp2_with fail
        have hl5 := HL.out.size
        refine (valid_any (r + s) _ N N (Lau.mulL N zs ys m (n * m)) a b w5.heap.size wr.heap.size rk ll code _ (Mine.of_blk HG.out (Nat.le_refl _) HG.out.lt (Lau.mulL_len _ _ _ _ _)) (Nat.le_refl _) (Nat.le_refl _) (by omega) (by unfold maxLen; omega) (by omega) (by omega) HT.out HO.out).mono ?_
        rintro e6 w6 ⟨A6, c6, rfl, hM, hb⟩
        have M6 := Lib.hid hM
        have s6 : wr.heap.size ≤ w6.heap.size := hb.size
        obtain ⟨n0, n1⟩ := (K1.out.below D5.out (by omega)).below hb (by omega)
        have f0 := (F1.out.below D5.out (by omega)).below hb (by omega)
        unfold Free at f0
        have HB6 := Lib.hid ((HB1.out.trans (D5.out.mono (by omega))).trans (hb.mono (by omega)))
        clear hb hM p0 p1 q0 q1
        go_wp2
        refine bodyPost_ret (v := .tuple #[.agg #[.int .i64 rk, .slice A6 ll.length c6], .int .i64 code]) (by simp [results, Try.results25, n0, n1, go_sem]) rfl ?_
        exact ResLC.fin M6.out HB6.out (by omega) (.inl (by omega)) (by omega) s6
end

end Go.Proofs.Ytpkjjcfcpmcdiaa
