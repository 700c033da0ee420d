/- Contracts of the program's sum of two polynomials. No condition but those that each theorem names. -/
import Derived.Test.YtpkjjcfcpmcdiaaLauS
import Derived.Test.YtpkjjcfcpmcdiaaLauQ
import Derived.Laws.CopyOwn
import Derived.Deep.RegionHeld3
namespace Go.Proofs.Ytpkjjcfcpmcdiaa
open Go.RowKit

/-- Two structs that have exchanged what they hold. -/
theorem swapped {w w2 W3 : World} {a b c d : Value} {x y : Value} (hX : BoxG w2 w.heap.size a b) (hY : BoxG w2 (w.heap.size + 1) c d) (hK : BoxG w2 (w.heap.size + 1 + 1) x y) (hF : Free w2 (w.heap.size + 1 + 1)) (hB : Below w.heap.size w w2)
    (hW : W3 = (((w2.setCell ⟨w.heap.size, 0, none⟩ c).setCell ⟨w.heap.size, 1, none⟩ d).setCell ⟨w.heap.size + 1, 0, none⟩ a).setCell ⟨w.heap.size + 1, 1, none⟩ b) (hs : w.heap.size + 1 + 1 < w2.heap.size) :
    BoxG W3 w.heap.size c d ∧ BoxG W3 (w.heap.size + 1) a b ∧ BoxG W3 (w.heap.size + 1 + 1) x y ∧ Free W3 (w.heap.size + 1 + 1) ∧ Below w.heap.size w W3 ∧ w.heap.size + 1 + 1 < W3.heap.size := by
  subst hW
  refine ⟨⟨?_, ?_⟩, ⟨?_, ?_⟩, ⟨?_, ?_⟩, ?_, ?_, ?_⟩
  · rw [World.cell?_setCell_other _ _ _ _ (by simp), World.cell?_setCell_other _ _ _ _ (by simp), World.cell?_setCell_other _ _ _ _ (by simp)]
    exact World.cell?_setCell_same _ _ _ hX.1
  · rw [World.cell?_setCell_other _ _ _ _ (by simp), World.cell?_setCell_other _ _ _ _ (by simp)]
    exact World.cell?_setCell_same _ _ _ (by rw [World.cell?_setCell_other _ _ _ _ (by simp)]; exact hX.2)
  · rw [World.cell?_setCell_other _ _ _ _ (by simp)]
    exact World.cell?_setCell_same _ _ _ (by rw [World.cell?_setCell_other _ _ _ _ (by simp), World.cell?_setCell_other _ _ _ _ (by simp)]; exact hY.1)
  · exact World.cell?_setCell_same _ _ _ (by rw [World.cell?_setCell_other _ _ _ _ (by simp), World.cell?_setCell_other _ _ _ _ (by simp), World.cell?_setCell_other _ _ _ _ (by simp)]; exact hY.2)
  · rw [World.cell?_setCell_other _ _ _ _ (by simp), World.cell?_setCell_other _ _ _ _ (by simp), World.cell?_setCell_other _ _ _ _ (by simp), World.cell?_setCell_other _ _ _ _ (by simp)]
    exact hK.1
  · rw [World.cell?_setCell_other _ _ _ _ (by simp), World.cell?_setCell_other _ _ _ _ (by simp), World.cell?_setCell_other _ _ _ _ (by simp), World.cell?_setCell_other _ _ _ _ (by simp)]
    exact hK.2
  · intro o
    rw [World.frozen?_setCell, World.frozen?_setCell, World.frozen?_setCell, World.frozen?_setCell]
    exact hF o
  · exact (((hB.setCell (Nat.le_refl _) _).setCell (Nat.le_refl _) _).setCell (by dsimp only; omega) _).setCell (by dsimp only; omega) _
  · simpa [World.setCell] using hs

/-- A list in a new block that is known whole. -/
def MadeL (w : World) (n : Nat) (l : List Int) (e : Ending) (w' : World) : Prop := ∃ g, e = .returned (.slice (some ⟨g, 0, none⟩) n n) ∧ Blk w' g l ∧ w.heap.size ≤ g ∧ Below w.heap.size w w'

theorem wpList_copy_front {w : World} {ops : Array Oper} {rest : List Oper} {o : Oper} {a : Act} {Q : Exit → Act → World → Prop} (hgd : o.guard = none) (d s : Operand) (ho : o.op = .call { callee := .builtin .copy, args := #[d, s], argTypes := #[24, 24] })
    (g n N c B : Nat) (A : Option Addr) (zs : List Int) (hd : a.eval d = .slice (some ⟨g, 0, none⟩) N N) (hs : a.eval s = .slice A n c) (hg : Blk w g (List.replicate N 0)) (hi : Ints w B A n zs) (hn : n ≤ N) (B0 : Nat) (w0 : World) (hb : Below B0 w0 w) (hB : B0 ≤ g)
    (h : ∀ w', Blk w' g (zs ++ List.replicate (N - n) 0) → Below B0 w0 w' → wpList Try.prog ops Q rest (a.put o.dst (goInt n)) w') : wpList Try.prog ops Q (o :: rest) a w := by
  have hl : (zs.map (Value.int .i64)).length = n := by simp [hi.1]
  refine wpList_copy_splice hgd d s _ _ ho 2 Try.underlying24 (by kernel_rfl) (some ⟨g, 0, none⟩) A N N n c hd hs g 0 ((List.replicate N 0).map (Value.int .i64)) 2 hg (zs.map (Value.int .i64)) (by rw [hl]; exact (Nat.min_eq_left hn).symm) (fun h0 => ⟨rfl, ?_⟩) (by rw [hl]; simp; omega) (by simp [Value.oneCell']) B0 w0 hb hB ?_
  · obtain ⟨b, off, e, _, hc⟩ := hi.2 (by omega)
    subst e
    exact ⟨_, rfl, hi.news⟩
  · intro w' hg' hb'
    rw [hl]
    refine h w' ?_ hb'
    have := hg'.out
    unfold Blk
    rw [this, splice, hl]
    simp

set_option maxHeartbeats 2000000 in
theorem sum_impl (A B : Option Addr) (n ca m cb d N : Nat) (zs ys : List Int) (w : World) (hA : Ints w w.heap.size A n zs) (hB : Ints w w.heap.size B m ys) (hn : n ≤ 160) (hm : m ≤ 160) (hd : d ≤ 480) (hN : N = max n (d + m))
    (hz : ∀ i, -1000000000000 ≤ zs.getD i 0 ∧ zs.getD i 0 ≤ 1000000000000) (hy : ∀ i, -1000000000000 ≤ ys.getD i 0 ∧ ys.getD i 0 ≤ 1000000000000) :
    Calls Try.prog 17 #[.slice A n ca, .slice B m cb, .int .i64 d] w (MadeL w N (Lau.addL N 0 zs n d ys m)) := by
  have HA := Lib.hid hA
  have HB := Lib.hid hB
  have HZ := Lib.hid hz
  have HY := Lib.hid hy
  have hl := Lib.hid hA.1
  have hl2 := Lib.hid hB.1
  have nN : n ≤ N := by omega
  have mN : d + m ≤ N := by omega
  have NN : N ≤ 640 := by omega
  have hmk := run_make_ints N (by omega)
  have e0 : (if (n : Int) < (d : Int) + (m : Int) then (d : Int) + (m : Int) else (n : Int)) = (N : Int) := by split <;> omega
  clear hA hB hz hy
  rcases Nat.lt_or_ge n (d + m) with hc | hc
  all_goals
    first
      | (have c1 : (n : Int) < (d : Int) + (m : Int) := by omega
         have e1 : (d : Int) + (m : Int) = (N : Int) := by omega
         have e2 : (d : Int) + (m : Int) ≤ 640 := by omega)
      | (have c1 : ¬ (n : Int) < (d : Int) + (m : Int) := by omega
         have e1 : (n : Int) = (N : Int) := by omega
         have e2 : (n : Int) ≤ 640 := by omega)
    clear hN
    go_enter Try.func17, Try.ntmps17
    go_wp2_with (refine wpList_copy_front rfl _ _ rfl w.heap.size n N ca w.heap.size A zs rfl rfl (Blk.zeros _ _) (HA.out.below (al1 w _)) nN w.heap.size w (al1 w _) (Nat.le_refl _) ?_; intro w3 hg3 hb3; have G3 := Lib.hid hg3; have B3 := Lib.hid hb3; clear hg3 hb3)
    go_loopw [23] (fun x wr => ∃ k : Nat, k ≤ m ∧ x = .int .i64 k ∧ Blk wr w.heap.size (Lau.addL N 0 zs n d ys k) ∧ Below w.heap.size w wr) (fun x _ => m - (intOf x).toNat)
    case atStart => exact ⟨0, Nat.zero_le _, rfl, by rw [Lau.addL_copy d ys hl.out nN]; exact G3.out, B3.out⟩
    case round =>
      obtain ⟨k, hk, rfl, hblk, hbel⟩ := hrel
      have HG := Lib.hid hblk
      have HL := Lib.hid hbel
      clear hblk hbel
      by_cases hlt : k < m
      · obtain ⟨b, off, z, rfl, _, hz, hc⟩ := (HB.out.below HL.out).at_z hlt
        have hdk : d + k < N := by omega
        have hcv := HG.out.cell (i := d + k) (by rw [Lau.addL_len]; exact hdk)
        have hfr := HG.out.frozen (d + k)
        have hbd := Lau.addL_bound (N := N) (dp := 0) (kp := n) (dq := d) (kq := k) HZ.out HY.out (d + k)
        have hbz := HY.out k
        rw [hz] at hbz
        have Q := Lib.hid (Lau.addL_q (N := N) (dp := 0) (zs := zs) (kp := n) (dq := d) (ys := ys) (kq := k) hdk)
        rw [hz] at Q
        obtain ⟨v, hv⟩ : ∃ v, (Lau.addL N 0 zs n d ys k).getD (d + k) 0 = v := ⟨_, rfl⟩
        rw [hv] at hcv hbd Q
        obtain ⟨v1, v2⟩ := hbd
        obtain ⟨b1, b2⟩ := hbz
        have i0 : (0 : Int) ≤ (d : Int) + (k : Int) := by omega
        have i1 : (d : Int) + (k : Int) < (N : Int) := by omega
        have i2 : ((d : Int) + (k : Int)).toNat = d + k := by omega
        have i3 : (0 : Int) ≤ (k : Int) := by omega
        have i4 : (k : Int) < (m : Int) := by omega
        have gl := HG.out.lt
        clear hz hv hdk
        go_wp2
        go_roundw
        case rel => exact ⟨k + 1, by omega, by go_num, by rw [← Q.out]; exact HG.out.set_ _ _, HL.out.setCell (Nat.le_refl _) _⟩
        case measure => simp [intOf]; omega
      · obtain rfl : k = m := by omega
        go_wp2
        go_ret
        exact ⟨w.heap.size, rfl, HG.out, Nat.le_refl _, HL.out⟩

section
variable (r s : Int) (A B : Option Addr) (n ca m cb : Nat) (zs : List Int) (w : World) (hA : Ints w w.heap.size A n zs) (hn : n ≤ 1048576)
include hA hn

set_option maxHeartbeats 2000000 in
theorem add_impl_badA (hP : ¬ Lau.LOk r zs) : Calls Try.prog 8 #[.agg #[.int .i64 r, .slice A n ca], .agg #[.int .i64 s, .slice B m cb]] w (ResLC w 0 [] 1) := by
  have X0 := Lib.hid ((BoxG.new w 26 (.int .i64 r) (.slice A n ca)).below (al2 _ (Obj.cells #[.int .i64 s, .slice B m cb] 26) (Obj.cells #[.int .i64 0, .slice none 0 0] 26)) (by simp))
  have Y0 := Lib.hid ((BoxG.new (w.alloc (Obj.cells #[.int .i64 r, .slice A n ca] 26)) 26 (.int .i64 s) (.slice B m cb)).below (al1 _ (Obj.cells #[.int .i64 0, .slice none 0 0] 26)) (by simp))
  have K0 := Lib.hid (BoxG.new ((w.alloc (Obj.cells #[.int .i64 r, .slice A n ca] 26)).alloc (Obj.cells #[.int .i64 s, .slice B m cb] 26)) 26 (.int .i64 0) (.slice none 0 0))
  have F0 := Lib.hid (Free.new ((w.alloc (Obj.cells #[.int .i64 r, .slice A n ca] 26)).alloc (Obj.cells #[.int .i64 s, .slice B m cb] 26)) 26 #[.int .i64 0, .slice none 0 0])
  have FX0 := Lib.hid ((Free.new w 26 #[.int .i64 r, .slice A n ca]).below (al2 _ (Obj.cells #[.int .i64 s, .slice B m cb] 26) (Obj.cells #[.int .i64 0, .slice none 0 0] 26)) (by simp))
  have FY0 := Lib.hid ((Free.new (w.alloc (Obj.cells #[.int .i64 r, .slice A n ca] 26)) 26 #[.int .i64 s, .slice B m cb]).below (al1 _ (Obj.cells #[.int .i64 0, .slice none 0 0] 26)) (by simp))
  simp only [World.size_alloc] at Y0 K0 F0 FY0
  have HLA := Lib.hid (isLi_no r A n ca zs _ (hA.into (al3 w (Obj.cells #[.int .i64 r, .slice A n ca] 26) (Obj.cells #[.int .i64 s, .slice B m cb] 26) (Obj.cells #[.int .i64 0, .slice none 0 0] 26))) hn hP)
  clear hA hP
  go_enter Try.func8, Try.ntmps8
  go_wp2_with fail
  refine HLA.out.mono ?_
  rintro e1 w1 ⟨rfl, hb⟩
  have s1 : w.heap.size + 1 + 1 < w1.heap.size := by have := hb.size; simp at this; omega
  have X1 := Lib.hid (X0.out.below hb (by simp <;> omega))
  have Y1 := Lib.hid (Y0.out.below hb (by simp <;> omega))
  have K1 := Lib.hid (K0.out.below hb (by simp))
  have F1 := Lib.hid (F0.out.below hb (by simp))
  have FX1 := Lib.hid (FX0.out.below hb (by simp <;> omega))
  have FY1 := Lib.hid (FY0.out.below hb (by simp <;> omega))
  have HB1 := Lib.hid (on3 _ _ _ hb)
  clear hb X0 Y0 K0 F0 FX0 FY0
  obtain ⟨n0, n1⟩ := K1.out
  have f0 := F1.out
  unfold Free at f0
  go_wp2
  refine bodyPost_ret (v := .tuple #[.agg #[.int .i64 0, .slice none 0 0], .int .i64 1]) (by simp [results, Try.results8, n0, n1, go_sem]) rfl ?_
  exact ⟨none, 0, rfl, Mine.none_ _ _ _ _, (HB1.out.setCell (by dsimp only; omega) _).setCell (by dsimp only; omega) _⟩

end

section
variable (r s : Int) (A B : Option Addr) (n ca m cb : Nat) (zs ys : List Int) (w : World) (hA : Ints w w.heap.size A n zs) (hB : Ints w w.heap.size B m ys) (hn : n ≤ 1048576) (hm : m ≤ 1048576)
include hA hB hn hm

set_option maxHeartbeats 2000000 in
theorem add_impl_badB (hP : Lau.LOk r zs) (hQ : ¬ Lau.LOk s ys) : Calls Try.prog 8 #[.agg #[.int .i64 r, .slice A n ca], .agg #[.int .i64 s, .slice B m cb]] w (ResLC w 0 [] 1) := by
  have X0 := Lib.hid ((BoxG.new w 26 (.int .i64 r) (.slice A n ca)).below (al2 _ (Obj.cells #[.int .i64 s, .slice B m cb] 26) (Obj.cells #[.int .i64 0, .slice none 0 0] 26)) (by simp))
  have Y0 := Lib.hid ((BoxG.new (w.alloc (Obj.cells #[.int .i64 r, .slice A n ca] 26)) 26 (.int .i64 s) (.slice B m cb)).below (al1 _ (Obj.cells #[.int .i64 0, .slice none 0 0] 26)) (by simp))
  have K0 := Lib.hid (BoxG.new ((w.alloc (Obj.cells #[.int .i64 r, .slice A n ca] 26)).alloc (Obj.cells #[.int .i64 s, .slice B m cb] 26)) 26 (.int .i64 0) (.slice none 0 0))
  have F0 := Lib.hid (Free.new ((w.alloc (Obj.cells #[.int .i64 r, .slice A n ca] 26)).alloc (Obj.cells #[.int .i64 s, .slice B m cb] 26)) 26 #[.int .i64 0, .slice none 0 0])
  have FX0 := Lib.hid ((Free.new w 26 #[.int .i64 r, .slice A n ca]).below (al2 _ (Obj.cells #[.int .i64 s, .slice B m cb] 26) (Obj.cells #[.int .i64 0, .slice none 0 0] 26)) (by simp))
  have FY0 := Lib.hid ((Free.new (w.alloc (Obj.cells #[.int .i64 r, .slice A n ca] 26)) 26 #[.int .i64 s, .slice B m cb]).below (al1 _ (Obj.cells #[.int .i64 0, .slice none 0 0] 26)) (by simp))
  simp only [World.size_alloc] at Y0 K0 F0 FY0
  have HLA := Lib.hid (isLi_yes r A n ca zs _ (hA.into (al3 w (Obj.cells #[.int .i64 r, .slice A n ca] 26) (Obj.cells #[.int .i64 s, .slice B m cb] 26) (Obj.cells #[.int .i64 0, .slice none 0 0] 26))) hn hP)
  have HLB := Lib.hid (fun (W : World) (hb : Below w.heap.size w W) => isLi_no s B m cb ys W (hB.into hb) hm hQ)
  clear hA hB hP hQ
  go_enter Try.func8, Try.ntmps8
  go_wp2_with fail
  refine HLA.out.mono ?_
  rintro e1 w1 ⟨rfl, hb⟩
  have s1 : w.heap.size + 1 + 1 < w1.heap.size := by have := hb.size; simp at this; omega
  have X1 := Lib.hid (X0.out.below hb (by simp <;> omega))
  have Y1 := Lib.hid (Y0.out.below hb (by simp <;> omega))
  have K1 := Lib.hid (K0.out.below hb (by simp))
  have F1 := Lib.hid (F0.out.below hb (by simp))
  have FX1 := Lib.hid (FX0.out.below hb (by simp <;> omega))
  have FY1 := Lib.hid (FY0.out.below hb (by simp <;> omega))
  have HB1 := Lib.hid (on3 _ _ _ hb)
  clear hb X0 Y0 K0 F0 FX0 FY0
  obtain ⟨y0, y1⟩ := Y1.out
  go_wp2_with fail
  refine (HLB.out _ HB1.out).mono ?_
  rintro e1 w2 ⟨rfl, hb⟩
  have s2 : w1.heap.size ≤ w2.heap.size := hb.size
  have X2 := Lib.hid (X1.out.below hb (by omega))
  have Y2 := Lib.hid (Y1.out.below hb (by omega))
  have K2 := Lib.hid (K1.out.below hb (by omega))
  have F2 := Lib.hid (F1.out.below hb (by omega))
  have FX2 := Lib.hid (FX1.out.below hb (by omega))
  have FY2 := Lib.hid (FY1.out.below hb (by omega))
  have HB2 := Lib.hid (HB1.out.trans (hb.mono (by omega)))
  clear hb X1 Y1 K1 F1 FX1 FY1 HB1 y0 y1
  obtain ⟨n0, n1⟩ := K2.out
  have f0 := F2.out
  unfold Free at f0
  go_wp2
  refine bodyPost_ret (v := .tuple #[.agg #[.int .i64 0, .slice none 0 0], .int .i64 1]) (by simp [results, Try.results8, n0, n1, go_sem]) rfl ?_
  exact ⟨none, 0, rfl, Mine.none_ _ _ _ _, (HB2.out.setCell (by dsimp only; omega) _).setCell (by dsimp only; omega) _⟩

set_option maxHeartbeats 8000000 in
theorem add_impl_le (d N a b : Nat) (rk : Int) (ll : List Int) (code : Int) (hP : Lau.LOk r zs) (hQ : Lau.LOk s ys) (hd : s = r + (d : Int)) (hN : N = max n (d + m)) (hT : Lau.Trimmed (Lau.addL N 0 zs n d ys m) a b) (ho : LOut (Lau.lowOf r a b) (Lau.cut (Lau.addL N 0 zs n d ys m) a b) rk ll code) : Calls Try.prog 8 #[.agg #[.int .i64 r, .slice A n ca], .agg #[.int .i64 s, .slice B m cb]] w (ResLC w rk ll code) := by
  have X0 := Lib.hid ((BoxG.new w 26 (.int .i64 r) (.slice A n ca)).below (al2 _ (Obj.cells #[.int .i64 s, .slice B m cb] 26) (Obj.cells #[.int .i64 0, .slice none 0 0] 26)) (by simp))
  have Y0 := Lib.hid ((BoxG.new (w.alloc (Obj.cells #[.int .i64 r, .slice A n ca] 26)) 26 (.int .i64 s) (.slice B m cb)).below (al1 _ (Obj.cells #[.int .i64 0, .slice none 0 0] 26)) (by simp))
  have K0 := Lib.hid (BoxG.new ((w.alloc (Obj.cells #[.int .i64 r, .slice A n ca] 26)).alloc (Obj.cells #[.int .i64 s, .slice B m cb] 26)) 26 (.int .i64 0) (.slice none 0 0))
  have F0 := Lib.hid (Free.new ((w.alloc (Obj.cells #[.int .i64 r, .slice A n ca] 26)).alloc (Obj.cells #[.int .i64 s, .slice B m cb] 26)) 26 #[.int .i64 0, .slice none 0 0])
  have FX0 := Lib.hid ((Free.new w 26 #[.int .i64 r, .slice A n ca]).below (al2 _ (Obj.cells #[.int .i64 s, .slice B m cb] 26) (Obj.cells #[.int .i64 0, .slice none 0 0] 26)) (by simp))
  have FY0 := Lib.hid ((Free.new (w.alloc (Obj.cells #[.int .i64 r, .slice A n ca] 26)) 26 #[.int .i64 s, .slice B m cb]).below (al1 _ (Obj.cells #[.int .i64 0, .slice none 0 0] 26)) (by simp))
  simp only [World.size_alloc] at Y0 K0 F0 FY0
  have HLA := Lib.hid (isLi_yes r A n ca zs _ (hA.into (al3 w (Obj.cells #[.int .i64 r, .slice A n ca] 26) (Obj.cells #[.int .i64 s, .slice B m cb] 26) (Obj.cells #[.int .i64 0, .slice none 0 0] 26))) hn hP)
  have HLB := Lib.hid (fun (W : World) (hb : Below w.heap.size w W) => isLi_yes s B m cb ys W (hB.into hb) hm hQ)
  have hlr := hP.low
  have hls := hQ.low
  have nz : n ≤ 160 := by have := hP.len; have := hA.1; omega
  have mz : m ≤ 160 := by have := hQ.len; have := hB.1; omega
  have HA := Lib.hid hA
  have HB := Lib.hid hB
  have HT := Lib.hid hT
  have HO := Lib.hid ho
  have EP := Lib.hid hP.ent'
  have EQ := Lib.hid hQ.ent'
  have HN := Lib.hid hN
  have NN : N ≤ 640 := by omega
  have d480 : d ≤ 480 := by omega
  have hdd : s - r = (d : Int) := by omega
  have DD := Lib.hid hdd
  have ws : IntKind.i64.wrap (s - r) = (d : Int) := by rw [hdd]; exact IntWalk.i64_in _ (by omega)
  have t1 : decide (s < r) = false := by simp; omega
  have t2 : ¬ s < r := by omega
  clear hA hB hP hQ hN hd hT ho hdd
  go_enter Try.func8, Try.ntmps8
  go_wp2_with fail
  refine HLA.out.mono ?_
  rintro e1 w1 ⟨rfl, hb⟩
  have s1 : w.heap.size + 1 + 1 < w1.heap.size := by have := hb.size; simp at this; omega
  have X1 := Lib.hid (X0.out.below hb (by simp <;> omega))
  have Y1 := Lib.hid (Y0.out.below hb (by simp <;> omega))
  have K1 := Lib.hid (K0.out.below hb (by simp))
  have F1 := Lib.hid (F0.out.below hb (by simp))
  have FX1 := Lib.hid (FX0.out.below hb (by simp <;> omega))
  have FY1 := Lib.hid (FY0.out.below hb (by simp <;> omega))
  have HB1 := Lib.hid (on3 _ _ _ hb)
  clear hb X0 Y0 K0 F0 FX0 FY0
  obtain ⟨y0, y1⟩ := Y1.out
  go_wp2_with fail
  refine (HLB.out _ HB1.out).mono ?_
  rintro e1 w2 ⟨rfl, hb⟩
  have s2 : w1.heap.size ≤ w2.heap.size := hb.size
  have X2 := Lib.hid (X1.out.below hb (by omega))
  have Y2 := Lib.hid (Y1.out.below hb (by omega))
  have K2 := Lib.hid (K1.out.below hb (by omega))
  have F2 := Lib.hid (F1.out.below hb (by omega))
  have FX2 := Lib.hid (FX1.out.below hb (by omega))
  have FY2 := Lib.hid (FY1.out.below hb (by omega))
  have HB2 := Lib.hid (HB1.out.trans (hb.mono (by omega)))
  clear hb X1 Y1 K1 F1 FX1 FY1 HB1 y0 y1
  obtain ⟨x0, x1⟩ := X2.out
  obtain ⟨y0, y1⟩ := Y2.out
  go_wp2_with fail
  have s3 : w.heap.size + 1 + 1 < w2.heap.size := by omega
  have ne1 : ¬ w.heap.size = w.heap.size + 1 + 1 := by omega
  have ne2 : ¬ w.heap.size + 1 + 1 = w.heap.size := by omega
  go_region_held3 (fun W => (W.cell? ⟨w.heap.size, 0, none⟩ = some (.int .i64 r) ∧ W.cell? ⟨w.heap.size, 1, none⟩ = some (.slice A n ca)) ∧ (W.cell? ⟨w.heap.size + 1, 0, none⟩ = some (.int .i64 s) ∧ W.cell? ⟨w.heap.size + 1, 1, none⟩ = some (.slice B m cb))) (go_keep)
    (first
      | (go_at_call 17; (with_reducible refine (sum_impl A B n ca m cb d N zs ys _ (by exact HA.out.into HB2.out.drew) (by exact HB.out.into HB2.out.drew) (by omega) (by omega) d480 HN.out EP.out EQ.out).mono ?_); rintro e5 w5 ⟨g5, rfl, hblk, hg5, hb'⟩; have hb5 := undrew hb'; have G5 := Lib.hid hblk; have B5 := Lib.hid hb5; have s5 : w2.heap.size ≤ w5.heap.size := hb5.size; have g5' : w2.heap.size ≤ g5 := hg5; obtain ⟨p0, p1⟩ := X2.out.below hb5 (by omega); obtain ⟨q0, q1⟩ := Y2.out.below hb5 (by omega); clear hblk hb5 hb' hg5)
      | (go_at_call 16; (with_reducible refine (valid_any r _ N N (Lau.addL N 0 zs n d ys m) a b w2.heap.size w5.heap.size rk ll code _ (by exact Mine.of_blk G5.out g5' G5.out.lt (Lau.addL_len _ _ _ _ _ _ _)) (Nat.le_refl _) (Nat.le_refl _) (by omega) (by unfold maxLen; omega) (by omega) (by omega) HT.out HO.out).mono ?_); rintro e6 w6 ⟨A6, c6, rfl, hM, hb⟩; have M6 := Lib.hid hM; have s6 : w5.heap.size ≤ w6.heap.size := hb.size; have HB6 := Lib.hid ((HB2.out.trans (B5.out.mono (by omega))).trans (hb.mono (by omega))); obtain ⟨n0, n1⟩ := (K2.out.below B5.out (by omega)).below hb (by omega); have f0 := (F2.out.below B5.out (by omega)).below hb (by omega); unfold Free at f0; obtain ⟨u0, u1⟩ := (X2.out.below B5.out (by omega)).below hb (by omega); obtain ⟨v0, v1⟩ := (Y2.out.below B5.out (by omega)).below hb (by omega); clear hb hM))
  go_wp2
  refine bodyPost_ret (v := .tuple #[.agg #[.int .i64 rk, .slice A6 ll.length c6], .int .i64 code]) (by simp [results, Try.results8, n0, n1, go_sem]) rfl ?_
  exact ResLC.fin M6.out HB6.out (by omega) (.inl (by omega)) (by omega) s6

set_option maxHeartbeats 8000000 in
theorem add_impl_gt (d N a b : Nat) (rk : Int) (ll : List Int) (code : Int) (hP : Lau.LOk r zs) (hQ : Lau.LOk s ys) (hd : r = s + (d : Int)) (hlt : s < r) (hN : N = max m (d + n)) (hT : Lau.Trimmed (Lau.addL N 0 ys m d zs n) a b) (ho : LOut (Lau.lowOf s a b) (Lau.cut (Lau.addL N 0 ys m d zs n) a b) rk ll code) : Calls Try.prog 8 #[.agg #[.int .i64 r, .slice A n ca], .agg #[.int .i64 s, .slice B m cb]] w (ResLC w rk ll code) := by
  have X0 := Lib.hid ((BoxG.new w 26 (.int .i64 r) (.slice A n ca)).below (al2 _ (Obj.cells #[.int .i64 s, .slice B m cb] 26) (Obj.cells #[.int .i64 0, .slice none 0 0] 26)) (by simp))
  have Y0 := Lib.hid ((BoxG.new (w.alloc (Obj.cells #[.int .i64 r, .slice A n ca] 26)) 26 (.int .i64 s) (.slice B m cb)).below (al1 _ (Obj.cells #[.int .i64 0, .slice none 0 0] 26)) (by simp))
  have K0 := Lib.hid (BoxG.new ((w.alloc (Obj.cells #[.int .i64 r, .slice A n ca] 26)).alloc (Obj.cells #[.int .i64 s, .slice B m cb] 26)) 26 (.int .i64 0) (.slice none 0 0))
  have F0 := Lib.hid (Free.new ((w.alloc (Obj.cells #[.int .i64 r, .slice A n ca] 26)).alloc (Obj.cells #[.int .i64 s, .slice B m cb] 26)) 26 #[.int .i64 0, .slice none 0 0])
  have FX0 := Lib.hid ((Free.new w 26 #[.int .i64 r, .slice A n ca]).below (al2 _ (Obj.cells #[.int .i64 s, .slice B m cb] 26) (Obj.cells #[.int .i64 0, .slice none 0 0] 26)) (by simp))
  have FY0 := Lib.hid ((Free.new (w.alloc (Obj.cells #[.int .i64 r, .slice A n ca] 26)) 26 #[.int .i64 s, .slice B m cb]).below (al1 _ (Obj.cells #[.int .i64 0, .slice none 0 0] 26)) (by simp))
  simp only [World.size_alloc] at Y0 K0 F0 FY0
  have HLA := Lib.hid (isLi_yes r A n ca zs _ (hA.into (al3 w (Obj.cells #[.int .i64 r, .slice A n ca] 26) (Obj.cells #[.int .i64 s, .slice B m cb] 26) (Obj.cells #[.int .i64 0, .slice none 0 0] 26))) hn hP)
  have HLB := Lib.hid (fun (W : World) (hb : Below w.heap.size w W) => isLi_yes s B m cb ys W (hB.into hb) hm hQ)
  have hlr := hP.low
  have hls := hQ.low
  have nz : n ≤ 160 := by have := hP.len; have := hA.1; omega
  have mz : m ≤ 160 := by have := hQ.len; have := hB.1; omega
  have HA := Lib.hid hA
  have HB := Lib.hid hB
  have HT := Lib.hid hT
  have HO := Lib.hid ho
  have EP := Lib.hid hP.ent'
  have EQ := Lib.hid hQ.ent'
  have HN := Lib.hid hN
  have NN : N ≤ 640 := by omega
  have d480 : d ≤ 480 := by omega
  have hdd : r - s = (d : Int) := by omega
  have DD := Lib.hid hdd
  have ws : IntKind.i64.wrap (r - s) = (d : Int) := by rw [hdd]; exact IntWalk.i64_in _ (by omega)
  have t1 : decide (s < r) = true := by simp; omega
  have t2 : s < r := by omega
  clear hA hB hP hQ hN hd hT ho hdd
  go_enter Try.func8, Try.ntmps8
  go_wp2_with fail
  refine HLA.out.mono ?_
  rintro e1 w1 ⟨rfl, hb⟩
  have s1 : w.heap.size + 1 + 1 < w1.heap.size := by have := hb.size; simp at this; omega
  have X1 := Lib.hid (X0.out.below hb (by simp <;> omega))
  have Y1 := Lib.hid (Y0.out.below hb (by simp <;> omega))
  have K1 := Lib.hid (K0.out.below hb (by simp))
  have F1 := Lib.hid (F0.out.below hb (by simp))
  have FX1 := Lib.hid (FX0.out.below hb (by simp <;> omega))
  have FY1 := Lib.hid (FY0.out.below hb (by simp <;> omega))
  have HB1 := Lib.hid (on3 _ _ _ hb)
  clear hb X0 Y0 K0 F0 FX0 FY0
  obtain ⟨y0, y1⟩ := Y1.out
  go_wp2_with fail
  refine (HLB.out _ HB1.out).mono ?_
  rintro e1 w2 ⟨rfl, hb⟩
  have s2 : w1.heap.size ≤ w2.heap.size := hb.size
  have X2 := Lib.hid (X1.out.below hb (by omega))
  have Y2 := Lib.hid (Y1.out.below hb (by omega))
  have K2 := Lib.hid (K1.out.below hb (by omega))
  have F2 := Lib.hid (F1.out.below hb (by omega))
  have FX2 := Lib.hid (FX1.out.below hb (by omega))
  have FY2 := Lib.hid (FY1.out.below hb (by omega))
  have HB2 := Lib.hid (HB1.out.trans (hb.mono (by omega)))
  clear hb X1 Y1 K1 F1 FX1 FY1 HB1 y0 y1
  obtain ⟨x0, x1⟩ := X2.out
  obtain ⟨y0, y1⟩ := Y2.out
  have fx := FX2.out
  have fy := FY2.out
  unfold Free at fx fy
  go_wp2_with fail
  obtain ⟨W3, hW3⟩ : ∃ W3, W3 = (((w2.setCell ⟨w.heap.size, 0, none⟩ (.int .i64 s)).setCell ⟨w.heap.size, 1, none⟩ (.slice B m cb)).setCell ⟨w.heap.size + 1, 0, none⟩ (.int .i64 r)).setCell ⟨w.heap.size + 1, 1, none⟩ (.slice A n ca) := ⟨_, rfl⟩
  have SW := Lib.hid (swapped X2.out Y2.out K2.out F2.out HB2.out hW3 (by omega))
  rw [← hW3]
  clear hW3 X2 Y2 K2 F2 FX2 FY2 HB2 x0 x1 y0 y1 fx fy
  have X2 := Lib.hid SW.out.1
  have Y2 := Lib.hid SW.out.2.1
  have K2 := Lib.hid SW.out.2.2.1
  have F2 := Lib.hid SW.out.2.2.2.1
  have HB2 := Lib.hid SW.out.2.2.2.2.1
  have s3 : w.heap.size + 1 + 1 < W3.heap.size := by have := SW.out.2.2.2.2.2; omega
  obtain ⟨x0, x1⟩ := X2.out
  obtain ⟨y0, y1⟩ := Y2.out
  obtain ⟨w2, rfl⟩ : ∃ w2, w2 = W3 := ⟨_, rfl⟩
  clear SW
  have ne1 : ¬ w.heap.size = w.heap.size + 1 + 1 := by omega
  have ne2 : ¬ w.heap.size + 1 + 1 = w.heap.size := by omega
  go_region_held3 (fun W => (W.cell? ⟨w.heap.size, 0, none⟩ = some (.int .i64 s) ∧ W.cell? ⟨w.heap.size, 1, none⟩ = some (.slice B m cb)) ∧ (W.cell? ⟨w.heap.size + 1, 0, none⟩ = some (.int .i64 r) ∧ W.cell? ⟨w.heap.size + 1, 1, none⟩ = some (.slice A n ca))) (go_keep)
    (first
      | (go_at_call 17; (with_reducible refine (sum_impl B A m cb n ca d N ys zs _ (by exact HB.out.into HB2.out.drew) (by exact HA.out.into HB2.out.drew) (by omega) (by omega) d480 HN.out EQ.out EP.out).mono ?_); rintro e5 w5 ⟨g5, rfl, hblk, hg5, hb'⟩; have hb5 := undrew hb'; have G5 := Lib.hid hblk; have B5 := Lib.hid hb5; have s5 : w2.heap.size ≤ w5.heap.size := hb5.size; have g5' : w2.heap.size ≤ g5 := hg5; obtain ⟨p0, p1⟩ := X2.out.below hb5 (by omega); obtain ⟨q0, q1⟩ := Y2.out.below hb5 (by omega); clear hblk hb5 hb' hg5)
      | (go_at_call 16; (with_reducible refine (valid_any s _ N N (Lau.addL N 0 ys m d zs n) a b w2.heap.size w5.heap.size rk ll code _ (by exact Mine.of_blk G5.out g5' G5.out.lt (Lau.addL_len _ _ _ _ _ _ _)) (Nat.le_refl _) (Nat.le_refl _) (by omega) (by unfold maxLen; omega) (by omega) (by omega) HT.out HO.out).mono ?_); rintro e6 w6 ⟨A6, c6, rfl, hM, hb⟩; have M6 := Lib.hid hM; have s6 : w5.heap.size ≤ w6.heap.size := hb.size; have HB6 := Lib.hid ((HB2.out.trans (B5.out.mono (by omega))).trans (hb.mono (by omega))); obtain ⟨n0, n1⟩ := (K2.out.below B5.out (by omega)).below hb (by omega); have f0 := (F2.out.below B5.out (by omega)).below hb (by omega); unfold Free at f0; obtain ⟨u0, u1⟩ := (X2.out.below B5.out (by omega)).below hb (by omega); obtain ⟨v0, v1⟩ := (Y2.out.below B5.out (by omega)).below hb (by omega); clear hb hM))
  go_wp2
  refine bodyPost_ret (v := .tuple #[.agg #[.int .i64 rk, .slice A6 ll.length c6], .int .i64 code]) (by simp [results, Try.results8, n0, n1, go_sem]) rfl ?_
  exact ResLC.fin M6.out HB6.out (by omega) (.inl (by omega)) (by omega) s6

end

end Go.Proofs.Ytpkjjcfcpmcdiaa
