/- Contracts of the program's sum of two groups. No condition but those that each theorem names. -/
import Derived.Test.YtgmkcmdnbfolhaaDsB
import Derived.Test.YtgmkcmdnbfolhaaGrpL
import Derived.Test.YtgmkcmdnbfolhaaGrpB
namespace Go.Proofs.Ytgmkcmdnbfolhaa
open Go.RowKit

section
variable (r : Int) (A : Option Addr) (n c : Nat) (zs : List Int) (w : World) (h : Ints w w.heap.size A n zs) (hn : n ≤ 1048576)
include h hn
theorem gi_yes (hP : AOk r zs) : Calls Try.prog 31 #[.agg #[.int .i64 r, .slice A n c]] w fun e w' => e = .returned (.bool true) ∧ Below w.heap.size w w' := (isA_impl r A n c zs w h hn).mono fun _ _ h => h.yes hP
theorem gi_no (hP : ¬ AOk r zs) : Calls Try.prog 31 #[.agg #[.int .i64 r, .slice A n c]] w fun e w' => e = .returned (.bool false) ∧ Below w.heap.size w w' := (isA_impl r A n c zs w h hn).mono fun _ _ h => h.no hP
theorem gs_yes (hP : AOk r zs) : Calls Try.prog 26 #[.agg #[.int .i64 r, .slice A n c]] w fun e w' => e = .returned (.bool true) ∧ Below w.heap.size w w' := (isA_spec r A n c zs w h hn).mono fun _ _ h => h.yes hP
theorem gs_no (hP : ¬ AOk r zs) : Calls Try.prog 26 #[.agg #[.int .i64 r, .slice A n c]] w fun e w' => e = .returned (.bool false) ∧ Below w.heap.size w w' := (isA_spec r A n c zs w h hn).mono fun _ _ h => h.no hP
end

theorem AOk.ent {r : Int} {zs : List Int} (h : AOk r zs) (i : Nat) : -1000000000000 ≤ zs.getD i 0 ∧ zs.getD i 0 ≤ 1000000000000 := by
  rcases Nat.lt_or_ge i zs.length with hi | hi
  · have := h.2.2.2.1 i hi; omega
  · rw [List.getD_eq_getElem?_getD, List.getElem?_eq_none hi]; simp
theorem ent_app {l m : List Int} (h1 : ∀ i, -1000000000000 ≤ l.getD i 0 ∧ l.getD i 0 ≤ 1000000000000) (h2 : ∀ i, -1000000000000 ≤ m.getD i 0 ∧ m.getD i 0 ≤ 1000000000000) (i : Nat) : -1000000000000 ≤ (l ++ m).getD i 0 ∧ (l ++ m).getD i 0 ≤ 1000000000000 := by
  rw [List.getD_eq_getElem?_getD]
  rcases Nat.lt_or_ge i l.length with hi | hi
  · rw [List.getElem?_append_left hi, ← List.getD_eq_getElem?_getD]; exact h1 i
  · rw [List.getElem?_append_right hi, ← List.getD_eq_getElem?_getD]; exact h2 _

section
variable (r s : Int) (A B : Option Addr) (n ca m cb : Nat) (zs : List Int) (w : World) (hA : Ints w w.heap.size A n zs) (hn : n ≤ 1048576)
include hA hn

set_option maxHeartbeats 2000000 in
theorem dsum_impl_badA (hP : ¬ AOk r zs) : Calls Try.prog 9 #[.agg #[.int .i64 r, .slice A n ca], .agg #[.int .i64 s, .slice B m cb]] w (ResLC w 0 [] 1) := by
  have X0 := Lib.hid ((BoxG.new w 26 (.int .i64 r) (.slice A n ca)).below (al2 _ (Obj.cells #[.int .i64 s, .slice B m cb] 26) (Obj.cells #[.int .i64 0, .slice none 0 0] 26)) (by simp))
  have Y0 := Lib.hid ((BoxG.new (w.alloc (Obj.cells #[.int .i64 r, .slice A n ca] 26)) 26 (.int .i64 s) (.slice B m cb)).below (al1 _ (Obj.cells #[.int .i64 0, .slice none 0 0] 26)) (by simp))
  have K0 := Lib.hid (BoxG.new ((w.alloc (Obj.cells #[.int .i64 r, .slice A n ca] 26)).alloc (Obj.cells #[.int .i64 s, .slice B m cb] 26)) 26 (.int .i64 0) (.slice none 0 0))
  have F0 := Lib.hid (Free.new ((w.alloc (Obj.cells #[.int .i64 r, .slice A n ca] 26)).alloc (Obj.cells #[.int .i64 s, .slice B m cb] 26)) 26 #[.int .i64 0, .slice none 0 0])
  have FX0 := Lib.hid ((Free.new w 26 #[.int .i64 r, .slice A n ca]).below (al2 _ (Obj.cells #[.int .i64 s, .slice B m cb] 26) (Obj.cells #[.int .i64 0, .slice none 0 0] 26)) (by simp))
  have FY0 := Lib.hid ((Free.new (w.alloc (Obj.cells #[.int .i64 r, .slice A n ca] 26)) 26 #[.int .i64 s, .slice B m cb]).below (al1 _ (Obj.cells #[.int .i64 0, .slice none 0 0] 26)) (by simp))
  simp only [World.size_alloc] at Y0 K0 F0 FY0
  have HLA := Lib.hid (gi_no r A n ca zs _ (hA.into (al3 w (Obj.cells #[.int .i64 r, .slice A n ca] 26) (Obj.cells #[.int .i64 s, .slice B m cb] 26) (Obj.cells #[.int .i64 0, .slice none 0 0] 26))) hn hP)
  clear hA hP
  go_enter Try.func9, Try.ntmps9
  go_wp2_with fail
  refine HLA.out.mono ?_
  rintro e1 w1 ⟨rfl, hb⟩
  have s1 : w.heap.size + 1 + 1 < w1.heap.size := by have := hb.size; simp at this; omega
  have X1 := Lib.hid (X0.out.below hb (by simp <;> omega))
  have Y1 := Lib.hid (Y0.out.below hb (by simp <;> omega))
  have K1 := Lib.hid (K0.out.below hb (by simp))
  have F1 := Lib.hid (F0.out.below hb (by simp))
  have FX1 := Lib.hid (FX0.out.below hb (by simp <;> omega))
  have FY1 := Lib.hid (FY0.out.below hb (by simp <;> omega))
  have HB1 := Lib.hid (on3 _ _ _ hb)
  clear hb X0 Y0 K0 F0 FX0 FY0
  obtain ⟨n0, n1⟩ := K1.out
  have f0 := F1.out
  unfold Free at f0
  go_wp2
  refine bodyPost_ret (v := .tuple #[.agg #[.int .i64 0, .slice none 0 0], .int .i64 1]) (by simp [results, Try.results9, n0, n1, go_sem]) rfl ?_
  exact ⟨none, 0, rfl, Mine.none_ _ _ _ _, (HB1.out.setCell (by dsimp only; omega) _).setCell (by dsimp only; omega) _⟩

end

section
variable (r s : Int) (A B : Option Addr) (n ca m cb : Nat) (zs ys : List Int) (w : World) (hA : Ints w w.heap.size A n zs) (hB : Ints w w.heap.size B m ys) (hn : n ≤ 1048576) (hm : m ≤ 1048576)
include hA hB hn hm

set_option maxHeartbeats 2000000 in
theorem dsum_impl_badB (hP : AOk r zs) (hQ : ¬ AOk s ys) : Calls Try.prog 9 #[.agg #[.int .i64 r, .slice A n ca], .agg #[.int .i64 s, .slice B m cb]] w (ResLC w 0 [] 1) := by
  have X0 := Lib.hid ((BoxG.new w 26 (.int .i64 r) (.slice A n ca)).below (al2 _ (Obj.cells #[.int .i64 s, .slice B m cb] 26) (Obj.cells #[.int .i64 0, .slice none 0 0] 26)) (by simp))
  have Y0 := Lib.hid ((BoxG.new (w.alloc (Obj.cells #[.int .i64 r, .slice A n ca] 26)) 26 (.int .i64 s) (.slice B m cb)).below (al1 _ (Obj.cells #[.int .i64 0, .slice none 0 0] 26)) (by simp))
  have K0 := Lib.hid (BoxG.new ((w.alloc (Obj.cells #[.int .i64 r, .slice A n ca] 26)).alloc (Obj.cells #[.int .i64 s, .slice B m cb] 26)) 26 (.int .i64 0) (.slice none 0 0))
  have F0 := Lib.hid (Free.new ((w.alloc (Obj.cells #[.int .i64 r, .slice A n ca] 26)).alloc (Obj.cells #[.int .i64 s, .slice B m cb] 26)) 26 #[.int .i64 0, .slice none 0 0])
  have FX0 := Lib.hid ((Free.new w 26 #[.int .i64 r, .slice A n ca]).below (al2 _ (Obj.cells #[.int .i64 s, .slice B m cb] 26) (Obj.cells #[.int .i64 0, .slice none 0 0] 26)) (by simp))
  have FY0 := Lib.hid ((Free.new (w.alloc (Obj.cells #[.int .i64 r, .slice A n ca] 26)) 26 #[.int .i64 s, .slice B m cb]).below (al1 _ (Obj.cells #[.int .i64 0, .slice none 0 0] 26)) (by simp))
  simp only [World.size_alloc] at Y0 K0 F0 FY0
  have HLA := Lib.hid (gi_yes r A n ca zs _ (hA.into (al3 w (Obj.cells #[.int .i64 r, .slice A n ca] 26) (Obj.cells #[.int .i64 s, .slice B m cb] 26) (Obj.cells #[.int .i64 0, .slice none 0 0] 26))) hn hP)
  have HLB := Lib.hid (fun (W : World) (hb : Below w.heap.size w W) => gi_no s B m cb ys W (hB.into hb) hm hQ)
  clear hA hB hP hQ
  go_enter Try.func9, Try.ntmps9
  go_wp2_with fail
  refine HLA.out.mono ?_
  rintro e1 w1 ⟨rfl, hb⟩
  have s1 : w.heap.size + 1 + 1 < w1.heap.size := by have := hb.size; simp at this; omega
  have X1 := Lib.hid (X0.out.below hb (by simp <;> omega))
  have Y1 := Lib.hid (Y0.out.below hb (by simp <;> omega))
  have K1 := Lib.hid (K0.out.below hb (by simp))
  have F1 := Lib.hid (F0.out.below hb (by simp))
  have FX1 := Lib.hid (FX0.out.below hb (by simp <;> omega))
  have FY1 := Lib.hid (FY0.out.below hb (by simp <;> omega))
  have HB1 := Lib.hid (on3 _ _ _ hb)
  clear hb X0 Y0 K0 F0 FX0 FY0
  obtain ⟨y0, y1⟩ := Y1.out
  go_wp2_with fail
  refine (HLB.out _ HB1.out).mono ?_
  rintro e1 w2 ⟨rfl, hb⟩
  have s2 : w1.heap.size ≤ w2.heap.size := hb.size
  have X2 := Lib.hid (X1.out.below hb (by omega))
  have Y2 := Lib.hid (Y1.out.below hb (by omega))
  have K2 := Lib.hid (K1.out.below hb (by omega))
  have F2 := Lib.hid (F1.out.below hb (by omega))
  have FX2 := Lib.hid (FX1.out.below hb (by omega))
  have FY2 := Lib.hid (FY1.out.below hb (by omega))
  have HB2 := Lib.hid (HB1.out.trans (hb.mono (by omega)))
  clear hb X1 Y1 K1 F1 FX1 FY1 HB1 y0 y1
  obtain ⟨n0, n1⟩ := K2.out
  have f0 := F2.out
  unfold Free at f0
  go_wp2
  refine bodyPost_ret (v := .tuple #[.agg #[.int .i64 0, .slice none 0 0], .int .i64 1]) (by simp [results, Try.results9, n0, n1, go_sem]) rfl ?_
  exact ⟨none, 0, rfl, Mine.none_ _ _ _ _, (HB2.out.setCell (by dsimp only; omega) _).setCell (by dsimp only; omega) _⟩

set_option maxHeartbeats 4000000 in
theorem dsum_impl_lim (hP : AOk r zs) (hQ : AOk s ys) (hlim : ¬ (r + s ≤ 48 ∧ n + m ≤ 48)) : Calls Try.prog 9 #[.agg #[.int .i64 r, .slice A n ca], .agg #[.int .i64 s, .slice B m cb]] w (ResLC w 0 [] 3) := by
  have X0 := Lib.hid ((BoxG.new w 26 (.int .i64 r) (.slice A n ca)).below (al2 _ (Obj.cells #[.int .i64 s, .slice B m cb] 26) (Obj.cells #[.int .i64 0, .slice none 0 0] 26)) (by simp))
  have Y0 := Lib.hid ((BoxG.new (w.alloc (Obj.cells #[.int .i64 r, .slice A n ca] 26)) 26 (.int .i64 s) (.slice B m cb)).below (al1 _ (Obj.cells #[.int .i64 0, .slice none 0 0] 26)) (by simp))
  have K0 := Lib.hid (BoxG.new ((w.alloc (Obj.cells #[.int .i64 r, .slice A n ca] 26)).alloc (Obj.cells #[.int .i64 s, .slice B m cb] 26)) 26 (.int .i64 0) (.slice none 0 0))
  have F0 := Lib.hid (Free.new ((w.alloc (Obj.cells #[.int .i64 r, .slice A n ca] 26)).alloc (Obj.cells #[.int .i64 s, .slice B m cb] 26)) 26 #[.int .i64 0, .slice none 0 0])
  have FX0 := Lib.hid ((Free.new w 26 #[.int .i64 r, .slice A n ca]).below (al2 _ (Obj.cells #[.int .i64 s, .slice B m cb] 26) (Obj.cells #[.int .i64 0, .slice none 0 0] 26)) (by simp))
  have FY0 := Lib.hid ((Free.new (w.alloc (Obj.cells #[.int .i64 r, .slice A n ca] 26)) 26 #[.int .i64 s, .slice B m cb]).below (al1 _ (Obj.cells #[.int .i64 0, .slice none 0 0] 26)) (by simp))
  simp only [World.size_alloc] at Y0 K0 F0 FY0
  have HLA := Lib.hid (gi_yes r A n ca zs _ (hA.into (al3 w (Obj.cells #[.int .i64 r, .slice A n ca] 26) (Obj.cells #[.int .i64 s, .slice B m cb] 26) (Obj.cells #[.int .i64 0, .slice none 0 0] 26))) hn hP)
  have HLB := Lib.hid (fun (W : World) (hb : Below w.heap.size w W) => gi_yes s B m cb ys W (hB.into hb) hm hQ)
  have HA := Lib.hid hA
  have HB := Lib.hid hB
  have hr := Lib.hid (And.intro hP.1 hP.2.1)
  have hs := Lib.hid (And.intro hQ.1 hQ.2.1)
  have ln := hA.1
  have lm := hB.1
  have nz : n ≤ 48 := by have := hP.2.2.1; omega
  have mz : m ≤ 48 := by have := hQ.2.2.1; omega
  have HL := Lib.hid (show (zs ++ ys).length = n + m by rw [List.length_append, ln, lm])
  obtain ⟨r0, r1⟩ := hr.out
  obtain ⟨s0, s1'⟩ := hs.out
  have ws : IntKind.i64.wrap (r + s) = r + s := IntWalk.i64_in _ (by omega)
  have nm63 : ((n + m : Nat) : Int) = (n : Int) + (m : Int) := by simp
  by_cases hrs : r + s ≤ 48
  · have d1 : decide (48 < r + s) = false := by simp; omega
    have d2 : decide (48 < (n : Int) + (m : Int)) = true := by simp; omega
    have d3 : ¬ 48 < r + s := by omega
    have d4 : 48 < (n : Int) + (m : Int) := by omega
    clear hA hB hP hQ hlim hrs ln lm
    go_enter Try.func9, Try.ntmps9
    go_wp2_with fail
    refine HLA.out.mono ?_
    rintro e1 w1 ⟨rfl, hb⟩
    have s1 : w.heap.size + 1 + 1 < w1.heap.size := by have := hb.size; simp at this; omega
    have X1 := Lib.hid (X0.out.below hb (by simp <;> omega))
    have Y1 := Lib.hid (Y0.out.below hb (by simp <;> omega))
    have K1 := Lib.hid (K0.out.below hb (by simp))
    have F1 := Lib.hid (F0.out.below hb (by simp))
    have FX1 := Lib.hid (FX0.out.below hb (by simp <;> omega))
    have FY1 := Lib.hid (FY0.out.below hb (by simp <;> omega))
    have HB1 := Lib.hid (on3 _ _ _ hb)
    clear hb X0 Y0 K0 F0 FX0 FY0
    obtain ⟨y0, y1⟩ := Y1.out
    go_wp2_with fail
    refine (HLB.out _ HB1.out).mono ?_
    rintro e1 w2 ⟨rfl, hb⟩
    have s2 : w1.heap.size ≤ w2.heap.size := hb.size
    have X2 := Lib.hid (X1.out.below hb (by omega))
    have Y2 := Lib.hid (Y1.out.below hb (by omega))
    have K2 := Lib.hid (K1.out.below hb (by omega))
    have F2 := Lib.hid (F1.out.below hb (by omega))
    have FX2 := Lib.hid (FX1.out.below hb (by omega))
    have FY2 := Lib.hid (FY1.out.below hb (by omega))
    have HB2 := Lib.hid (HB1.out.trans (hb.mono (by omega)))
    clear hb X1 Y1 K1 F1 FX1 FY1 HB1 y0 y1
    obtain ⟨x0, x1⟩ := X2.out
    obtain ⟨y0, y1⟩ := Y2.out
    have Z2 := Lib.hid (BoxG.new w2 22 (.slice A n ca) (.slice B m cb))
    have W2 := Lib.hid (al1 w2 (Obj.cells #[.slice A n ca, .slice B m cb] 22))
    have V2 := Lib.hid (HB2.out.trans (W2.out.mono (by omega)))
    go_wp2_with fail
    refine (concat_any A B n ca m cb w2.heap.size zs ys _ (HA.out.into V2.out) (HB.out.into V2.out) (by omega) Z2.out (by simp)).mono ?_
    rintro e3 w3 ⟨A3, c3, rfl, q1, q2, hown, hb⟩
    rw [HL.out] at q1 hown
    rw [HL.out]
    have U3 := Lib.hid (on1 _ hb)
    have s3 : w2.heap.size < w3.heap.size := by have := hb.size; simp at this; omega
    have O3 : Hid (Own w3 w2.heap.size w3.heap.size A3 (n + m) c3 (zs ++ ys)) := Lib.hid (hown.wide (by simp) (Nat.le_refl _))
    clear hb hown x0 x1 y0 y1 Z2 W2 V2
    have X3 := Lib.hid (X2.out.below U3.out (by omega))
    have Y3 := Lib.hid (Y2.out.below U3.out (by omega))
    have K3 := Lib.hid (K2.out.below U3.out (by omega))
    have F3 := Lib.hid (F2.out.below U3.out (by omega))
    have HB3 := Lib.hid (HB2.out.trans (U3.out.mono (by omega)))
    clear X2 Y2 K2 F2 FX2 FY2 HB2
    obtain ⟨x0, x1⟩ := X3.out
    obtain ⟨y0, y1⟩ := Y3.out
    obtain ⟨n0, n1⟩ := K3.out
    have f0 := F3.out
    unfold Free at f0
    go_wp2
    refine bodyPost_ret (v := .tuple #[.agg #[.int .i64 0, .slice none 0 0], .int .i64 3]) (by simp [results, Try.results9, n0, n1, go_sem]) rfl ?_
    exact ⟨none, 0, rfl, Mine.none_ _ _ _ _, (HB3.out.setCell (by dsimp only; omega) _).setCell (by dsimp only; omega) _⟩
  · have d1 : decide (48 < r + s) = true := by simp; omega
    have d3 : 48 < r + s := by omega
    clear hA hB hP hQ hlim hrs ln lm
    go_enter Try.func9, Try.ntmps9
    go_wp2_with fail
    refine HLA.out.mono ?_
    rintro e1 w1 ⟨rfl, hb⟩
    have s1 : w.heap.size + 1 + 1 < w1.heap.size := by have := hb.size; simp at this; omega
    have X1 := Lib.hid (X0.out.below hb (by simp <;> omega))
    have Y1 := Lib.hid (Y0.out.below hb (by simp <;> omega))
    have K1 := Lib.hid (K0.out.below hb (by simp))
    have F1 := Lib.hid (F0.out.below hb (by simp))
    have FX1 := Lib.hid (FX0.out.below hb (by simp <;> omega))
    have FY1 := Lib.hid (FY0.out.below hb (by simp <;> omega))
    have HB1 := Lib.hid (on3 _ _ _ hb)
    clear hb X0 Y0 K0 F0 FX0 FY0
    obtain ⟨y0, y1⟩ := Y1.out
    go_wp2_with fail
    refine (HLB.out _ HB1.out).mono ?_
    rintro e1 w2 ⟨rfl, hb⟩
    have s2 : w1.heap.size ≤ w2.heap.size := hb.size
    have X2 := Lib.hid (X1.out.below hb (by omega))
    have Y2 := Lib.hid (Y1.out.below hb (by omega))
    have K2 := Lib.hid (K1.out.below hb (by omega))
    have F2 := Lib.hid (F1.out.below hb (by omega))
    have FX2 := Lib.hid (FX1.out.below hb (by omega))
    have FY2 := Lib.hid (FY1.out.below hb (by omega))
    have HB2 := Lib.hid (HB1.out.trans (hb.mono (by omega)))
    clear hb X1 Y1 K1 F1 FX1 FY1 HB1 y0 y1
    obtain ⟨x0, x1⟩ := X2.out
    obtain ⟨y0, y1⟩ := Y2.out
    have Z2 := Lib.hid (BoxG.new w2 22 (.slice A n ca) (.slice B m cb))
    have W2 := Lib.hid (al1 w2 (Obj.cells #[.slice A n ca, .slice B m cb] 22))
    have V2 := Lib.hid (HB2.out.trans (W2.out.mono (by omega)))
    go_wp2_with fail
    refine (concat_any A B n ca m cb w2.heap.size zs ys _ (HA.out.into V2.out) (HB.out.into V2.out) (by omega) Z2.out (by simp)).mono ?_
    rintro e3 w3 ⟨A3, c3, rfl, q1, q2, hown, hb⟩
    rw [HL.out] at q1 hown
    rw [HL.out]
    have U3 := Lib.hid (on1 _ hb)
    have s3 : w2.heap.size < w3.heap.size := by have := hb.size; simp at this; omega
    have O3 : Hid (Own w3 w2.heap.size w3.heap.size A3 (n + m) c3 (zs ++ ys)) := Lib.hid (hown.wide (by simp) (Nat.le_refl _))
    clear hb hown x0 x1 y0 y1 Z2 W2 V2
    have X3 := Lib.hid (X2.out.below U3.out (by omega))
    have Y3 := Lib.hid (Y2.out.below U3.out (by omega))
    have K3 := Lib.hid (K2.out.below U3.out (by omega))
    have F3 := Lib.hid (F2.out.below U3.out (by omega))
    have HB3 := Lib.hid (HB2.out.trans (U3.out.mono (by omega)))
    clear X2 Y2 K2 F2 FX2 FY2 HB2
    obtain ⟨x0, x1⟩ := X3.out
    obtain ⟨y0, y1⟩ := Y3.out
    obtain ⟨n0, n1⟩ := K3.out
    have f0 := F3.out
    unfold Free at f0
    go_wp2
    refine bodyPost_ret (v := .tuple #[.agg #[.int .i64 0, .slice none 0 0], .int .i64 3]) (by simp [results, Try.results9, n0, n1, go_sem]) rfl ?_
    exact ⟨none, 0, rfl, Mine.none_ _ _ _ _, (HB3.out.setCell (by dsimp only; omega) _).setCell (by dsimp only; omega) _⟩

set_option maxHeartbeats 8000000 in
theorem dsum_impl_yes (N : Nat) (l : List Int) (rk code : Int) (hP : AOk r zs) (hQ : AOk s ys) (hlim : r + s ≤ 48) (hN : n + m = N) (hN48 : N ≤ 48)
    (hcode : (code = 0 ∧ rk = r + s) ∨ (code = 3 ∧ l = [] ∧ rk = 0)) (hl48 : l.length ≤ 48)
    (hI : ∀ (W : World) (R : Option Addr) (c : Nat), Ints W W.heap.size R (N * N) (diagL N (zs ++ ys) N) → Calls Try.prog 33 #[.agg #[.int .i64 N, .int .i64 N, .slice R (N * N) c]] W (ResL W l code)) :
    Calls Try.prog 9 #[.agg #[.int .i64 r, .slice A n ca], .agg #[.int .i64 s, .slice B m cb]] w (ResLC w rk (tors l) code) := by
  have X0 := Lib.hid ((BoxG.new w 26 (.int .i64 r) (.slice A n ca)).below (al2 _ (Obj.cells #[.int .i64 s, .slice B m cb] 26) (Obj.cells #[.int .i64 0, .slice none 0 0] 26)) (by simp))
  have Y0 := Lib.hid ((BoxG.new (w.alloc (Obj.cells #[.int .i64 r, .slice A n ca] 26)) 26 (.int .i64 s) (.slice B m cb)).below (al1 _ (Obj.cells #[.int .i64 0, .slice none 0 0] 26)) (by simp))
  have K0 := Lib.hid (BoxG.new ((w.alloc (Obj.cells #[.int .i64 r, .slice A n ca] 26)).alloc (Obj.cells #[.int .i64 s, .slice B m cb] 26)) 26 (.int .i64 0) (.slice none 0 0))
  have F0 := Lib.hid (Free.new ((w.alloc (Obj.cells #[.int .i64 r, .slice A n ca] 26)).alloc (Obj.cells #[.int .i64 s, .slice B m cb] 26)) 26 #[.int .i64 0, .slice none 0 0])
  have FX0 := Lib.hid ((Free.new w 26 #[.int .i64 r, .slice A n ca]).below (al2 _ (Obj.cells #[.int .i64 s, .slice B m cb] 26) (Obj.cells #[.int .i64 0, .slice none 0 0] 26)) (by simp))
  have FY0 := Lib.hid ((Free.new (w.alloc (Obj.cells #[.int .i64 r, .slice A n ca] 26)) 26 #[.int .i64 s, .slice B m cb]).below (al1 _ (Obj.cells #[.int .i64 0, .slice none 0 0] 26)) (by simp))
  simp only [World.size_alloc] at Y0 K0 F0 FY0
  have HLA := Lib.hid (gi_yes r A n ca zs _ (hA.into (al3 w (Obj.cells #[.int .i64 r, .slice A n ca] 26) (Obj.cells #[.int .i64 s, .slice B m cb] 26) (Obj.cells #[.int .i64 0, .slice none 0 0] 26))) hn hP)
  have HLB := Lib.hid (fun (W : World) (hb : Below w.heap.size w W) => gi_yes s B m cb ys W (hB.into hb) hm hQ)
  have HA := Lib.hid hA
  have HB := Lib.hid hB
  have hr := Lib.hid (And.intro hP.1 hP.2.1)
  have hs := Lib.hid (And.intro hQ.1 hQ.2.1)
  have ln := hA.1
  have lm := hB.1
  have nz : n ≤ 48 := by have := hP.2.2.1; omega
  have mz : m ≤ 48 := by have := hQ.2.2.1; omega
  have HL := Lib.hid (show (zs ++ ys).length = n + m by rw [List.length_append, ln, lm])
  obtain ⟨r0, r1⟩ := hr.out
  obtain ⟨s0, s1'⟩ := hs.out
  have ws : IntKind.i64.wrap (r + s) = r + s := IntWalk.i64_in _ (by omega)
  have HI := Lib.hid hI
  have HC := Lib.hid hcode
  have nm63 : ((n : Int) + (m : Int)) = (N : Int) := by omega
  have d1 : decide (48 < r + s) = false := by simp; omega
  have d3 : ¬ 48 < r + s := by omega
  have d2 : decide (48 < (N : Int)) = false := by simp; omega
  have d4 : ¬ 48 < (N : Int) := by omega
  clear hA hB hP hQ ln lm hI hcode
  rw [hN] at HL
  go_enter Try.func9, Try.ntmps9
  go_wp2_with fail
  refine HLA.out.mono ?_
  rintro e1 w1 ⟨rfl, hb⟩
  have s1 : w.heap.size + 1 + 1 < w1.heap.size := by have := hb.size; simp at this; omega
  have X1 := Lib.hid (X0.out.below hb (by simp <;> omega))
  have Y1 := Lib.hid (Y0.out.below hb (by simp <;> omega))
  have K1 := Lib.hid (K0.out.below hb (by simp))
  have F1 := Lib.hid (F0.out.below hb (by simp))
  have FX1 := Lib.hid (FX0.out.below hb (by simp <;> omega))
  have FY1 := Lib.hid (FY0.out.below hb (by simp <;> omega))
  have HB1 := Lib.hid (on3 _ _ _ hb)
  clear hb X0 Y0 K0 F0 FX0 FY0
  obtain ⟨y0, y1⟩ := Y1.out
  go_wp2_with fail
  refine (HLB.out _ HB1.out).mono ?_
  rintro e1 w2 ⟨rfl, hb⟩
  have s2 : w1.heap.size ≤ w2.heap.size := hb.size
  have X2 := Lib.hid (X1.out.below hb (by omega))
  have Y2 := Lib.hid (Y1.out.below hb (by omega))
  have K2 := Lib.hid (K1.out.below hb (by omega))
  have F2 := Lib.hid (F1.out.below hb (by omega))
  have FX2 := Lib.hid (FX1.out.below hb (by omega))
  have FY2 := Lib.hid (FY1.out.below hb (by omega))
  have HB2 := Lib.hid (HB1.out.trans (hb.mono (by omega)))
  clear hb X1 Y1 K1 F1 FX1 FY1 HB1 y0 y1
  obtain ⟨x0, x1⟩ := X2.out
  obtain ⟨y0, y1⟩ := Y2.out
  have Z2 := Lib.hid (BoxG.new w2 22 (.slice A n ca) (.slice B m cb))
  have W2 := Lib.hid (al1 w2 (Obj.cells #[.slice A n ca, .slice B m cb] 22))
  have V2 := Lib.hid (HB2.out.trans (W2.out.mono (by omega)))
  go_wp2_with fail
  refine (concat_any A B n ca m cb w2.heap.size zs ys _ (HA.out.into V2.out) (HB.out.into V2.out) (by omega) Z2.out (by simp)).mono ?_
  rintro e3 w3 ⟨A3, c3, rfl, q1, q2, hown, hb⟩
  rw [HL.out] at q1 hown
  rw [HL.out]
  have U3 := Lib.hid (on1 _ hb)
  have s3 : w2.heap.size < w3.heap.size := by have := hb.size; simp at this; omega
  have O3 : Hid (Own w3 w2.heap.size w3.heap.size A3 N c3 (zs ++ ys)) := Lib.hid (hown.wide (by simp) (Nat.le_refl _))
  clear hb hown x0 x1 y0 y1 Z2 W2 V2
  have X3 := Lib.hid (X2.out.below U3.out (by omega))
  have Y3 := Lib.hid (Y2.out.below U3.out (by omega))
  have K3 := Lib.hid (K2.out.below U3.out (by omega))
  have F3 := Lib.hid (F2.out.below U3.out (by omega))
  have HB3 := Lib.hid (HB2.out.trans (U3.out.mono (by omega)))
  clear X2 Y2 K2 F2 FX2 FY2 HB2
  obtain ⟨x0, x1⟩ := X3.out
  obtain ⟨y0, y1⟩ := Y3.out
  go_wp2_with fail
  refine (diag_impl N c3 A3 (zs ++ ys) _ (O3.out.ints.more (Nat.le_refl _)) hN48).mono ?_
  rintro e4 w4 ⟨A4, c4, rfl, hown, hb⟩
  rw [diagL_len] at hown
  rw [diagL_len]
  have s4 : w3.heap.size ≤ w4.heap.size := hb.size
  have O4 := Lib.hid hown
  have U4 := Lib.hid hb
  clear hown hb
  go_wp2_with fail
  refine (HI.out _ A4 c4 (O4.out.ints.more (Nat.le_refl _))).mono ?_
  rintro e5 w5 ⟨A5, c5, rfl, hown, hb⟩
  have s5 : w4.heap.size ≤ w5.heap.size := hb.size
  have O5 := Lib.hid hown
  have U5 := Lib.hid (U4.out.trans (hb.mono s4))
  clear hown hb x0 x1 y0 y1
  obtain ⟨x0, x1⟩ := X3.out.below U5.out (by omega)
  obtain ⟨y0, y1⟩ := Y3.out.below U5.out (by omega)
  have K5 := Lib.hid (K3.out.below U5.out (by omega))
  have F5 := Lib.hid (F3.out.below U5.out (by omega))
  have HB5 := Lib.hid (HB3.out.trans (U5.out.mono (by omega)))
  rcases HC.out with ⟨h0, h2⟩ | ⟨h0, h1, h2⟩
  · subst h0
    subst h2
    go_wp2_with fail
    refine (group_impl (r + s) A5 l.length c5 l _ (O5.out.ints.more (Nat.le_refl _)) (by omega)).mono ?_
    rintro e6 w6 ⟨A6, c6, rfl, hown, hb⟩
    have s6 : w5.heap.size ≤ w6.heap.size := hb.size
    have M6 := Lib.hid hown.mine
    obtain ⟨n0, n1⟩ := K5.out.below hb (by omega)
    have f0 := F5.out.below hb (by omega)
    unfold Free at f0
    have HB6 := Lib.hid (HB5.out.trans (hb.mono (by omega)))
    clear hown hb
    go_wp2
    refine bodyPost_ret (v := .tuple #[.agg #[.int .i64 (r + s), .slice A6 (tors l).length c6], .int .i64 0]) (by simp [results, Try.results9, n0, n1, go_sem]) rfl ?_
    exact ResLC.fin M6.out HB6.out (by omega) (.inl (by omega)) (by omega) (Nat.le_refl _)
  · subst h0
    subst h1
    subst h2
    obtain ⟨n0, n1⟩ := K5.out
    have f0 := F5.out
    unfold Free at f0
    go_wp2
    refine bodyPost_ret (v := .tuple #[.agg #[.int .i64 0, .slice none 0 0], .int .i64 3]) (by simp [results, Try.results9, n0, n1, go_sem]) rfl ?_
    exact ⟨none, 0, rfl, Mine.none_ _ _ _ _, (HB5.out.setCell (by dsimp only; omega) _).setCell (by dsimp only; omega) _⟩
end

end Go.Proofs.Ytgmkcmdnbfolhaa
