/- Contracts of the specification's sum of two groups. No condition but those that each theorem names. -/
import Derived.Test.YtgmkcmdnbfolhaaDsC
import Derived.Test.YtgmkcmdnbfolhaaInvD
import Derived.RegionTactic
import Derived.Deep.RegionHeld3
namespace Go.Proofs.Ytgmkcmdnbfolhaa
open Go.RowKit

section
variable (r s : Int) (A B : Option Addr) (n ca m cb : Nat) (zs : List Int) (w : World) (hA : Ints w w.heap.size A n zs) (hn : n ≤ 1048576)
include hA hn

set_option maxHeartbeats 2000000 in
theorem dsum_spec_badA (hP : ¬ AOk r zs) : Calls Try.prog 7 #[.agg #[.int .i64 r, .slice A n ca], .agg #[.int .i64 s, .slice B m cb]] w (ResLC w 0 [] 1) := by
  have X0 := Lib.hid ((BoxG.new w 26 (.int .i64 r) (.slice A n ca)).below (al2 _ (Obj.cells #[.int .i64 s, .slice B m cb] 26) (Obj.cells #[.int .i64 0, .slice none 0 0] 26)) (by simp))
  have Y0 := Lib.hid ((BoxG.new (w.alloc (Obj.cells #[.int .i64 r, .slice A n ca] 26)) 26 (.int .i64 s) (.slice B m cb)).below (al1 _ (Obj.cells #[.int .i64 0, .slice none 0 0] 26)) (by simp))
  have K0 := Lib.hid (BoxG.new ((w.alloc (Obj.cells #[.int .i64 r, .slice A n ca] 26)).alloc (Obj.cells #[.int .i64 s, .slice B m cb] 26)) 26 (.int .i64 0) (.slice none 0 0))
  have F0 := Lib.hid (Free.new ((w.alloc (Obj.cells #[.int .i64 r, .slice A n ca] 26)).alloc (Obj.cells #[.int .i64 s, .slice B m cb] 26)) 26 #[.int .i64 0, .slice none 0 0])
  have FX0 := Lib.hid ((Free.new w 26 #[.int .i64 r, .slice A n ca]).below (al2 _ (Obj.cells #[.int .i64 s, .slice B m cb] 26) (Obj.cells #[.int .i64 0, .slice none 0 0] 26)) (by simp))
  have FY0 := Lib.hid ((Free.new (w.alloc (Obj.cells #[.int .i64 r, .slice A n ca] 26)) 26 #[.int .i64 s, .slice B m cb]).below (al1 _ (Obj.cells #[.int .i64 0, .slice none 0 0] 26)) (by simp))
  simp only [World.size_alloc] at Y0 K0 F0 FY0
  have HLA := Lib.hid (gs_no r A n ca zs _ (hA.into (al3 w (Obj.cells #[.int .i64 r, .slice A n ca] 26) (Obj.cells #[.int .i64 s, .slice B m cb] 26) (Obj.cells #[.int .i64 0, .slice none 0 0] 26))) hn hP)
  clear hA hP
  go_enter Try.func7, Try.ntmps7
  go_wp2_with fail
  refine HLA.out.mono ?_
  rintro e1 w1 ⟨rfl, hb⟩
  have s1 : w.heap.size + 1 + 1 < w1.heap.size := by have := hb.size; simp at this; omega
  have X1 := Lib.hid (X0.out.below hb (by simp <;> omega))
  have Y1 := Lib.hid (Y0.out.below hb (by simp <;> omega))
  have K1 := Lib.hid (K0.out.below hb (by simp))
  have F1 := Lib.hid (F0.out.below hb (by simp))
  have FX1 := Lib.hid (FX0.out.below hb (by simp <;> omega))
  have FY1 := Lib.hid (FY0.out.below hb (by simp <;> omega))
  have HB1 := Lib.hid (on3 _ _ _ hb)
  clear hb X0 Y0 K0 F0 FX0 FY0
  obtain ⟨n0, n1⟩ := K1.out
  have f0 := F1.out
  unfold Free at f0
  go_wp2
  refine bodyPost_ret (v := .tuple #[.agg #[.int .i64 0, .slice none 0 0], .int .i64 1]) (by simp [results, Try.results7, n0, n1, go_sem]) rfl ?_
  exact ⟨none, 0, rfl, Mine.none_ _ _ _ _, (HB1.out.setCell (by dsimp only; omega) _).setCell (by dsimp only; omega) _⟩

end

section
variable (r s : Int) (A B : Option Addr) (n ca m cb : Nat) (zs ys : List Int) (w : World) (hA : Ints w w.heap.size A n zs) (hB : Ints w w.heap.size B m ys) (hn : n ≤ 1048576) (hm : m ≤ 1048576)
include hA hB hn hm

set_option maxHeartbeats 2000000 in
theorem dsum_spec_badB (hP : AOk r zs) (hQ : ¬ AOk s ys) : Calls Try.prog 7 #[.agg #[.int .i64 r, .slice A n ca], .agg #[.int .i64 s, .slice B m cb]] w (ResLC w 0 [] 1) := by
  have X0 := Lib.hid ((BoxG.new w 26 (.int .i64 r) (.slice A n ca)).below (al2 _ (Obj.cells #[.int .i64 s, .slice B m cb] 26) (Obj.cells #[.int .i64 0, .slice none 0 0] 26)) (by simp))
  have Y0 := Lib.hid ((BoxG.new (w.alloc (Obj.cells #[.int .i64 r, .slice A n ca] 26)) 26 (.int .i64 s) (.slice B m cb)).below (al1 _ (Obj.cells #[.int .i64 0, .slice none 0 0] 26)) (by simp))
  have K0 := Lib.hid (BoxG.new ((w.alloc (Obj.cells #[.int .i64 r, .slice A n ca] 26)).alloc (Obj.cells #[.int .i64 s, .slice B m cb] 26)) 26 (.int .i64 0) (.slice none 0 0))
  have F0 := Lib.hid (Free.new ((w.alloc (Obj.cells #[.int .i64 r, .slice A n ca] 26)).alloc (Obj.cells #[.int .i64 s, .slice B m cb] 26)) 26 #[.int .i64 0, .slice none 0 0])
  have FX0 := Lib.hid ((Free.new w 26 #[.int .i64 r, .slice A n ca]).below (al2 _ (Obj.cells #[.int .i64 s, .slice B m cb] 26) (Obj.cells #[.int .i64 0, .slice none 0 0] 26)) (by simp))
  have FY0 := Lib.hid ((Free.new (w.alloc (Obj.cells #[.int .i64 r, .slice A n ca] 26)) 26 #[.int .i64 s, .slice B m cb]).below (al1 _ (Obj.cells #[.int .i64 0, .slice none 0 0] 26)) (by simp))
  simp only [World.size_alloc] at Y0 K0 F0 FY0
  have HLA := Lib.hid (gs_yes r A n ca zs _ (hA.into (al3 w (Obj.cells #[.int .i64 r, .slice A n ca] 26) (Obj.cells #[.int .i64 s, .slice B m cb] 26) (Obj.cells #[.int .i64 0, .slice none 0 0] 26))) hn hP)
  have HLB := Lib.hid (fun (W : World) (hb : Below w.heap.size w W) => gs_no s B m cb ys W (hB.into hb) hm hQ)
  clear hA hB hP hQ
  go_enter Try.func7, Try.ntmps7
  go_wp2_with fail
  refine HLA.out.mono ?_
  rintro e1 w1 ⟨rfl, hb⟩
  have s1 : w.heap.size + 1 + 1 < w1.heap.size := by have := hb.size; simp at this; omega
  have X1 := Lib.hid (X0.out.below hb (by simp <;> omega))
  have Y1 := Lib.hid (Y0.out.below hb (by simp <;> omega))
  have K1 := Lib.hid (K0.out.below hb (by simp))
  have F1 := Lib.hid (F0.out.below hb (by simp))
  have FX1 := Lib.hid (FX0.out.below hb (by simp <;> omega))
  have FY1 := Lib.hid (FY0.out.below hb (by simp <;> omega))
  have HB1 := Lib.hid (on3 _ _ _ hb)
  clear hb X0 Y0 K0 F0 FX0 FY0
  obtain ⟨y0, y1⟩ := Y1.out
  go_wp2_with fail
  refine (HLB.out _ HB1.out).mono ?_
  rintro e1 w2 ⟨rfl, hb⟩
  have s2 : w1.heap.size ≤ w2.heap.size := hb.size
  have X2 := Lib.hid (X1.out.below hb (by omega))
  have Y2 := Lib.hid (Y1.out.below hb (by omega))
  have K2 := Lib.hid (K1.out.below hb (by omega))
  have F2 := Lib.hid (F1.out.below hb (by omega))
  have FX2 := Lib.hid (FX1.out.below hb (by omega))
  have FY2 := Lib.hid (FY1.out.below hb (by omega))
  have HB2 := Lib.hid (HB1.out.trans (hb.mono (by omega)))
  clear hb X1 Y1 K1 F1 FX1 FY1 HB1 y0 y1
  obtain ⟨n0, n1⟩ := K2.out
  have f0 := F2.out
  unfold Free at f0
  go_wp2
  refine bodyPost_ret (v := .tuple #[.agg #[.int .i64 0, .slice none 0 0], .int .i64 1]) (by simp [results, Try.results7, n0, n1, go_sem]) rfl ?_
  exact ⟨none, 0, rfl, Mine.none_ _ _ _ _, (HB2.out.setCell (by dsimp only; omega) _).setCell (by dsimp only; omega) _⟩

set_option maxHeartbeats 4000000 in
theorem dsum_spec_lim (hP : AOk r zs) (hQ : AOk s ys) (hlim : ¬ (r + s ≤ 48 ∧ n + m ≤ 48)) : Calls Try.prog 7 #[.agg #[.int .i64 r, .slice A n ca], .agg #[.int .i64 s, .slice B m cb]] w (ResLC w 0 [] 3) := by
  have X0 := Lib.hid ((BoxG.new w 26 (.int .i64 r) (.slice A n ca)).below (al2 _ (Obj.cells #[.int .i64 s, .slice B m cb] 26) (Obj.cells #[.int .i64 0, .slice none 0 0] 26)) (by simp))
  have Y0 := Lib.hid ((BoxG.new (w.alloc (Obj.cells #[.int .i64 r, .slice A n ca] 26)) 26 (.int .i64 s) (.slice B m cb)).below (al1 _ (Obj.cells #[.int .i64 0, .slice none 0 0] 26)) (by simp))
  have K0 := Lib.hid (BoxG.new ((w.alloc (Obj.cells #[.int .i64 r, .slice A n ca] 26)).alloc (Obj.cells #[.int .i64 s, .slice B m cb] 26)) 26 (.int .i64 0) (.slice none 0 0))
  have F0 := Lib.hid (Free.new ((w.alloc (Obj.cells #[.int .i64 r, .slice A n ca] 26)).alloc (Obj.cells #[.int .i64 s, .slice B m cb] 26)) 26 #[.int .i64 0, .slice none 0 0])
  have FX0 := Lib.hid ((Free.new w 26 #[.int .i64 r, .slice A n ca]).below (al2 _ (Obj.cells #[.int .i64 s, .slice B m cb] 26) (Obj.cells #[.int .i64 0, .slice none 0 0] 26)) (by simp))
  have FY0 := Lib.hid ((Free.new (w.alloc (Obj.cells #[.int .i64 r, .slice A n ca] 26)) 26 #[.int .i64 s, .slice B m cb]).below (al1 _ (Obj.cells #[.int .i64 0, .slice none 0 0] 26)) (by simp))
  simp only [World.size_alloc] at Y0 K0 F0 FY0
  have HLA := Lib.hid (gs_yes r A n ca zs _ (hA.into (al3 w (Obj.cells #[.int .i64 r, .slice A n ca] 26) (Obj.cells #[.int .i64 s, .slice B m cb] 26) (Obj.cells #[.int .i64 0, .slice none 0 0] 26))) hn hP)
  have HLB := Lib.hid (fun (W : World) (hb : Below w.heap.size w W) => gs_yes s B m cb ys W (hB.into hb) hm hQ)
  have HA := Lib.hid hA
  have HB := Lib.hid hB
  have hr := Lib.hid (And.intro hP.1 hP.2.1)
  have hs := Lib.hid (And.intro hQ.1 hQ.2.1)
  have ln := hA.1
  have lm := hB.1
  have nz : n ≤ 48 := by have := hP.2.2.1; omega
  have mz : m ≤ 48 := by have := hQ.2.2.1; omega
  have HL := Lib.hid (show (zs ++ ys).length = n + m by rw [List.length_append, ln, lm])
  obtain ⟨r0, r1⟩ := hr.out
  obtain ⟨s0, s1'⟩ := hs.out
  have ws : IntKind.i64.wrap (r + s) = r + s := IntWalk.i64_in _ (by omega)
  by_cases hrs : r + s ≤ 48
  · have d1 : decide (48 < r + s) = false := by simp; omega
    have d2 : decide (48 < (n : Int) + (m : Int)) = true := by simp; omega
    have d3 : ¬ 48 < r + s := by omega
    have d4 : 48 < (n : Int) + (m : Int) := by omega
    clear hA hB hP hQ hlim hrs ln lm
    go_enter Try.func7, Try.ntmps7
    go_wp2_with fail
    refine HLA.out.mono ?_
    rintro e1 w1 ⟨rfl, hb⟩
    have s1 : w.heap.size + 1 + 1 < w1.heap.size := by have := hb.size; simp at this; omega
    have X1 := Lib.hid (X0.out.below hb (by simp <;> omega))
    have Y1 := Lib.hid (Y0.out.below hb (by simp <;> omega))
    have K1 := Lib.hid (K0.out.below hb (by simp))
    have F1 := Lib.hid (F0.out.below hb (by simp))
    have FX1 := Lib.hid (FX0.out.below hb (by simp <;> omega))
    have FY1 := Lib.hid (FY0.out.below hb (by simp <;> omega))
    have HB1 := Lib.hid (on3 _ _ _ hb)
    clear hb X0 Y0 K0 F0 FX0 FY0
    obtain ⟨y0, y1⟩ := Y1.out
    go_wp2_with fail
    refine (HLB.out _ HB1.out).mono ?_
    rintro e1 w2 ⟨rfl, hb⟩
    have s2 : w1.heap.size ≤ w2.heap.size := hb.size
    have X2 := Lib.hid (X1.out.below hb (by omega))
    have Y2 := Lib.hid (Y1.out.below hb (by omega))
    have K2 := Lib.hid (K1.out.below hb (by omega))
    have F2 := Lib.hid (F1.out.below hb (by omega))
    have FX2 := Lib.hid (FX1.out.below hb (by omega))
    have FY2 := Lib.hid (FY1.out.below hb (by omega))
    have HB2 := Lib.hid (HB1.out.trans (hb.mono (by omega)))
    clear hb X1 Y1 K1 F1 FX1 FY1 HB1 y0 y1
    obtain ⟨x0, x1⟩ := X2.out
    obtain ⟨y0, y1⟩ := Y2.out
    have OE := Lib.hid (own_empty w2)
    have W2 := Lib.hid (al1 w2 (Obj.cells #[] 2))
    have HA2 := Lib.hid (HA.out.into (HB2.out.trans (W2.out.mono (by omega))))
    have sE : w2.heap.size ≤ (w2.alloc (Obj.cells #[] 2)).heap.size := by simp
    go_wp2_with fail
    go_region_held3 (fun W => (W.cell? ⟨w.heap.size, 0, none⟩ = some (.int .i64 r) ∧ W.cell? ⟨w.heap.size, 1, none⟩ = some (.slice A n ca)) ∧ (W.cell? ⟨w.heap.size + 1, 0, none⟩ = some (.int .i64 s) ∧ W.cell? ⟨w.heap.size + 1, 1, none⟩ = some (.slice B m cb))) (go_keep)
      (first
        | (refine step_append_list (by rfl) _ _ (by rfl) w2.heap.size (w2.alloc (Obj.cells #[] 2)).heap.size (w2.alloc (Obj.cells #[] 2)).heap.size 0 0 n ca (some ⟨w2.heap.size, 0, none⟩) A [] zs (by rfl) (by exact OE.out) (Nat.le_refl _) (by rfl) (by exact HA2.out) (by omega) (by exact sE) (by unfold maxLen; omega) (by exact Nat.le_refl _) ?_; rw [Nat.zero_add]; intro A4 c4 w4 h4 h5 h6 h7; have h8 : Below w2.heap.size w2 w4 := (by first | exact W2.out.drew.trans h7 | exact W2.out.trans h7); have O4 := Lib.hid h4; have U4 := Lib.hid h8; have s4 : w2.heap.size ≤ w4.heap.size := h8.size; obtain ⟨p0, p1⟩ := X2.out.below h8 (by omega); obtain ⟨q0, q1⟩ := Y2.out.below h8 (by omega); have HB4 := Lib.hid (HB.out.into (HB2.out.trans (h8.mono (by omega)))); clear h4 h7 h8)
        | (refine step_append_list (by rfl) _ _ (by rfl) w2.heap.size w4.heap.size w4.heap.size n c4 m cb A4 B zs ys (by rfl) (by exact O4.out) h5 (by rfl) (by exact HB4.out) (by omega) s4 h6 (Nat.le_refl _) ?_; intro A5 c5 w5 g4 g5 g6 g7; have g8 : Below w2.heap.size w2 w5 := U4.out.trans g7; have O5 := Lib.hid g4; have U5 := Lib.hid g8; have s5 : w2.heap.size ≤ w5.heap.size := g8.size; obtain ⟨a0, a1⟩ := X2.out.below g8 (by omega); obtain ⟨b0, b1⟩ := Y2.out.below g8 (by omega); clear g4 g7 g8))
    clear x0 x1 y0 y1 p0 p1 q0 q1 a0 a1 b0 b1 OE W2 HA2 sE O4 U4 HB4 s4 h5 h6
    have X5 := Lib.hid (X2.out.below U5.out (by omega))
    have Y5 := Lib.hid (Y2.out.below U5.out (by omega))
    have K5 := Lib.hid (K2.out.below U5.out (by omega))
    have F5 := Lib.hid (F2.out.below U5.out (by omega))
    have HB5 := Lib.hid (HB2.out.trans (U5.out.mono (by omega)))
    have s5' : w.heap.size + 1 + 1 < w5.heap.size := by omega
    clear X2 Y2 K2 F2 FX2 FY2 HB2
    obtain ⟨x0, x1⟩ := X5.out
    obtain ⟨y0, y1⟩ := Y5.out
    obtain ⟨n0, n1⟩ := K5.out
    have f0 := F5.out
    unfold Free at f0
    go_wp2
    refine bodyPost_ret (v := .tuple #[.agg #[.int .i64 0, .slice none 0 0], .int .i64 3]) (by simp [results, Try.results7, n0, n1, go_sem]) rfl ?_
    exact ⟨none, 0, rfl, Mine.none_ _ _ _ _, (HB5.out.setCell (by dsimp only; omega) _).setCell (by dsimp only; omega) _⟩
  · have d1 : decide (48 < r + s) = true := by simp; omega
    have d3 : 48 < r + s := by omega
    clear hA hB hP hQ hlim hrs ln lm
    go_enter Try.func7, Try.ntmps7
    go_wp2_with fail
    refine HLA.out.mono ?_
    rintro e1 w1 ⟨rfl, hb⟩
    have s1 : w.heap.size + 1 + 1 < w1.heap.size := by have := hb.size; simp at this; omega
    have X1 := Lib.hid (X0.out.below hb (by simp <;> omega))
    have Y1 := Lib.hid (Y0.out.below hb (by simp <;> omega))
    have K1 := Lib.hid (K0.out.below hb (by simp))
    have F1 := Lib.hid (F0.out.below hb (by simp))
    have FX1 := Lib.hid (FX0.out.below hb (by simp <;> omega))
    have FY1 := Lib.hid (FY0.out.below hb (by simp <;> omega))
    have HB1 := Lib.hid (on3 _ _ _ hb)
    clear hb X0 Y0 K0 F0 FX0 FY0
    obtain ⟨y0, y1⟩ := Y1.out
    go_wp2_with fail
    refine (HLB.out _ HB1.out).mono ?_
    rintro e1 w2 ⟨rfl, hb⟩
    have s2 : w1.heap.size ≤ w2.heap.size := hb.size
    have X2 := Lib.hid (X1.out.below hb (by omega))
    have Y2 := Lib.hid (Y1.out.below hb (by omega))
    have K2 := Lib.hid (K1.out.below hb (by omega))
    have F2 := Lib.hid (F1.out.below hb (by omega))
    have FX2 := Lib.hid (FX1.out.below hb (by omega))
    have FY2 := Lib.hid (FY1.out.below hb (by omega))
    have HB2 := Lib.hid (HB1.out.trans (hb.mono (by omega)))
    clear hb X1 Y1 K1 F1 FX1 FY1 HB1 y0 y1
    obtain ⟨x0, x1⟩ := X2.out
    obtain ⟨y0, y1⟩ := Y2.out
    have OE := Lib.hid (own_empty w2)
    have W2 := Lib.hid (al1 w2 (Obj.cells #[] 2))
    have HA2 := Lib.hid (HA.out.into (HB2.out.trans (W2.out.mono (by omega))))
    have sE : w2.heap.size ≤ (w2.alloc (Obj.cells #[] 2)).heap.size := by simp
    go_wp2_with fail
    go_region_held3 (fun W => (W.cell? ⟨w.heap.size, 0, none⟩ = some (.int .i64 r) ∧ W.cell? ⟨w.heap.size, 1, none⟩ = some (.slice A n ca)) ∧ (W.cell? ⟨w.heap.size + 1, 0, none⟩ = some (.int .i64 s) ∧ W.cell? ⟨w.heap.size + 1, 1, none⟩ = some (.slice B m cb))) (go_keep)
      (first
        | (refine step_append_list (by rfl) _ _ (by rfl) w2.heap.size (w2.alloc (Obj.cells #[] 2)).heap.size (w2.alloc (Obj.cells #[] 2)).heap.size 0 0 n ca (some ⟨w2.heap.size, 0, none⟩) A [] zs (by rfl) (by exact OE.out) (Nat.le_refl _) (by rfl) (by exact HA2.out) (by omega) (by exact sE) (by unfold maxLen; omega) (by exact Nat.le_refl _) ?_; rw [Nat.zero_add]; intro A4 c4 w4 h4 h5 h6 h7; have h8 : Below w2.heap.size w2 w4 := (by first | exact W2.out.drew.trans h7 | exact W2.out.trans h7); have O4 := Lib.hid h4; have U4 := Lib.hid h8; have s4 : w2.heap.size ≤ w4.heap.size := h8.size; obtain ⟨p0, p1⟩ := X2.out.below h8 (by omega); obtain ⟨q0, q1⟩ := Y2.out.below h8 (by omega); have HB4 := Lib.hid (HB.out.into (HB2.out.trans (h8.mono (by omega)))); clear h4 h7 h8)
        | (refine step_append_list (by rfl) _ _ (by rfl) w2.heap.size w4.heap.size w4.heap.size n c4 m cb A4 B zs ys (by rfl) (by exact O4.out) h5 (by rfl) (by exact HB4.out) (by omega) s4 h6 (Nat.le_refl _) ?_; intro A5 c5 w5 g4 g5 g6 g7; have g8 : Below w2.heap.size w2 w5 := U4.out.trans g7; have O5 := Lib.hid g4; have U5 := Lib.hid g8; have s5 : w2.heap.size ≤ w5.heap.size := g8.size; obtain ⟨a0, a1⟩ := X2.out.below g8 (by omega); obtain ⟨b0, b1⟩ := Y2.out.below g8 (by omega); clear g4 g7 g8))
    clear x0 x1 y0 y1 p0 p1 q0 q1 a0 a1 b0 b1 OE W2 HA2 sE O4 U4 HB4 s4 h5 h6
    have X5 := Lib.hid (X2.out.below U5.out (by omega))
    have Y5 := Lib.hid (Y2.out.below U5.out (by omega))
    have K5 := Lib.hid (K2.out.below U5.out (by omega))
    have F5 := Lib.hid (F2.out.below U5.out (by omega))
    have HB5 := Lib.hid (HB2.out.trans (U5.out.mono (by omega)))
    have s5' : w.heap.size + 1 + 1 < w5.heap.size := by omega
    clear X2 Y2 K2 F2 FX2 FY2 HB2
    obtain ⟨x0, x1⟩ := X5.out
    obtain ⟨y0, y1⟩ := Y5.out
    obtain ⟨n0, n1⟩ := K5.out
    have f0 := F5.out
    unfold Free at f0
    go_wp2
    refine bodyPost_ret (v := .tuple #[.agg #[.int .i64 0, .slice none 0 0], .int .i64 3]) (by simp [results, Try.results7, n0, n1, go_sem]) rfl ?_
    exact ⟨none, 0, rfl, Mine.none_ _ _ _ _, (HB5.out.setCell (by dsimp only; omega) _).setCell (by dsimp only; omega) _⟩

set_option maxHeartbeats 8000000 in
theorem dsum_spec_yes (N : Nat) (l : List Int) (rk code : Int) (b : Bool) (hP : AOk r zs) (hQ : AOk s ys) (hlim : r + s ≤ 48) (hN : n + m = N) (hN48 : N ≤ 48)
    (hcode : (b = true ∧ code = 0 ∧ rk = r + s) ∨ (b = false ∧ code = 3 ∧ l = [] ∧ rk = 0)) (hl48 : l.length ≤ 48)
    (hF : ∀ (W : World) (R : Option Addr) (c : Nat), Ints W W.heap.size R (N * N) (diagL N (zs ++ ys) N) → Calls Try.prog 28 #[.agg #[.int .i64 N, .int .i64 N, .slice R (N * N) c]] W (ResF W l b)) :
    Calls Try.prog 7 #[.agg #[.int .i64 r, .slice A n ca], .agg #[.int .i64 s, .slice B m cb]] w (ResLC w rk (tors l) code) := by
  have X0 := Lib.hid ((BoxG.new w 26 (.int .i64 r) (.slice A n ca)).below (al2 _ (Obj.cells #[.int .i64 s, .slice B m cb] 26) (Obj.cells #[.int .i64 0, .slice none 0 0] 26)) (by simp))
  have Y0 := Lib.hid ((BoxG.new (w.alloc (Obj.cells #[.int .i64 r, .slice A n ca] 26)) 26 (.int .i64 s) (.slice B m cb)).below (al1 _ (Obj.cells #[.int .i64 0, .slice none 0 0] 26)) (by simp))
  have K0 := Lib.hid (BoxG.new ((w.alloc (Obj.cells #[.int .i64 r, .slice A n ca] 26)).alloc (Obj.cells #[.int .i64 s, .slice B m cb] 26)) 26 (.int .i64 0) (.slice none 0 0))
  have F0 := Lib.hid (Free.new ((w.alloc (Obj.cells #[.int .i64 r, .slice A n ca] 26)).alloc (Obj.cells #[.int .i64 s, .slice B m cb] 26)) 26 #[.int .i64 0, .slice none 0 0])
  have FX0 := Lib.hid ((Free.new w 26 #[.int .i64 r, .slice A n ca]).below (al2 _ (Obj.cells #[.int .i64 s, .slice B m cb] 26) (Obj.cells #[.int .i64 0, .slice none 0 0] 26)) (by simp))
  have FY0 := Lib.hid ((Free.new (w.alloc (Obj.cells #[.int .i64 r, .slice A n ca] 26)) 26 #[.int .i64 s, .slice B m cb]).below (al1 _ (Obj.cells #[.int .i64 0, .slice none 0 0] 26)) (by simp))
  simp only [World.size_alloc] at Y0 K0 F0 FY0
  have HLA := Lib.hid (gs_yes r A n ca zs _ (hA.into (al3 w (Obj.cells #[.int .i64 r, .slice A n ca] 26) (Obj.cells #[.int .i64 s, .slice B m cb] 26) (Obj.cells #[.int .i64 0, .slice none 0 0] 26))) hn hP)
  have HLB := Lib.hid (fun (W : World) (hb : Below w.heap.size w W) => gs_yes s B m cb ys W (hB.into hb) hm hQ)
  have HA := Lib.hid hA
  have HB := Lib.hid hB
  have hr := Lib.hid (And.intro hP.1 hP.2.1)
  have hs := Lib.hid (And.intro hQ.1 hQ.2.1)
  have ln := hA.1
  have lm := hB.1
  have nz : n ≤ 48 := by have := hP.2.2.1; omega
  have mz : m ≤ 48 := by have := hQ.2.2.1; omega
  have HL := Lib.hid (show (zs ++ ys).length = n + m by rw [List.length_append, ln, lm])
  obtain ⟨r0, r1⟩ := hr.out
  obtain ⟨s0, s1'⟩ := hs.out
  have ws : IntKind.i64.wrap (r + s) = r + s := IntWalk.i64_in _ (by omega)
  have HFF := Lib.hid hF
  have HC := Lib.hid hcode
  have nm63 : ((n : Int) + (m : Int)) = (N : Int) := by omega
  have d1 : decide (48 < r + s) = false := by simp; omega
  have d3 : ¬ 48 < r + s := by omega
  have d2 : decide (48 < (N : Int)) = false := by simp; omega
  have d4 : ¬ 48 < (N : Int) := by omega
  have hsq := sq_le hN48
  have hp : (N : Int) * (N : Int) = ((N * N : Nat) : Int) := by simp
  have p0 : 0 ≤ (N : Int) * (N : Int) := by omega
  have p1 : (N : Int) * (N : Int) ≤ 2304 := by omega
  have HP2 := Lib.hid hp
  clear hA hB hP hQ ln lm hF hcode hp
  rw [hN] at HL
  go_enter Try.func7, Try.ntmps7
  go_wp2_with fail
  refine HLA.out.mono ?_
  rintro e1 w1 ⟨rfl, hb⟩
  have s1 : w.heap.size + 1 + 1 < w1.heap.size := by have := hb.size; simp at this; omega
  have X1 := Lib.hid (X0.out.below hb (by simp <;> omega))
  have Y1 := Lib.hid (Y0.out.below hb (by simp <;> omega))
  have K1 := Lib.hid (K0.out.below hb (by simp))
  have F1 := Lib.hid (F0.out.below hb (by simp))
  have FX1 := Lib.hid (FX0.out.below hb (by simp <;> omega))
  have FY1 := Lib.hid (FY0.out.below hb (by simp <;> omega))
  have HB1 := Lib.hid (on3 _ _ _ hb)
  clear hb X0 Y0 K0 F0 FX0 FY0
  obtain ⟨y0, y1⟩ := Y1.out
  go_wp2_with fail
  refine (HLB.out _ HB1.out).mono ?_
  rintro e1 w2 ⟨rfl, hb⟩
  have s2 : w1.heap.size ≤ w2.heap.size := hb.size
  have X2 := Lib.hid (X1.out.below hb (by omega))
  have Y2 := Lib.hid (Y1.out.below hb (by omega))
  have K2 := Lib.hid (K1.out.below hb (by omega))
  have F2 := Lib.hid (F1.out.below hb (by omega))
  have FX2 := Lib.hid (FX1.out.below hb (by omega))
  have FY2 := Lib.hid (FY1.out.below hb (by omega))
  have HB2 := Lib.hid (HB1.out.trans (hb.mono (by omega)))
  clear hb X1 Y1 K1 F1 FX1 FY1 HB1 y0 y1
  obtain ⟨x0, x1⟩ := X2.out
  obtain ⟨y0, y1⟩ := Y2.out
  have OE := Lib.hid (own_empty w2)
  have W2 := Lib.hid (al1 w2 (Obj.cells #[] 2))
  have HA2 := Lib.hid (HA.out.into (HB2.out.trans (W2.out.mono (by omega))))
  have sE : w2.heap.size ≤ (w2.alloc (Obj.cells #[] 2)).heap.size := by simp
  go_wp2_with fail
  go_region_held3 (fun W => (W.cell? ⟨w.heap.size, 0, none⟩ = some (.int .i64 r) ∧ W.cell? ⟨w.heap.size, 1, none⟩ = some (.slice A n ca)) ∧ (W.cell? ⟨w.heap.size + 1, 0, none⟩ = some (.int .i64 s) ∧ W.cell? ⟨w.heap.size + 1, 1, none⟩ = some (.slice B m cb))) (go_keep)
    (first
      | (refine step_append_list (by rfl) _ _ (by rfl) w2.heap.size (w2.alloc (Obj.cells #[] 2)).heap.size (w2.alloc (Obj.cells #[] 2)).heap.size 0 0 n ca (some ⟨w2.heap.size, 0, none⟩) A [] zs (by rfl) (by exact OE.out) (Nat.le_refl _) (by rfl) (by exact HA2.out) (by omega) (by exact sE) (by unfold maxLen; omega) (by exact Nat.le_refl _) ?_; rw [Nat.zero_add]; intro A4 c4 w4 h4 h5 h6 h7; have h8 : Below w2.heap.size w2 w4 := (by first | exact W2.out.drew.trans h7 | exact W2.out.trans h7); have O4 := Lib.hid h4; have U4 := Lib.hid h8; have s4 : w2.heap.size ≤ w4.heap.size := h8.size; obtain ⟨p0, p1⟩ := X2.out.below h8 (by omega); obtain ⟨q0, q1⟩ := Y2.out.below h8 (by omega); have HB4 := Lib.hid (HB.out.into (HB2.out.trans (h8.mono (by omega)))); clear h4 h7 h8)
      | (refine step_append_list (by rfl) _ _ (by rfl) w2.heap.size w4.heap.size w4.heap.size n c4 m cb A4 B zs ys (by rfl) (by exact O4.out) h5 (by rfl) (by exact HB4.out) (by omega) s4 h6 (Nat.le_refl _) ?_; intro A5 c5 w5 g4 g5 g6 g7; have g8 : Below w2.heap.size w2 w5 := U4.out.trans g7; have O5 := Lib.hid g4; have U5 := Lib.hid g8; have s5 : w2.heap.size ≤ w5.heap.size := g8.size; obtain ⟨a0, a1⟩ := X2.out.below g8 (by omega); obtain ⟨b0, b1⟩ := Y2.out.below g8 (by omega); clear g4 g7 g8))
  clear x0 x1 y0 y1 p0 p1 q0 q1 a0 a1 b0 b1 OE W2 HA2 sE O4 U4 HB4 s4 h5 h6
  have X5 := Lib.hid (X2.out.below U5.out (by omega))
  have Y5 := Lib.hid (Y2.out.below U5.out (by omega))
  have K5 := Lib.hid (K2.out.below U5.out (by omega))
  have F5 := Lib.hid (F2.out.below U5.out (by omega))
  have HB5 := Lib.hid (HB2.out.trans (U5.out.mono (by omega)))
  have s5' : w.heap.size + 1 + 1 < w5.heap.size := by omega
  clear X2 Y2 K2 F2 FX2 FY2 HB2
  obtain ⟨x0, x1⟩ := X5.out
  obtain ⟨y0, y1⟩ := Y5.out
  rw [hN] at O5 g5
  rw [hN]
  go_wp2_with fail
  with_reducible refine (zero_spec _ _ (N * N) _ p0 (by omega) HP2.out).mono ?_
  rintro e6 w6 ⟨g, rfl, hblk, hg, hg2, hb⟩
  have s6 : w5.heap.size ≤ w6.heap.size := hb.size
  have U6 := Lib.hid hb
  have HO := Lib.hid (Own.of_blk (lo := g) (hi := g + 1) (n := N * N) hblk (Nat.le_refl _) (by omega) (by simp) (by unfold maxLen; omega))
  have C6 := Lib.hid (Box3.new w6 40 (.int .i64 N) (.int .i64 N) (.slice (some ⟨g, 0, none⟩) (N * N) (N * N)))
  have G6 := Lib.hid (al1 w6 (Obj.cells #[.int .i64 N, .int .i64 N, .slice (some ⟨g, 0, none⟩) (N * N) (N * N)] 40))
  clear hb hblk x0 x1 y0 y1
  go_wp2
  obtain ⟨W7, hW7⟩ : ∃ W7, W7 = w6.alloc (Obj.cells #[.int .i64 N, .int .i64 N, .slice (some ⟨g, 0, none⟩) (N * N) (N * N)] 40) := ⟨_, rfl⟩
  have s7 : w6.heap.size < W7.heap.size := by rw [hW7]; simp
  rw [← hW7] at C6 G6
  rw [← hW7]
  clear hW7
  have V7 := Lib.hid (U6.out.trans (G6.out.mono (by omega)))
  go_loopw [9] (fun x wr => ∃ k : Nat, k ≤ N ∧ x = .int .i64 k ∧ Own wr g (g + 1) (some ⟨g, 0, none⟩) (N * N) (N * N) (diagL N (zs ++ ys) k) ∧ Kept g (g + 1) W7 wr) (fun x _ => N - (intOf x).toNat)
  case atStart => exact ⟨0, Nat.zero_le _, rfl, HO.out.below G6.out (by omega), Kept.refl _ _ _⟩
  case round =>
    obtain ⟨k, hk, rfl, hown, hkept⟩ := hrel
    have HW := Lib.hid hown
    have HK := Lib.hid hkept
    have DB := Lib.hid (V7.out.trans (hkept.below (B := w5.heap.size) (by omega) (by omega)))
    have sr : W7.heap.size ≤ wr.heap.size := hkept.size
    clear hown hkept
    obtain ⟨c0, c1, c2⟩ := C6.out.kept HK.out (by omega) (by omega)
    by_cases hlt : k < N
    · have hd := diag_lt hlt
      obtain ⟨bz, offz, z, rfl, _, hzz, hcz⟩ := ((O5.out.ints).below DB.out).at_z hlt
      have HZ := Lib.hid hzz
      obtain ⟨g', zz, eg, hlo, hhi, hz2, hc, hf⟩ := HW.out.at_ hd
      cases eg
      clear hzz hz2
      have a0 : 0 ≤ (k : Int) * (N : Int) := by have : (k : Int) * (N : Int) = ((k * N : Nat) : Int) := (by simp); omega
      have a1 : (k : Int) * (N : Int) ≤ 2304 := by have : (k : Int) * (N : Int) = ((k * N : Nat) : Int) := (by simp); omega
      have HE := Lib.hid (show (k : Int) * (N : Int) + (k : Int) = ((k * N + k : Nat) : Int) by simp)
      have e0 : 0 ≤ (k : Int) * (N : Int) + (k : Int) := by omega
      have e1 : (k : Int) * (N : Int) + (k : Int) < (N : Int) * (N : Int) := by rw [HE.out, HP2.out]; omega
      have e1' : (k : Int) * (N : Int) + (k : Int) < ((N * N : Nat) : Int) := by rw [HE.out]; omega
      have e2 : ((k : Int) * (N : Int) + (k : Int)).toNat = k * N + k := by rw [HE.out]; omega
      have t0 : (0 : Int) ≤ (k : Int) := by omega
      have t1 : (k : Int) < (N : Int) := by omega
      have wm : IntKind.i64.wrap ((k : Int) * (N : Int)) = (k : Int) * (N : Int) := IntWalk.i64_in _ (by omega)
      have wn : IntKind.i64.wrap ((k : Int) * (N : Int) + (k : Int)) = (k : Int) * (N : Int) + (k : Int) := IntWalk.i64_in _ (by omega)
      go_wp2
      go_region
      all_goals
        go_wp2
        go_roundw
        case rel => exact ⟨k + 1, by omega, by go_num, by rw [diagL, HZ.out]; exact HW.out.set_ _ _, (HK.out.drewN _).set_ hlo hhi _⟩
        case measure => simp [intOf]; omega
    · obtain rfl : N = k := by omega
      have t1 : ¬ (N : Int) < (N : Int) := by omega
      have gw : g + 1 ≤ wr.heap.size := by omega
      go_wp2_with fail
      refine (HFF.out _ (some ⟨g, 0, none⟩) (N * N) (HW.out.ints.more gw)).mono ?_
      rintro e8 w8 ⟨A8, c8, rfl, hown, hb⟩
      have s8 : wr.heap.size ≤ w8.heap.size := hb.size
      have O8 := Lib.hid hown
      have U8 := Lib.hid (DB.out.trans (hb.mono (by omega)))
      clear hown hb c0 c1 c2
      have X8 := Lib.hid (X5.out.below U8.out (by omega))
      have Y8 := Lib.hid (Y5.out.below U8.out (by omega))
      have K8 := Lib.hid (K5.out.below U8.out (by omega))
      have F8 := Lib.hid (F5.out.below U8.out (by omega))
      have HB8 := Lib.hid (HB5.out.trans (U8.out.mono (by omega)))
      obtain ⟨x0, x1⟩ := X8.out
      obtain ⟨y0, y1⟩ := Y8.out
      rcases HC.out with ⟨h1, h0, h2⟩ | ⟨h1, h0, h3, h2⟩
      · subst h1
        subst h0
        subst h2
        have ne1 : ¬ w.heap.size = w.heap.size + 1 + 1 := by omega
        have ne2 : ¬ w.heap.size + 1 + 1 = w.heap.size := by omega
        go_wp2_with fail
        go_region_held3 (fun W => (W.cell? ⟨w.heap.size, 0, none⟩ = some (.int .i64 r) ∧ W.cell? ⟨w.heap.size, 1, none⟩ = some (.slice A n ca)) ∧ (W.cell? ⟨w.heap.size + 1, 0, none⟩ = some (.int .i64 s) ∧ W.cell? ⟨w.heap.size + 1, 1, none⟩ = some (.slice B m cb))) (go_keep)
          ((go_at_call 29; (with_reducible refine (torsion_spec A8 l.length c8 l _ (by exact (O8.out.ints).into (Below.refl _ _).drew) (by omega)).mono ?_); rintro e9 w9 ⟨A9, c9, rfl, hown, hb'⟩; have hb9 := undrew hb'; have U9 := Lib.hid hb9; have s9 : w8.heap.size ≤ w9.heap.size := hb9.size; have M9 : Hid (Mine w9 w8.heap.size w9.heap.size A9 (tors l).length (tors l)) := Lib.hid hown.mine; obtain ⟨n0, n1⟩ := K8.out.below hb9 (by omega); have f0 := F8.out.below hb9 (by omega); unfold Free at f0; obtain ⟨u0, u1⟩ := X8.out.below hb9 (by omega); obtain ⟨v0, v1⟩ := Y8.out.below hb9 (by omega); clear hown hb' hb9))
        all_goals
          go_wp2
          refine bodyPost_ret (v := .tuple #[.agg #[.int .i64 (r + s), .slice A9 (tors l).length c9], .int .i64 0]) (by simp [results, Try.results7, n0, n1, go_sem]) rfl ?_
          exact ResLC.fin M9.out (HB8.out.trans (U9.out.mono (by omega))) (by omega) (.inl (by omega)) (by omega) (Nat.le_refl _)
      · subst h1
        subst h0
        subst h2
        subst h3
        obtain ⟨n0, n1⟩ := K8.out
        have f0 := F8.out
        unfold Free at f0
        go_wp2
        refine bodyPost_ret (v := .tuple #[.agg #[.int .i64 0, .slice none 0 0], .int .i64 3]) (by simp [results, Try.results7, n0, n1, go_sem]) rfl ?_
        exact ⟨none, 0, rfl, Mine.none_ _ _ _ _, (HB8.out.setCell (by dsimp only; omega) _).setCell (by dsimp only; omega) _⟩
end

end Go.Proofs.Ytgmkcmdnbfolhaa
