/- EdgeBetween of the specification; both functions of the program; the door of their tables. No condition but those that each theorem names. -/
import Derived.Test.YtajbahfbldmckaaDoorEgA
import Derived.Test.YtajbahfbldmckaaDoorPfL
namespace Go.Proofs.YtajbahfbldmckaaDoor
open Go Go.ChangeShapes Go.WideShapes Go.ChangeAt Go.RowKit
namespace Eg
theorem btw_no {a b : Int} (h : ¬ ((0 ≤ a ∧ a < 4) ∧ (0 ≤ b ∧ b < 4))) : btw a b = -1 := by unfold btw; rw [if_neg h]
theorem btw_yes {a b : Nat} (ha : a < 4) (hb : b < 4) : btw (a : Int) (b : Int) = nb a b := by unfold btw; rw [if_pos (by omega)]; rfl

set_option maxRecDepth 100000 in
set_option maxHeartbeats 4000000 in
theorem between_spec (a b : Int) (w : World) : Calls Tryd.prog 40 #[.int .i64 a, .int .i64 b] w fun x w' => x = .returned (.int .i64 (btw a b)) ∧ Below w.heap.size w w' := by
  by_cases ha : 0 ≤ a ∧ a < 4
  case neg =>
    have R := Lib.hid (btw_no (a := a) (b := b) (fun e => ha e.1))
    go_enter Tryd.func40, Tryd.ntmps40
    go_wp2_with fail
    refine (Fc.in_spec_no a 0 3 _ (by omega)).mono ?_
    rintro x w1 ⟨rfl, rfl⟩
    clear ha
    go_wp2
    go_ret
    exact ⟨by rw [R.out]; rfl, Below.refl _ _⟩
  by_cases hb : 0 ≤ b ∧ b < 4
  case neg =>
    have R := Lib.hid (btw_no (a := a) (b := b) (fun e => hb e.2))
    go_enter Tryd.func40, Tryd.ntmps40
    go_wp2_with fail
    refine (Fc.in_spec_yes a 0 3 _ (by omega) (by omega)).mono ?_
    rintro x w1 ⟨rfl, rfl⟩
    go_wp2_with fail
    refine (Fc.in_spec_no b 0 3 _ (by omega)).mono ?_
    rintro x w1 ⟨rfl, rfl⟩
    clear ha hb
    go_wp2
    go_ret
    exact ⟨by rw [R.out]; rfl, Below.refl _ _⟩
  obtain ⟨k, rfl⟩ := Int.eq_ofNat_of_zero_le ha.1
  obtain ⟨j, rfl⟩ := Int.eq_ofNat_of_zero_le hb.1
  have hk : k < 4 := by omega
  have hj : j < 4 := by omega
  have R := Lib.hid (btw_yes hk hj)
  go_enter Tryd.func40, Tryd.ntmps40
  go_wp2_with fail
  refine (Fc.in_spec_yes (k : Int) 0 3 _ (by omega) (by omega)).mono ?_
  rintro x w1 ⟨rfl, rfl⟩
  go_wp2_with fail
  refine (Fc.in_spec_yes (j : Int) 0 3 _ (by omega) (by omega)).mono ?_
  rintro x w1 ⟨rfl, rfl⟩
  clear ha hb
  go_wp2_with fail
  refine (l08Edge_spec k j _ hk hj).mono ?_
  rintro x w1 ⟨rfl, hb⟩
  have D := Lib.hid hb
  clear hb
  go_wp2
  go_ret
  exact ⟨by rw [R.out]; rfl, D.out⟩

theorem isEdge_yes (p : Int) (w : World) (h0 : 0 ≤ p) (h1 : p < 6) : Calls Tryd.prog 91 #[.int .i64 p] w fun e w' => e = .returned (.bool true) ∧ w = w' := by
  have t0 : decide (0 ≤ p) = true := by simpa using h0
  have t1 : decide (p < 6) = true := by simpa using h1
  go_enter Tryd.func91, Tryd.ntmps91
  go_wp2
  go_ret
  exact ⟨rfl, rfl⟩
theorem isEdge_no (p : Int) (w : World) (h : ¬ (0 ≤ p ∧ p < 6)) : Calls Tryd.prog 91 #[.int .i64 p] w fun e w' => e = .returned (.bool false) ∧ w = w' := by
  by_cases h0 : 0 ≤ p
  · have t0 : decide (0 ≤ p) = true := by simpa using h0
    have t1 : decide (p < 6) = false := by simp; omega
    go_enter Tryd.func91, Tryd.ntmps91
    go_wp2
    go_ret
    exact ⟨rfl, rfl⟩
  · have t0 : decide (0 ≤ p) = false := by simp; omega
    go_enter Tryd.func91, Tryd.ntmps91
    go_wp2
    go_ret
    exact ⟨rfl, rfl⟩

/-- The program's tables. -/
def Te (W : World) : Prop := ∀ i, i < 6 → ∀ k, k < 2 → W.cell? ⟨1, i * 2 + k, none⟩ = some (.int .i64 ((tab.getD i []).getD k 0))
def Tn (W : World) : Prop := ∀ i, i < 4 → ∀ k, k < 4 → W.cell? ⟨2, i * 4 + k, none⟩ = some (.int .i64 ((num.getD i []).getD k 0))
theorem Te.pos {W : World} (h : Te W) : 1 < W.heap.size := World.block_lt_of_cell? W ⟨1, 0 * 2 + 0, none⟩ (h 0 (by omega) 0 (by omega))
theorem Tn.pos {W : World} (h : Tn W) : 2 < W.heap.size := World.block_lt_of_cell? W ⟨2, 0 * 4 + 0, none⟩ (h 0 (by omega) 0 (by omega))
theorem Te.below {W W' : World} {B : Nat} (h : Te W) (hb : Below B W W') (hB : 1 < B) : Te W' := fun i hi k hk => (hb.cell (p := ⟨1, i * 2 + k, none⟩) hB).trans (h i hi k hk)
theorem Tn.below {W W' : World} {B : Nat} (h : Tn W) (hb : Below B W W') (hB : 2 < B) : Tn W' := fun i hi k hk => (hb.cell (p := ⟨2, i * 4 + k, none⟩) hB).trans (h i hi k hk)

set_option maxRecDepth 100000 in
set_option maxHeartbeats 4000000 in
theorem ends_impl (e : Int) (w : World) (ht : Te w) : Calls Tryd.prog 39 #[.int .i64 e] w fun x w' => x = .returned (.tuple #[.int .i64 (ends0 e), .int .i64 (ends1 e)]) ∧ Below w.heap.size w w' := by
  by_cases he : 0 ≤ e ∧ e < 6
  case neg =>
    have R := Lib.hid (show ends0 e = -1 ∧ ends1 e = -1 from by unfold ends0 ends1; rw [if_neg he, if_neg he]; exact ⟨rfl, rfl⟩)
    go_enter Tryd.func39, Tryd.ntmps39
    go_wp2_with fail
    refine (isEdge_no e _ he).mono ?_
    rintro x w1 ⟨rfl, rfl⟩
    clear he ht
    go_wp2
    refine bodyPost_ret (v := .tuple #[.int .i64 (-1), .int .i64 (-1)]) (by simp [results, Tryd.results39, go_sem]) rfl ?_
    rw [R.out.1, R.out.2]
    exact ⟨rfl, Below.refl _ _⟩
  obtain ⟨k, rfl⟩ := Int.eq_ofNat_of_zero_le he.1
  have hk : k < 6 := by omega
  have R := Lib.hid (show ends0 (k : Int) = end0 k ∧ ends1 (k : Int) = end1 k from by unfold ends0 ends1; rw [if_pos he, if_pos he]; exact ⟨rfl, rfl⟩)
  have c0 : w.cell? ⟨1, k * 2, none⟩ = some (.int .i64 (end0 k)) := ht k hk 0 (by omega)
  have c1 : w.cell? ⟨1, k * 2 + 1, none⟩ = some (.int .i64 (end1 k)) := ht k hk 1 (by omega)
  have i0 : (0 : Int) ≤ (k : Int) := he.1
  have i1 : (k : Int) < 6 := he.2
  go_enter Tryd.func39, Tryd.ntmps39
  go_wp2_with fail
  refine (isEdge_yes (k : Int) _ he.1 he.2).mono ?_
  rintro x w1 ⟨rfl, rfl⟩
  clear he ht
  go_wp2_with (go_region)
  all_goals
    refine bodyPost_ret (v := .tuple #[.int .i64 (end0 k), .int .i64 (end1 k)]) (by simp [results, Tryd.results39, go_sem]) rfl ?_
    rw [R.out.1, R.out.2]
    exact ⟨rfl, by first | exact Below.refl _ _ | exact (Below.refl _ _).drew⟩

set_option maxRecDepth 100000 in
set_option maxHeartbeats 4000000 in
theorem between_impl (a b : Int) (w : World) (ht : Tn w) : Calls Tryd.prog 41 #[.int .i64 a, .int .i64 b] w fun x w' => x = .returned (.int .i64 (btw a b)) ∧ Below w.heap.size w w' := by
  by_cases ha : 0 ≤ a ∧ a < 4
  case neg =>
    have R := Lib.hid (btw_no (a := a) (b := b) (fun e => ha e.1))
    go_enter Tryd.func41, Tryd.ntmps41
    go_wp2_with fail
    refine (isVertex_no a _ ha).mono ?_
    rintro x w1 ⟨rfl, rfl⟩
    clear ha ht
    go_wp2
    go_ret
    exact ⟨by rw [R.out]; rfl, Below.refl _ _⟩
  by_cases hb : 0 ≤ b ∧ b < 4
  case neg =>
    have R := Lib.hid (btw_no (a := a) (b := b) (fun e => hb e.2))
    go_enter Tryd.func41, Tryd.ntmps41
    go_wp2_with fail
    refine (isVertex_yes a _ ha.1 ha.2).mono ?_
    rintro x w1 ⟨rfl, rfl⟩
    go_wp2_with fail
    refine (isVertex_no b _ hb).mono ?_
    rintro x w1 ⟨rfl, rfl⟩
    clear ha hb ht
    go_wp2
    go_ret
    exact ⟨by rw [R.out]; rfl, Below.refl _ _⟩
  obtain ⟨k, rfl⟩ := Int.eq_ofNat_of_zero_le ha.1
  obtain ⟨j, rfl⟩ := Int.eq_ofNat_of_zero_le hb.1
  have hk : k < 4 := by omega
  have hj : j < 4 := by omega
  have R := Lib.hid (btw_yes hk hj)
  have c0 : w.cell? ⟨2, k * 4 + j, none⟩ = some (.int .i64 (nb k j)) := ht k hk j hj
  have i0 : (0 : Int) ≤ (k : Int) := ha.1
  have i1 : (k : Int) < 4 := ha.2
  have i2 : (0 : Int) ≤ (j : Int) := hb.1
  have i3 : (j : Int) < 4 := hb.2
  go_enter Tryd.func41, Tryd.ntmps41
  go_wp2_with fail
  refine (isVertex_yes (k : Int) _ ha.1 ha.2).mono ?_
  rintro x w1 ⟨rfl, rfl⟩
  go_wp2_with fail
  refine (isVertex_yes (j : Int) _ hb.1 hb.2).mono ?_
  rintro x w1 ⟨rfl, rfl⟩
  clear ha hb ht
  go_wp2
  go_ret
  exact ⟨by rw [R.out]; rfl, Below.refl _ _⟩

theorem tabE : (Rows.laid_loop_example_g00870_impl_edgeEnds : DataW Unit) = .agg (tab.map (Lib.tabData .i64)) := rfl
theorem tabN : (Rows.laid_loop_example_g00870_impl_edgeNumbers : DataW Unit) = .agg (num.map (Lib.tabData .i64)) := rfl
abbrev laidE : List (String × DataW Unit) := [("loop.example/g00870/impl.edgeEnds", Rows.laid_loop_example_g00870_impl_edgeEnds)]
abbrev laidN : List (String × DataW Unit) := [("loop.example/g00870/impl.edgeNumbers", Rows.laid_loop_example_g00870_impl_edgeNumbers)]
theorem rowE : ∀ i, i < 6 → ∀ k, k < 2 → ((tab.getD i []).map (Value.int .i64))[k]? = some (.int .i64 ((tab.getD i []).getD k 0)) := by
  intro i hi k hk
  have : ∀ i, i < 6 → (tab.getD i []).length = 2 := by decide
  have h := this i hi
  obtain ⟨l, hl⟩ : ∃ l, tab.getD i [] = l := ⟨_, rfl⟩
  rw [hl] at h ⊢
  rw [List.getElem?_map, List.getD_eq_getElem?_getD, List.getElem?_eq_getElem (by omega)]
  rfl
theorem rowN : ∀ i, i < 4 → ∀ k, k < 4 → ((num.getD i []).map (Value.int .i64))[k]? = some (.int .i64 ((num.getD i []).getD k 0)) := by
  intro i hi k hk
  have : ∀ i, i < 4 → (num.getD i []).length = 4 := by decide
  have h := this i hi
  obtain ⟨l, hl⟩ : ∃ l, num.getD i [] = l := ⟨_, rfl⟩
  rw [hl] at h ⊢
  rw [List.getElem?_map, List.getD_eq_getElem?_getD, List.getElem?_eq_getElem (by omega)]
  rfl
theorem te_of_laid {W : World} (h : laidMetH Tryd.prog laidE W) : Te W := by
  have h1 : laidMet Tryd.prog laidE W := h
  obtain ⟨ps, ⟨g, t, cs, fuel, p, q, hg, ht, hvar, hd, _⟩, _⟩ := h1
  rw [tabE] at hd
  obtain rfl := Option.some.inj ((show Tryd.prog.globalNamed "loop.example/g00870/impl.edgeEnds" = some 1 by kernel_rfl).symm.trans hg)
  obtain rfl := Option.some.inj ((show (Tryd.prog.globals[1]?).map (·.type) = some 118 by kernel_rfl).symm.trans ht)
  have hr := cells_of_rows (n := 6) (m := 2) Tryd.underlying118 Tryd.underlying117 Tryd.underlying2 (by kernel_rfl) (by kernel_rfl) (by kernel_rfl) hd
  intro i hi k hk
  have h2 := congrArg (·[k]?) (hr i hi)
  try dsimp only at h2
  rw [List.getElem?_take_of_lt hk, List.getElem?_drop, rowE i hi k hk, Array.getElem?_toList] at h2
  have h3 := World.var?_cell hg hvar (i * 2 + k)
  exact h3.trans h2
theorem tn_of_laid {W : World} (h : laidMetH Tryd.prog laidN W) : Tn W := by
  have h1 : laidMet Tryd.prog laidN W := h
  obtain ⟨ps, ⟨g, t, cs, fuel, p, q, hg, ht, hvar, hd, _⟩, _⟩ := h1
  rw [tabN] at hd
  obtain rfl := Option.some.inj ((show Tryd.prog.globalNamed "loop.example/g00870/impl.edgeNumbers" = some 2 by kernel_rfl).symm.trans hg)
  obtain rfl := Option.some.inj ((show (Tryd.prog.globals[2]?).map (·.type) = some 120 by kernel_rfl).symm.trans ht)
  have hr := cells_of_rows (n := 4) (m := 4) Tryd.underlying120 Tryd.underlying119 Tryd.underlying2 (by kernel_rfl) (by kernel_rfl) (by kernel_rfl) hd
  intro i hi k hk
  have h2 := congrArg (·[k]?) (hr i hi)
  try dsimp only at h2
  rw [List.getElem?_take_of_lt hk, List.getElem?_drop, rowN i hi k hk, Array.getElem?_toList] at h2
  have h3 := World.var?_cell hg hvar (i * 4 + k)
  exact h3.trans h2
/-- How many steps of the door lay both. -/
abbrev doorN : Nat := 400
theorem doorE (os : Os) (args : Array Value) : laidMetH Tryd.prog laidE ((World.doorLaid Tryd.prog doorN os).forCall (fun _ _ => 0) ⟨#[], args, []⟩).memory :=
  laidMetH_of_parts3 (fuel := 8) (laidMet_of_run' 8 (by kernel_rfl) (by kernel_rfl)) (by kernel_rfl) (by kernel_rfl)
theorem doorNb (os : Os) (args : Array Value) : laidMetH Tryd.prog laidN ((World.doorLaid Tryd.prog doorN os).forCall (fun _ _ => 0) ⟨#[], args, []⟩).memory :=
  laidMetH_of_parts3 (fuel := 8) (laidMet_of_run' 8 (by kernel_rfl) (by kernel_rfl)) (by kernel_rfl) (by kernel_rfl)
end Eg
end Go.Proofs.YtajbahfbldmckaaDoor
