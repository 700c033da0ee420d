/- The specification's exported functions over permutations of four numbers; which numbers are indices, which are vertices. No condition but those that each theorem names. -/
import Derived.Test.YtjendlfophdfeaaDoorPfD
namespace Go.Proofs.YtjendlfophdfeaaDoor
open Go.RowKit

theorem l06Valid_yes (p : Int) (w : World) (h0 : 0 ≤ p) (h1 : p < 24) : Calls Tryd.prog 98 #[.int .i64 p] w fun e w' => e = .returned (.bool true) ∧ w = w' := by
  have t0 : decide ((0 : Int) ≤ p) = true := by simpa using h0
  have t1 : decide (p < 24) = true := by simpa using h1
  go_enter Tryd.func98, Tryd.ntmps98
  go_wp2
  go_ret
  exact ⟨rfl, rfl⟩
theorem l06Valid_no (p : Int) (w : World) (h : ¬ (0 ≤ p ∧ p < 24)) : Calls Tryd.prog 98 #[.int .i64 p] w fun e w' => e = .returned (.bool false) ∧ w = w' := by
  by_cases h0 : 0 ≤ p
  · have h1 : ¬ p < 24 := fun h1 => h ⟨h0, h1⟩
    have t0 : decide ((0 : Int) ≤ p) = true := by simpa using h0
    have t1 : decide (p < 24) = false := by simpa using h1
    clear h
    go_enter Tryd.func98, Tryd.ntmps98
    go_wp2
    go_ret
    exact ⟨rfl, rfl⟩
  · have t0 : decide ((0 : Int) ≤ p) = false := by simpa using h0
    clear h
    go_enter Tryd.func98, Tryd.ntmps98
    go_wp2
    go_ret
    exact ⟨rfl, rfl⟩

theorem isPerm4_yes (p : Int) (w : World) (h0 : 0 ≤ p) (h1 : p < 24) : Calls Tryd.prog 91 #[.int .i64 p] w fun e w' => e = .returned (.bool true) ∧ w = w' := by
  have t0 : decide ((0 : Int) ≤ p) = true := by simpa using h0
  have t1 : decide (p < 24) = true := by simpa using h1
  go_enter Tryd.func91, Tryd.ntmps91
  go_wp2
  go_ret
  exact ⟨rfl, rfl⟩
theorem isPerm4_no (p : Int) (w : World) (h : ¬ (0 ≤ p ∧ p < 24)) : Calls Tryd.prog 91 #[.int .i64 p] w fun e w' => e = .returned (.bool false) ∧ w = w' := by
  by_cases h0 : 0 ≤ p
  · have h1 : ¬ p < 24 := fun h1 => h ⟨h0, h1⟩
    have t0 : decide ((0 : Int) ≤ p) = true := by simpa using h0
    have t1 : decide (p < 24) = false := by simpa using h1
    clear h
    go_enter Tryd.func91, Tryd.ntmps91
    go_wp2
    go_ret
    exact ⟨rfl, rfl⟩
  · have t0 : decide ((0 : Int) ≤ p) = false := by simpa using h0
    clear h
    go_enter Tryd.func91, Tryd.ntmps91
    go_wp2
    go_ret
    exact ⟨rfl, rfl⟩

theorem isVertex_yes (p : Int) (w : World) (h0 : 0 ≤ p) (h1 : p < 4) : Calls Tryd.prog 90 #[.int .i64 p] w fun e w' => e = .returned (.bool true) ∧ w = w' := by
  have t0 : decide ((0 : Int) ≤ p) = true := by simpa using h0
  have t1 : decide (p < 4) = true := by simpa using h1
  go_enter Tryd.func90, Tryd.ntmps90
  go_wp2
  go_ret
  exact ⟨rfl, rfl⟩
theorem isVertex_no (p : Int) (w : World) (h : ¬ (0 ≤ p ∧ p < 4)) : Calls Tryd.prog 90 #[.int .i64 p] w fun e w' => e = .returned (.bool false) ∧ w = w' := by
  by_cases h0 : 0 ≤ p
  · have h1 : ¬ p < 4 := fun h1 => h ⟨h0, h1⟩
    have t0 : decide ((0 : Int) ≤ p) = true := by simpa using h0
    have t1 : decide (p < 4) = false := by simpa using h1
    clear h
    go_enter Tryd.func90, Tryd.ntmps90
    go_wp2
    go_ret
    exact ⟨rfl, rfl⟩
  · have t0 : decide ((0 : Int) ≤ p) = false := by simpa using h0
    clear h
    go_enter Tryd.func90, Tryd.ntmps90
    go_wp2
    go_ret
    exact ⟨rfl, rfl⟩

end Go.Proofs.YtjendlfophdfeaaDoor
