/- Which lists are reduced words, which presentations are valid: the program and the specification. No condition but those that each theorem names. -/
import Derived.Test.YtajbahfbldmckaaDoorWdB
import Derived.Test.YtajbahfbldmckaaDoorSsP
namespace Go.Proofs.YtajbahfbldmckaaDoor
open Go.RowKit

namespace Wd
/-- No letter is next to its negative, by places. -/
def RedI (l : List Int) : Prop := ∀ j, j < l.length - 1 → l.getD (j + 1) 0 ≠ -(l.getD j 0)
instance (l : List Int) : Decidable (RedI l) := inferInstanceAs (Decidable (∀ j, j < l.length - 1 → l.getD (j + 1) 0 ≠ -(l.getD j 0)))
/-- A list is a reduced word. -/
def isR (most : Int) (l : List Int) : Bool := isW most l && decide (RedI l)
theorem isR_iff {most : Int} {l : List Int} : isR most l = true ↔ isW most l = true ∧ RedI l := by simp [isR]
theorem isR_noW {most : Int} {l : List Int} (h : isW most l = false) : isR most l = false := by simp [isR, h]
theorem isR_yes {most : Int} {l : List Int} (h : isW most l = true) (h2 : RedI l) : isR most l = true := isR_iff.2 ⟨h, h2⟩
theorem isR_bad {most : Int} {l : List Int} {k : Nat} (hk : k < l.length - 1) (h : l.getD (k + 1) 0 = -(l.getD k 0)) : isR most l = false := by
  have : ¬ RedI l := fun h' => h' k hk h
  simp [isR, this]
/-- The first letters are fit, and none is next to its negative. -/
def FitR (most : Int) (l : List Int) (k : Nat) : Prop := Fit most l k ∧ ∀ j, j < k - 1 → l.getD (j + 1) 0 ≠ -(l.getD j 0)
theorem FitR.zero (most : Int) (l : List Int) : FitR most l 0 := ⟨Fit.zero most l, fun j h => by omega⟩
theorem FitR.next {most : Int} {l : List Int} {k : Nat} (h : FitR most l k) (h0 : l.getD k 0 ≠ 0) (h1 : -most ≤ l.getD k 0) (h2 : l.getD k 0 ≤ most) (h3 : 0 < k → l.getD k 0 ≠ -(l.getD (k - 1) 0)) : FitR most l (k + 1) :=
  ⟨h.1.next h0 h1 h2, fun j hj => by
    by_cases e : j + 1 = k
    · have := h3 (by omega)
      rw [show j = k - 1 by omega, show k - 1 + 1 = k by omega]
      exact this
    · exact h.2 j (by omega)⟩
theorem FitR.all {most : Int} {l : List Int} (h : FitR most l l.length) (h120 : l.length ≤ 120) : isR most l = true := isR_yes (isW_yes h120 h.1) h.2
theorem isR_long {most : Int} {l : List Int} (h : ¬ l.length ≤ 120) : isR most l = false := isR_noW (isW_long h)
theorem isR_badL {most : Int} {l : List Int} {k : Nat} (hk : k < l.length) (h : ¬ (l.getD k 0 ≠ 0 ∧ -most ≤ l.getD k 0 ∧ l.getD k 0 ≤ most)) : isR most l = false := isR_noW (isW_bad hk h)
/-- A presentation is valid. -/
def isP (r : Int) (zss : List (List Int)) : Bool := decide (0 ≤ r ∧ r ≤ 24 ∧ zss.length ≤ 48 ∧ ∀ z ∈ zss, isR r z = true)
theorem isP_iff {r : Int} {zss : List (List Int)} : isP r zss = true ↔ 0 ≤ r ∧ r ≤ 24 ∧ zss.length ≤ 48 ∧ ∀ z ∈ zss, isR r z = true := by simp [isP]
theorem isP_no {r : Int} {zss : List (List Int)} (h : ¬ (0 ≤ r ∧ r ≤ 24 ∧ zss.length ≤ 48)) : isP r zss = false := by
  simp only [isP, decide_eq_false_iff_not]
  exact fun h' => h ⟨h'.1, h'.2.1, h'.2.2.1⟩
theorem isP_row {r : Int} {zss : List (List Int)} {z : List Int} (hz : z ∈ zss) (h : isR r z = false) : isP r zss = false := by
  simp only [isP, decide_eq_false_iff_not]
  exact fun h' => by rw [h'.2.2.2 z hz] at h; cases h
end Wd
theorem vals_mem {rs : List Rw} {j : Nat} (h : j < rs.length) : (rs.getD j nilRw).zs ∈ vals rs := List.mem_map_of_mem (getD_mem h)
/-- The first k relators are fit. -/
def FitP (r : Int) (rs : List Rw) (k : Nat) : Prop := ∀ j, j < k → Wd.isR r (rs.getD j nilRw).zs = true
theorem FitP.zero (r : Int) (rs : List Rw) : FitP r rs 0 := fun j h => by omega
theorem FitP.next {r : Int} {rs : List Rw} {k : Nat} (h : FitP r rs k) (hk : Wd.isR r (rs.getD k nilRw).zs = true) : FitP r rs (k + 1) := fun j hj => by
  by_cases e : j = k
  · subst e; exact hk
  · exact h j (by omega)
theorem FitP.all {r : Int} {rs : List Rw} {n : Nat} (h : FitP r rs n) (hn : rs.length = n) (h0 : 0 ≤ r) (h1 : r ≤ 24) (h2 : n ≤ 48) : Wd.isP r (vals rs) = true :=
  Wd.isP_iff.2 ⟨h0, h1, by rw [vals_len, hn]; exact h2, fun z hz => by
    obtain ⟨q, hq, rfl⟩ := List.mem_map.1 hz
    obtain ⟨j, hj, rfl⟩ := List.mem_iff_getElem.1 hq
    have := h j (by omega)
    rwa [List.getD_eq_getElem?_getD, List.getElem?_eq_getElem hj] at this⟩

/-- A truth value; the world has at most drawn. -/
def ResQ (w : World) (b : Bool) (e : Ending) (w' : World) : Prop := e = .returned (.bool b) ∧ ∃ m, w' = w.drewN m
theorem drewN_more {w V : World} (h : ∃ m, V = w.drewN m) (k : Nat) : ∃ m, V.drewN k = w.drewN m := by
  obtain ⟨m, rfl⟩ := h
  exact ⟨m + k, by rw [World.drewN_drewN]⟩

end Go.Proofs.YtajbahfbldmckaaDoor
