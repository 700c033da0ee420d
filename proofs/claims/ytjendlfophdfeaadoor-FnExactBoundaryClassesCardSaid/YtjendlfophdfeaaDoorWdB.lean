/- Which lists are words: the program's isWordUpTo and IsWord, and the specification's IsWord. No condition but those that each theorem names. -/
import Derived.Test.YtjendlfophdfeaaDoorWdA
import Derived.Test.YtjendlfophdfeaaDoorGrpL
import Derived.Laws.AppendOwn
import Derived.Laws.OwnMore
namespace Go.Proofs.YtjendlfophdfeaaDoor
open Go.RowKit

namespace Wd
/-- The first k letters are fit. -/
def Fit (most : Int) (l : List Int) (k : Nat) : Prop := ∀ j, j < k → l.getD j 0 ≠ 0 ∧ -most ≤ l.getD j 0 ∧ l.getD j 0 ≤ most
theorem Fit.zero (most : Int) (l : List Int) : Fit most l 0 := fun j h => by omega
theorem Fit.next {most : Int} {l : List Int} {k : Nat} (h : Fit most l k) (h0 : l.getD k 0 ≠ 0) (h1 : -most ≤ l.getD k 0) (h2 : l.getD k 0 ≤ most) : Fit most l (k + 1) := fun j hj => by
  by_cases e : j = k
  · subst e; exact ⟨h0, h1, h2⟩
  · exact h j (by omega)
theorem Fit.iff (most : Int) (l : List Int) : Fit most l l.length ↔ ∀ x ∈ l, x ≠ 0 ∧ -most ≤ x ∧ x ≤ most := by
  constructor
  · intro h x hx
    obtain ⟨i, hi, rfl⟩ := List.mem_iff_getElem.1 hx
    have := h i hi
    rwa [List.getD_eq_getElem?_getD, List.getElem?_eq_getElem hi] at this
  · intro h j hj
    rw [List.getD_eq_getElem?_getD, List.getElem?_eq_getElem hj]
    exact h _ (List.getElem_mem hj)
theorem isW_yes {most : Int} {l : List Int} (h : l.length ≤ 120) (hf : Fit most l l.length) : isW most l = true := by
  simp only [isW, decide_eq_true_eq]
  exact ⟨h, (Fit.iff most l).1 hf⟩
theorem isW_long {most : Int} {l : List Int} (h : ¬ l.length ≤ 120) : isW most l = false := by
  simp only [isW, decide_eq_false_iff_not]
  exact fun h' => h h'.1
theorem isW_bad {most : Int} {l : List Int} {k : Nat} (hk : k < l.length) (h : ¬ (l.getD k 0 ≠ 0 ∧ -most ≤ l.getD k 0 ∧ l.getD k 0 ≤ most)) : isW most l = false := by
  simp only [isW, decide_eq_false_iff_not]
  exact fun h' => h ((Fit.iff most l).2 h'.2 k hk)
theorem isW_fit {most : Int} {l : List Int} (h : isW most l = true) : l.length ≤ 120 ∧ Fit most l l.length := by
  simp only [isW, decide_eq_true_eq] at h
  exact ⟨h.1, (Fit.iff most l).2 h.2⟩
end Wd

/-- A truth value; nothing that was there has changed. -/
def ResB (w : World) (b : Bool) (e : Ending) (w' : World) : Prop := e = .returned (.bool b) ∧ Below w.heap.size w w'
/-- A truth value; the world is the same. -/
def ResW (w : World) (b : Bool) (e : Ending) (w' : World) : Prop := e = .returned (.bool b) ∧ w = w'
/-- A list in memory of its own. -/
def ResLM (w : World) (l : List Int) (e : Ending) (w' : World) : Prop := ∃ A c, e = .returned (.slice A l.length c) ∧ (l.length ≤ c ∧ c ≤ maxLen) ∧ Mine w' w.heap.size w'.heap.size A l.length l ∧ Below w.heap.size w w'
theorem ret_b {a b : Bool} (h : b = a) : Ending.returned (.bool a) = .returned (.bool b) := by rw [h]

end Go.Proofs.YtjendlfophdfeaaDoor
