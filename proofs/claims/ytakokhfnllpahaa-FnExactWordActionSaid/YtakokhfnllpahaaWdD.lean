/- FreeReduce, InvertWord and CyclicReduce, the program's and the specification's. No condition but those that each theorem names. -/
import Derived.Test.YtakokhfnllpahaaWdC
namespace Go.Proofs.Ytakokhfnllpahaa
open Go.RowKit

theorem ResLM.nil (w : World) {W : World} (A : Option Addr) (hb : Below w.heap.size w W) : ResLM w [] (.returned (.slice A 0 0)) W := ⟨A, 0, rfl, ⟨Nat.le_refl _, Nat.zero_le _⟩, Mine.none_ _ _ _ _, hb⟩
/-- What is handed back for a list that is perhaps no word. -/
def Wd.ifW (l r : List Int) : List Int := if isW 24 l = true then r else []
theorem Wd.ifW_yes {l r : List Int} (h : isW 24 l = true) : ifW l r = r := if_pos h
theorem Wd.ifW_no {l r : List Int} (h : isW 24 l = false) : ifW l r = [] := if_neg (by rw [h]; simp)
theorem Wd.ifW_len {l r : List Int} (h : r.length ≤ l.length) : (ifW l r).length ≤ l.length := by
  unfold ifW
  split
  · exact h
  · simp

/-- How long a slice is. -/
def lenOf (v : Value) : Int := match v with | .slice _ n _ => (n : Int) | _ => 0
/-- A list from which ends are taken off: a part of memory of the call's own. -/
def CyS (w : World) (zs : List Int) (out : Value) (W : World) : Prop :=
  ∃ (A : Option Addr) (l : List Int) (c : Nat), out = .slice A l.length c ∧ l.length ≤ c ∧ c ≤ maxLen ∧ l.length ≤ 120 ∧ Wd.Sm l ∧ Mine W w.heap.size W.heap.size A l.length l ∧ Wd.cyc l = Wd.cyc (Wd.rd zs) ∧ Below w.heap.size w W
theorem Wd.mid_cut (l : List Int) (h : 1 < l.length) : l.tail.dropLast = Lau.cut l 1 (l.length - 1) := by
  have e : 1 + (l.length - 1 - 1) = l.length - 1 := by omega
  rw [Lau.cut, List.dropLast_eq_take, List.length_tail, ← List.drop_one, List.take_drop, e]
theorem Wd.cut_sm {l : List Int} (h : Sm l) (i j : Nat) : Sm (Lau.cut l i j) := fun x hx => h x (List.mem_of_mem_take (List.mem_of_mem_drop hx))

theorem al1d (w : World) (n : Nat) (o : Obj) : Below w.heap.size w ((w.drewN n).alloc o) := (Go.Joins.below_draws w.heap.size w n).trans (al1 (w.drewN n) o)
/-- A list that has been appended to an empty one. -/
theorem ResLM.push {w W : World} {lo c : Nat} {A : Option Addr} {l : List Int} (hb : Below w.heap.size w W) (h : Own W lo W.heap.size A (0 + l.length) c ([] ++ l)) (hlo : w.heap.size ≤ lo) : ResLM w l (.returned (.slice A l.length c)) W := by
  rw [Nat.zero_add, List.nil_append] at h
  exact ⟨A, c, rfl, Wd.own_caps h, h.mine.wide hlo (Nat.le_refl _), hb⟩

end Go.Proofs.Ytakokhfnllpahaa
