/- Permutations of small degree as lists, and how words act. No condition but those that each theorem names. -/
import Derived.Test.YtajbahfbldmckaaDoorWdP
namespace Go.Proofs.YtajbahfbldmckaaDoor
open Go.RowKit
namespace Rp

/-- A permutation of degree n. -/
def Pm (n : Int) (z : List Int) : Prop := (z.length : Int) = n ∧ ∀ i, i < z.length → (0 ≤ z.getD i 0 ∧ z.getD i 0 < n) ∧ ∀ j, j < i → z.getD j 0 ≠ z.getD i 0
instance (n : Int) (z : List Int) : Decidable (Pm n z) := inferInstanceAs (Decidable ((z.length : Int) = n ∧ ∀ i, i < z.length → (0 ≤ z.getD i 0 ∧ z.getD i 0 < n) ∧ ∀ j, j < i → z.getD j 0 ≠ z.getD i 0))
def arePm (n : Int) (zss : List (List Int)) : Bool := decide ((1 ≤ n ∧ n ≤ 4) ∧ ∀ z ∈ zss, Pm n z)
theorem arePm_iff {n : Int} {zss : List (List Int)} : arePm n zss = true ↔ (1 ≤ n ∧ n ≤ 4) ∧ ∀ z ∈ zss, Pm n z := by simp [arePm]
theorem Pm.inj {n : Int} {z : List Int} (h : Pm n z) {i j : Nat} (hi : i < z.length) (hj : j < z.length) (e : z.getD i 0 = z.getD j 0) : i = j := by
  rcases Nat.lt_trichotomy i j with h1 | h1 | h1
  · exact absurd e ((h.2 j hj).2 i h1)
  · exact h1
  · exact absurd e.symm ((h.2 i hi).2 j h1)

theorem filter_len {l : List Int} {a : Int} (h : l.Nodup) : l.length ≤ (l.filter fun x => decide (x ≠ a)).length + 1 := by
  induction l with
  | nil => simp
  | cons x l ih =>
    rw [List.nodup_cons] at h
    by_cases e : x = a
    · subst e
      have : (l.filter fun y => decide (y ≠ x)) = l := List.filter_eq_self.2 fun y hy => by simp; exact fun e => h.1 (e ▸ hy)
      rw [List.filter_cons]
      simp only [ne_eq, not_true_eq_false, decide_false, Bool.false_eq_true, if_false]
      rw [this]
      simp
    · rw [List.filter_cons, if_pos (by simpa using e)]
      have := ih h.2
      simp at this ⊢
      omega
theorem pigeon : ∀ (n : Nat) (l : List Int), l.Nodup → (∀ x ∈ l, 0 ≤ x ∧ x < n) → l.length ≤ n
  | 0, l, _, h => by
    cases l with
    | nil => simp
    | cons x l => have := h x (List.mem_cons_self ..); omega
  | n + 1, l, hd, h => by
    have h1 := filter_len (a := (n : Int)) hd
    have h2 := pigeon n (l.filter fun x => decide (x ≠ (n : Int))) (hd.filter _) fun x hx => by
      obtain ⟨hx1, hx2⟩ := List.mem_filter.1 hx
      have := h x hx1
      simp at hx2
      omega
    omega
theorem Pm.nodup {n : Int} {z : List Int} (h : Pm n z) : z.Nodup := by
  unfold List.Nodup
  rw [List.pairwise_iff_getElem]
  intro i j hi hj hij
  have := (h.2 j hj).2 i hij
  rw [List.getD_eq_getElem?_getD, List.getD_eq_getElem?_getD, List.getElem?_eq_getElem hi, List.getElem?_eq_getElem hj] at this
  simpa using this
theorem Pm.mem {n : Int} {z : List Int} (h : Pm n z) {y : Int} (h0 : 0 ≤ y) (h1 : y < n) : y ∈ z := by
  refine Decidable.byContradiction fun hn => ?_
  have hb : ∀ x ∈ z, 0 ≤ x ∧ x < n := fun x hx => by
    obtain ⟨i, hi, rfl⟩ := List.mem_iff_getElem.1 hx
    have := (h.2 i hi).1
    rw [List.getD_eq_getElem?_getD, List.getElem?_eq_getElem hi] at this
    simpa using this
  have := pigeon z.length (y :: z) (List.nodup_cons.2 ⟨hn, h.nodup⟩) fun x hx => by
    rcases List.mem_cons.1 hx with rfl | hx
    · exact ⟨h0, by rw [h.1]; exact h1⟩
    · have := hb x hx; rw [h.1]; exact this
  simp at this
  omega
/-- Where a permutation has a number. -/
def at_ (z : List Int) (y : Int) : Nat := z.findIdx fun x => decide (x = y)
theorem at_lt {z : List Int} {y : Int} (h : y ∈ z) : at_ z y < z.length := List.findIdx_lt_length_of_exists ⟨y, h, by simp⟩
theorem at_val {z : List Int} {y : Int} (h : y ∈ z) : z.getD (at_ z y) 0 = y := by
  have := List.findIdx_getElem (xs := z) (p := fun x => decide (x = y)) (w := at_lt h)
  rw [List.getD_eq_getElem?_getD, List.getElem?_eq_getElem (at_lt h)]
  unfold at_
  simpa using this
theorem at_no {z : List Int} {y : Int} {j : Nat} (h : j < at_ z y) : z.getD j 0 ≠ y := by
  have hl : at_ z y ≤ z.length := List.findIdx_le_length
  have := List.not_of_lt_findIdx h
  rw [List.getD_eq_getElem?_getD, List.getElem?_eq_getElem (by omega)]
  simpa using this
theorem at_of {n : Int} {z : List Int} (h : Pm n z) {i : Nat} (hi : i < z.length) : at_ z (z.getD i 0) = i := by
  have hm : z.getD i 0 ∈ z := by rw [List.getD_eq_getElem?_getD, List.getElem?_eq_getElem hi]; exact List.getElem_mem _
  exact h.inj (at_lt hm) hi (at_val hm)

/-- The number to which a letter maps a number. -/
def act (zss : List (List Int)) (g x : Int) : Int := if 0 < g then (zss.getD (g - 1).toNat []).getD x.toNat 0 else (at_ (zss.getD (-g - 1).toNat []) x : Int)
/-- The number to which a word maps a number. -/
def run (zss : List (List Int)) (w : List Int) (x : Int) : Int := w.foldl (fun x g => act zss g x) x
/-- The letters of a word have permutations. -/
def Fits (m : Nat) (w : List Int) : Prop := ∀ g ∈ w, g ≠ 0 ∧ -(m : Int) ≤ g ∧ g ≤ m
theorem act_in {n : Int} {zss : List (List Int)} {g x : Int} (h : ∀ z ∈ zss, Pm n z) (hg0 : g ≠ 0) (hg1 : -(zss.length : Int) ≤ g) (hg2 : g ≤ zss.length) (h0 : 0 ≤ x) (h1 : x < n) : 0 ≤ act zss g x ∧ act zss g x < n := by
  have key : ∀ i : Nat, i < zss.length → Pm n (zss.getD i []) := fun i hi => by
    rw [List.getD_eq_getElem?_getD, List.getElem?_eq_getElem hi]
    exact h _ (List.getElem_mem _)
  unfold act
  split
  · have hz := key (g - 1).toNat (by omega)
    exact (hz.2 x.toNat (by have := hz.1; omega)).1
  · have hz := key (-g - 1).toNat (by omega)
    have := at_lt (hz.mem h0 h1)
    have := hz.1
    omega
theorem run_snoc (zss : List (List Int)) (w : List Int) (g x : Int) : run zss (w ++ [g]) x = act zss g (run zss w x) := by simp [run]
theorem run_inside {n : Int} {zss : List (List Int)} {w : List Int} {x : Int} (h : ∀ z ∈ zss, Pm n z) (hw : Fits zss.length w) (h0 : 0 ≤ x) (h1 : x < n) : 0 ≤ run zss w x ∧ run zss w x < n := by
  induction w using Wd.snoc_ind with
  | h0 => exact ⟨h0, h1⟩
  | h1 l g ih =>
    rw [run_snoc]
    have hg := hw g (by simp)
    have := ih fun y hy => hw y (by simp [hy])
    exact act_in h hg.1 hg.2.1 hg.2.2 this.1 this.2
theorem Fits.take {m : Nat} {w : List Int} (h : Fits m w) (k : Nat) : Fits m (w.take k) := fun g hg => h g (List.mem_of_mem_take hg)
end Rp
end Go.Proofs.YtajbahfbldmckaaDoor
