/- Tietze moves on lists of relators: what each makes. No condition but those that each theorem names. -/
import Derived.Test.YtjommpdblbbkdaaWdA
namespace Go.Proofs.Ytjommpdblbbkdaa
namespace Wd

theorem step_map {f : Int → Int} {l : List Int} {x : Int} (hodd : ∀ y, f (-y) = -f y) (hinj : ∀ y ∈ l, f y = f (-x) → y = -x) : step (l.map f) (f x) = (step l x).map f := by
  rcases step_or l x with ⟨u, rfl⟩ | hx
  · rw [step_snoc, List.map_append, List.map_singleton, hodd]
    exact step_snoc _ _
  · rw [step_app hx, List.map_append]
    refine step_app fun v e => ?_
    rcases List.eq_nil_or_concat l with rfl | ⟨u, y, rfl⟩
    · simp at e
    · rw [List.concat_eq_append, List.map_append] at e
      have e2 := (List.append_inj' e rfl).2
      simp at e2
      have hy := hinj y (by simp) (by rw [hodd]; exact e2)
      exact hx u (by rw [List.concat_eq_append, hy])
/-- An odd map that is one to one on the letters of a list commutes with reduction. -/
theorem rd_map {f : Int → Int} (hodd : ∀ y, f (-y) = -f y) (l : List Int) (hinj : ∀ x ∈ l, ∀ y ∈ l, f y = f (-x) → y = -x) : rd (l.map f) = (rd l).map f := by
  induction l using snoc_ind with
  | h0 => rfl
  | h1 l x ih =>
    rw [List.map_append, List.map_singleton, rd_snoc, rd_snoc, ih (fun a ha b hb => hinj a (by simp [ha]) b (by simp [hb]))]
    exact step_map hodd fun y hy => hinj x (by simp) y (by have := rd_mem l y hy; simp [this])

/-- Letters beyond a generator move up by one place. -/
def ren (g x : Int) : Int := if x > g then x - 1 else if x < -g then x + 1 else x
theorem ren_odd {g : Int} (hg : 0 < g) (x : Int) : ren g (-x) = -ren g x := by
  unfold ren; split <;> split <;> (try split) <;> (try split) <;> omega
theorem ren_inj {g : Int} (hg : 0 < g) {x y : Int} (hx : x ≠ g ∧ x ≠ -g) (hy : y ≠ g ∧ y ≠ -g) (h : ren g y = ren g (-x)) : y = -x := by
  rw [ren_odd hg] at h
  unfold ren at h
  split at h <;> split at h <;> (try split at h) <;> (try split at h) <;> omega
/-- A generator and its inverse replaced. -/
def sub (g : Int) (by_ : List Int) (l : List Int) : List Int := l.flatMap fun x => if x = g then by_ else if x = -g then inv by_ else [x]
theorem sub_nil (g : Int) (b : List Int) : sub g b [] = [] := rfl
theorem sub_snoc (g : Int) (b l : List Int) (x : Int) : sub g b (l ++ [x]) = sub g b l ++ (if x = g then b else if x = -g then inv b else [x]) := by simp [sub]
theorem sub_mem {g : Int} {b l : List Int} {y : Int} (h : y ∈ sub g b l) : y ∈ b ∨ -y ∈ b ∨ (y ∈ l ∧ y ≠ g ∧ y ≠ -g) := by
  obtain ⟨x, hx, hy⟩ := List.mem_flatMap.1 h
  split at hy
  · exact .inl hy
  · split at hy
    · exact .inr (.inl (inv_mem hy))
    · simp at hy; subst hy
      exact .inr (.inr ⟨hx, by assumption, by assumption⟩)
theorem sub_len (g : Int) (b l : List Int) : (sub g b l).length ≤ l.length * (b.length + 1) := by
  induction l with
  | nil => simp [sub]
  | cons x l ih =>
    have e : sub g b (x :: l) = (if x = g then b else if x = -g then inv b else [x]) ++ sub g b l := by simp [sub]
    have h1 : (if x = g then b else if x = -g then inv b else [x]).length ≤ b.length + 1 := by
      split
      · omega
      · split
        · rw [inv_len]; omega
        · simp
    rw [e, List.length_append, List.length_cons, Nat.add_mul]
    omega
/-- A relator behind the removal of a generator. -/
def put (g : Int) (b l : List Int) : List Int := rd ((sub g b l).map (ren g))
theorem put_eq {g : Int} (hg : 0 < g) {b : List Int} (hb : ∀ x ∈ b, x ≠ g ∧ x ≠ -g) (l : List Int) : (rd (sub g b l)).map (ren g) = put g b l := by
  unfold put
  refine (rd_map (ren_odd hg) _ fun x hx y hy h => ?_).symm
  have hne : ∀ z ∈ sub g b l, z ≠ g ∧ z ≠ -g := fun z hz => by
    rcases sub_mem hz with h | h | h
    · exact hb z h
    · have := hb _ h; omega
    · exact h.2
  exact ren_inj hg (hne x hx) (hne y hy) h
/-- How often a generator or its inverse occurs. -/
def occ (g : Int) (l : List Int) : Nat := l.countP fun x => decide (x = g ∨ x = -g)
/-- The place of a generator or its inverse. -/
def place (g : Int) (l : List Int) : Nat := l.findIdx fun x => decide (x = g ∨ x = -g)
/-- What a relator says that a generator is. -/
def solve (g : Int) (l : List Int) : List Int :=
  if l.getD (place g l) 0 = g then inv (l.drop (place g l + 1) ++ l.take (place g l)) else l.drop (place g l + 1) ++ l.take (place g l)
theorem place_lt {g : Int} {l : List Int} (h : 0 < occ g l) : place g l < l.length := by
  unfold place
  rw [List.findIdx_lt_length]
  obtain ⟨x, hx, hp⟩ := List.countP_pos_iff.1 h
  exact ⟨x, hx, hp⟩
theorem place_at {g : Int} {l : List Int} (h : 0 < occ g l) : l.getD (place g l) 0 = g ∨ l.getD (place g l) 0 = -g := by
  have hlt := place_lt h
  have := List.findIdx_getElem (p := fun x => decide (x = g ∨ x = -g)) (w := hlt)
  rw [List.getD_eq_getElem?_getD, List.getElem?_eq_getElem hlt]
  exact of_decide_eq_true this
theorem place_no {g : Int} {l : List Int} {j : Nat} (h : j < place g l) : ¬ (l.getD j 0 = g ∨ l.getD j 0 = -g) := by
  have hlt : j < l.length := Nat.lt_of_lt_of_le h List.findIdx_le_length
  have := List.not_of_lt_findIdx h
  rw [List.getD_eq_getElem?_getD, List.getElem?_eq_getElem hlt]
  simpa using this
theorem solve_ne {g : Int} {l : List Int} (h : occ g l = 1) : ∀ x ∈ solve g l, x ≠ g ∧ x ≠ -g := by
  have h0 : 0 < occ g l := by omega
  have hlt := place_lt h0
  have hsplit : l = l.take (place g l) ++ l.getD (place g l) 0 :: l.drop (place g l + 1) := by
    conv => lhs; rw [← List.take_append_drop (place g l) l, List.drop_eq_getElem_cons hlt]
    rw [List.getD_eq_getElem?_getD, List.getElem?_eq_getElem hlt]; rfl
  have hc : occ g (l.take (place g l)) + (1 + occ g (l.drop (place g l + 1))) = 1 := by
    have e := congrArg (occ g) hsplit
    rw [h] at e
    have hat := place_at h0
    have ha : decide (l.getD (place g l) 0 = g ∨ l.getD (place g l) 0 = -g) = true := by simpa using hat
    unfold occ at e ⊢
    rw [List.countP_append, List.countP_cons, ha] at e
    simp only [if_true] at e
    omega
  have hne : ∀ x ∈ l.drop (place g l + 1) ++ l.take (place g l), x ≠ g ∧ x ≠ -g := fun x hx => by
    have key : ∀ t : List Int, occ g t = 0 → ∀ x ∈ t, x ≠ g ∧ x ≠ -g := fun t ht x hx => by
      have := List.countP_eq_zero.1 ht x hx
      simp at this
      exact this
    rcases List.mem_append.1 hx with hx | hx
    · exact key _ (by omega) x hx
    · exact key _ (by omega) x hx
  intro x hx
  unfold solve at hx
  split at hx
  · have := hne _ (inv_mem hx); omega
  · exact hne _ hx
theorem occ_count {g : Int} (hg : 0 < g) (l : List Int) : occ g l = l.count g + l.count (-g) := by
  induction l with
  | nil => rfl
  | cons x l ih =>
    unfold occ at ih ⊢
    rw [List.countP_cons, ih, List.count_cons, List.count_cons]
    by_cases h1 : x = g
    · subst h1
      have : (x == -x) = false := by simp; omega
      simp [this]; omega
    · by_cases h2 : x = -g
      · have : (x == g) = false := by simpa using h1
        subst h2
        simp [this]; omega
      · have e1 : (x == g) = false := by simpa using h1
        have e2 : (x == -g) = false := by simpa using h2
        simp [e1, e2, h1, h2]

/-- By places: no letter is next to its negative. -/
theorem red_of_places {l : List Int} (h : ∀ j, j < l.length - 1 → l.getD (j + 1) 0 ≠ -(l.getD j 0)) : Red l := fun a b u v e => by
  have hl : l.length = u.length + (v.length + 1 + 1) := by rw [e]; simp
  have := h u.length (by omega)
  rw [e] at this
  simpa using this
theorem red_inv {l : List Int} (h : Red l) : Red (inv l) := fun a b u v e => by
  have e2 : l = inv v ++ -b :: -a :: inv u := by
    have := congrArg inv e
    rw [inv_inv] at this
    rw [this]
    simp [inv]
  have := h _ _ _ _ e2
  omega
theorem rd_inv_red {l : List Int} (h : Red l) : rd (inv l) = inv l := rd_of_red _ (red_inv h)

end Wd
end Go.Proofs.Ytjommpdblbbkdaa
