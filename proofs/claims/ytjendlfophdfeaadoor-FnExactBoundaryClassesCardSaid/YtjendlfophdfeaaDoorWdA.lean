/- Words as lists of letters: reduced forms, inverses, cyclically reduced forms and the theory of the free group that the law of words asks. No condition but those that each theorem names. -/
import Derived.Test.YtjendlfophdfeaaDoorRows
namespace Go.Proofs.YtjendlfophdfeaaDoor
namespace Wd

/-- One letter behind a reduced word. -/
def step (out : List Int) (x : Int) : List Int := if out.getLast? = some (-x) then out.dropLast else out ++ [x]
/-- The reduced form. -/
def rd (l : List Int) : List Int := l.foldl step []
/-- No letter is next to its negative. -/
def Red (l : List Int) : Prop := ∀ a b u v, l = u ++ a :: b :: v → b ≠ -a
/-- The inverse. -/
def inv (l : List Int) : List Int := l.reverse.map (- ·)

theorem rd_nil : rd [] = [] := rfl
theorem rd_snoc (l : List Int) (x : Int) : rd (l ++ [x]) = step (rd l) x := by simp [rd]
theorem take_snoc (l : List Int) {k : Nat} (h : k < l.length) : l.take (k + 1) = l.take k ++ [l.getD k 0] := by
  rw [List.take_succ_eq_append_getElem h, List.getD_eq_getElem?_getD, List.getElem?_eq_getElem h]; rfl
theorem rd_take (l : List Int) {k : Nat} (h : k < l.length) : rd (l.take (k + 1)) = step (rd (l.take k)) (l.getD k 0) := by rw [take_snoc l h, rd_snoc]
theorem step_mem {out : List Int} {x y : Int} (h : y ∈ step out x) : y ∈ out ∨ y = x := by
  unfold step at h
  split at h
  · exact .inl (List.dropLast_subset _ h)
  · simpa using h
theorem snoc_ind {P : List Int → Prop} (h0 : P []) (h1 : ∀ l x, P l → P (l ++ [x])) (l : List Int) : P l := by
  rw [← List.reverse_reverse l]
  induction l.reverse with
  | nil => exact h0
  | cons x r ih => rw [List.reverse_cons]; exact h1 _ _ ih
theorem rd_mem (l : List Int) : ∀ y, y ∈ rd l → y ∈ l := by
  induction l using snoc_ind with
  | h0 => intro y h; exact h
  | h1 l x ih =>
    intro y h
    rw [rd_snoc] at h
    rcases step_mem h with h | h
    · exact List.mem_append.2 (.inl (ih y h))
    · simp [h]
theorem step_len (out : List Int) (x : Int) : (step out x).length ≤ out.length + 1 := by
  unfold step; split <;> simp; omega
theorem rd_len (l : List Int) : (rd l).length ≤ l.length := by
  induction l using snoc_ind with
  | h0 => exact Nat.le_refl _
  | h1 l x ih => rw [rd_snoc, List.length_append]; have := step_len (rd l) x; simp; omega
theorem step_yes {out : List Int} {x : Int} (h0 : 0 < out.length) (h : out.getD (out.length - 1) 0 = -x) : step out x = out.take (out.length - 1) := by
  have : out.getLast? = some (-x) := by
    rw [List.getLast?_eq_getElem?, List.getElem?_eq_getElem (by omega), ← h, List.getD_eq_getElem?_getD, List.getElem?_eq_getElem (by omega)]; rfl
  rw [step, if_pos this, List.dropLast_eq_take]
theorem step_no {out : List Int} {x : Int} (h : 0 < out.length → out.getD (out.length - 1) 0 ≠ -x) : step out x = out ++ [x] := by
  rw [step, if_neg]
  intro e
  rcases Nat.eq_zero_or_pos out.length with h0 | h0
  · rw [List.length_eq_zero_iff.1 h0] at e; simp at e
  · apply h h0
    rw [List.getLast?_eq_getElem?] at e
    rw [List.getD_eq_getElem?_getD, e]; rfl

theorem Red.nil : Red [] := fun a b u v h => by cases u <;> simp at h
theorem Red.one (x : Int) : Red [x] := fun a b u v h => by
  cases u with
  | nil => simp at h
  | cons y u => cases u <;> simp at h
theorem Red.left {u v : List Int} (h : Red (u ++ v)) : Red u := fun a b s t e => h a b s (t ++ v) (by rw [e]; simp)
theorem Red.right {u v : List Int} (h : Red (u ++ v)) : Red v := fun a b s t e => h a b (u ++ s) t (by rw [e]; simp)
theorem Red.tail {x : Int} {v : List Int} (h : Red (x :: v)) : Red v := Red.right (u := [x]) h
theorem Red.snoc {l : List Int} (h : Red l) {x : Int} (hx : ∀ y u, l = u ++ [y] → x ≠ -y) : Red (l ++ [x]) := fun a b u v e => by
  rcases List.eq_nil_or_concat v with rfl | ⟨v', z, rfl⟩
  · have e' : l ++ [x] = (u ++ [a]) ++ [b] := by rw [e]; simp
    obtain ⟨h1, h2⟩ := List.append_inj' e' rfl
    simp at h2
    rw [← h2]
    exact hx a u h1
  · have e' : l ++ [x] = (u ++ a :: b :: v') ++ [z] := by rw [e]; simp
    obtain ⟨h1, _⟩ := List.append_inj' e' rfl
    exact h a b u v' h1
theorem Red.cons {l : List Int} (h : Red l) {x : Int} (hx : ∀ y v, l = y :: v → y ≠ -x) : Red (x :: l) := fun a b u v e => by
  cases u with
  | nil => simp at e; rw [e.1] at hx; exact hx b v e.2
  | cons z u => simp at e; exact h a b u v e.2
theorem getLast?_some {l : List Int} {y : Int} (h : l.getLast? = some y) : ∃ u, l = u ++ [y] := by
  rcases List.eq_nil_or_concat l with rfl | ⟨u, z, rfl⟩
  · simp at h
  · simp at h; exact ⟨u, by simp [h]⟩
theorem step_snoc (u : List Int) (x : Int) : step (u ++ [-x]) x = u := by simp [step]
theorem step_app {l : List Int} {x : Int} (hx : ∀ u, l ≠ u ++ [-x]) : step l x = l ++ [x] := by
  rw [step, if_neg]
  intro e
  obtain ⟨u, hu⟩ := getLast?_some e
  exact hx u hu
theorem step_or (l : List Int) (x : Int) : (∃ u, l = u ++ [-x]) ∨ (∀ u, l ≠ u ++ [-x]) := by
  by_cases h : ∃ u, l = u ++ [-x]
  · exact .inl h
  · exact .inr fun u e => h ⟨u, e⟩
theorem step_red {l : List Int} (h : Red l) (x : Int) : Red (step l x) := by
  rcases step_or l x with ⟨u, rfl⟩ | hx
  · rw [step_snoc]; exact h.left
  · rw [step_app hx]
    exact h.snoc fun y u e he => hx u (by rw [e, he]; simp)
theorem rd_red (l : List Int) : Red (rd l) := by
  induction l using snoc_ind with
  | h0 => exact Red.nil
  | h1 l x ih => rw [rd_snoc]; exact step_red ih x
theorem rd_of_red (l : List Int) : Red l → rd l = l := by
  induction l using snoc_ind with
  | h0 => intro _; rfl
  | h1 l x ih =>
    intro h
    rw [rd_snoc, ih h.left]
    refine step_app fun u e => ?_
    exact h (-x) x u [] (by rw [e]; simp) (by omega)
theorem rd_rd (l : List Int) : rd (rd l) = rd l := rd_of_red _ (rd_red l)
/-- A letter and its negative behind a reduced word change nothing. -/
theorem step_step {l : List Int} (h : Red l) (x : Int) : step (step l x) (-x) = l := by
  rcases step_or l x with ⟨u, rfl⟩ | hx
  · rw [step_snoc]
    refine step_app fun v e => ?_
    rw [Int.neg_neg] at e
    exact h x (-x) v [] (by rw [e]; simp) rfl
  · rw [step_app hx]
    have := step_snoc l (-x)
    rwa [Int.neg_neg] at this
theorem step_step' {l : List Int} (h : Red l) (x : Int) : step (step l (-x)) x = l := by
  have := step_step h (-x)
  rwa [Int.neg_neg] at this
theorem act_red (l : List Int) : ∀ {out : List Int}, Red out → Red (l.foldl step out) := by
  induction l with
  | nil => intro _ h; exact h
  | cons x l ih => intro _ h; exact ih (step_red h x)
theorem inv_cons (x : Int) (l : List Int) : inv (x :: l) = inv l ++ [-x] := by simp [inv]
theorem inv_inv (l : List Int) : inv (inv l) = l := by
  have e : (Neg.neg ∘ Neg.neg : Int → Int) = id := by funext x; simp
  simp [inv, e]
theorem inv_len (l : List Int) : (inv l).length = l.length := by simp [inv]
theorem inv_mem {l : List Int} {x : Int} (h : x ∈ inv l) : -x ∈ l := by
  simp [inv] at h
  obtain ⟨a, h1, h2⟩ := h
  have : -x = a := by omega
  rw [this]; exact h1
theorem act_inv (l : List Int) : ∀ {out : List Int}, Red out → (l ++ inv l).foldl step out = out := by
  induction l with
  | nil => intro _ _; rfl
  | cons x l ih =>
    intro out h
    rw [inv_cons, List.cons_append, ← List.append_assoc, List.foldl_cons, List.foldl_append, ih (step_red h x)]
    exact step_step h x
/-- A word times its inverse reduces to the empty word. -/
theorem rd_inv (l : List Int) : rd (l ++ inv l) = [] := act_inv l Red.nil
/-- What a word does to a reduced one is what its reduced form does. -/
theorem act_rd (l : List Int) : ∀ {out : List Int}, Red out → (rd l).foldl step out = l.foldl step out := by
  induction l using snoc_ind with
  | h0 => intro _ _; rfl
  | h1 l x ih =>
    intro out h
    rw [rd_snoc, List.foldl_append, ← ih h]
    rcases step_or (rd l) x with ⟨u, hu⟩ | hx
    · rw [hu, step_snoc, List.foldl_append]
      exact (step_step' (act_red u h) x).symm
    · rw [step_app hx, List.foldl_append]
theorem rd_app (u v : List Int) : rd (u ++ v) = v.foldl step (rd u) := by rw [rd, List.foldl_append]; rfl
theorem rd_left (u v : List Int) : rd (u ++ rd v) = rd (u ++ v) := by rw [rd_app, rd_app]; exact act_rd v (rd_red u)
theorem rd_right (u v : List Int) : rd (rd u ++ v) = rd (u ++ v) := by rw [rd_app, rd_app, rd_rd]

/-- The first and the last letter are removed as long as they are negatives of each other. -/
def cyc (l : List Int) : List Int := if 1 < l.length ∧ l.getD 0 0 = -(l.getD (l.length - 1) 0) then cyc (l.tail.dropLast) else l
termination_by l.length
decreasing_by simp; omega
theorem cyc_yes {l : List Int} (h : 1 < l.length ∧ l.getD 0 0 = -(l.getD (l.length - 1) 0)) : cyc l = cyc (l.tail.dropLast) := by rw [cyc, if_pos h]
theorem cyc_no {l : List Int} (h : ¬ (1 < l.length ∧ l.getD 0 0 = -(l.getD (l.length - 1) 0))) : cyc l = l := by rw [cyc, if_neg h]
theorem cyc_len (l : List Int) : (cyc l).length ≤ l.length := by
  by_cases h : 1 < l.length ∧ l.getD 0 0 = -(l.getD (l.length - 1) 0)
  · rw [cyc_yes h]
    have := cyc_len (l.tail.dropLast)
    simp at this
    omega
  · rw [cyc_no h]; exact Nat.le_refl _
termination_by l.length
decreasing_by simp; omega
theorem ends (x y : Int) (m : List Int) : (x :: (m ++ [y])).getD 0 0 = x ∧ (x :: (m ++ [y])).getD ((x :: (m ++ [y])).length - 1) 0 = y := by
  refine ⟨rfl, ?_⟩
  rw [show (x :: (m ++ [y])).length - 1 = m.length + 1 by simp]
  simp
theorem cyc_strip (x : Int) (m : List Int) : cyc (x :: (m ++ [-x])) = cyc m := by
  rw [cyc_yes]
  · simp
  · obtain ⟨h1, h2⟩ := ends x (-x) m
    rw [h1, h2]
    simp
theorem cyc_keep {x y : Int} {m : List Int} (h : x ≠ -y) : cyc (x :: (m ++ [y])) = x :: (m ++ [y]) := by
  apply cyc_no
  obtain ⟨h1, h2⟩ := ends x y m
  rw [h1, h2]
  exact fun h' => h h'.2
theorem cyc_one (x : Int) : cyc [x] = [x] := cyc_no (by simp)
theorem cyc_nil : cyc [] = [] := cyc_no (by simp)
/-- Conjugates have cyclically reduced forms of the same length. -/
theorem cyc_conj (x : Int) (w : List Int) : (cyc (rd (x :: (w ++ [-x])))).length = (cyc (rd w)).length := by
  have e : rd (x :: (w ++ [-x])) = step (rd (x :: rd w)) (-x) := by
    rw [show x :: (w ++ [-x]) = ([x] ++ w) ++ [-x] by simp, rd_snoc, show x :: rd w = [x] ++ rd w by rfl, rd_left]
  rw [e]
  have hr := rd_red w
  generalize rd w = r at hr
  cases r with
  | nil =>
    have h1 : rd [x] = [x] := rd_of_red _ (Red.one x)
    have h2 : step [x] (-x) = [] := by have := step_snoc [] (-x); rwa [Int.neg_neg] at this
    rw [h1, h2]
  | cons y r' =>
    by_cases hy : y = -x
    · subst hy
      have h1 : rd (x :: -x :: r') = r' := by
        rw [show x :: -x :: r' = ([x] ++ inv [x]) ++ r' by simp [inv], ← rd_right, rd_inv]
        exact rd_of_red _ hr.tail
      rw [h1]
      rcases step_or r' (-x) with ⟨m, rfl⟩ | hm
      · rw [step_snoc, Int.neg_neg]
        have := cyc_strip (-x) m
        rw [Int.neg_neg] at this
        rw [this]
      · rw [step_app hm]
        cases r' with
        | nil => simp
        | cons z s =>
          have hz : z ≠ x := fun e => hr (-x) z [] s rfl (by omega)
          rw [List.cons_append, cyc_keep (by omega)]
          rcases List.eq_nil_or_concat (z :: s) with h | ⟨u, y, h⟩
          · cases h
          · rw [h]
            have hy : y ≠ x := fun e => hm u (by rw [h]; simp [e])
            rw [List.concat_eq_append, cyc_keep (by omega)]
            have := congrArg List.length h
            simp at this ⊢
            omega
    · have h1 : rd (x :: y :: r') = x :: y :: r' := rd_of_red _ (hr.cons fun a v e => by simp at e; rw [← e.1]; exact hy)
      rw [h1]
      rcases step_or (x :: y :: r') (-x) with ⟨m, hm⟩ | hm
      · rw [hm, step_snoc]
        cases m with
        | nil => simp at hm
        | cons a m =>
          simp at hm
          obtain ⟨rfl, hm⟩ := hm
          rw [hm]
          cases m with
          | nil => simp
          | cons b m =>
            simp at hm
            obtain ⟨rfl, hm⟩ := hm
            rw [List.cons_append, cyc_keep (by omega)]
            rcases List.eq_nil_or_concat (y :: m) with h | ⟨u, z, h⟩
            · cases h
            · rw [h, List.concat_eq_append]
              have hz : z ≠ -x := fun e => hr z x u [] (by rw [hm, ← List.cons_append, h]; simp) (by omega)
              rw [cyc_keep (by omega)]
              have := congrArg List.length h
              simp at this ⊢
              omega
      · rw [step_app hm, List.cons_append, List.cons_append, ← List.cons_append, cyc_strip]

/-- A list is a word. -/
def isW (most : Int) (l : List Int) : Bool := decide (l.length ≤ 120 ∧ ∀ x ∈ l, x ≠ 0 ∧ -most ≤ x ∧ x ≤ most)
/-- Letters that no sign or sum can take out of range. -/
def Sm (l : List Int) : Prop := ∀ x ∈ l, -1000 ≤ x ∧ x ≤ 1000
theorem isW_sm {most : Int} {l : List Int} (h : isW most l = true) (hm : most ≤ 1000) : Sm l := by
  simp [isW] at h
  intro x hx
  have := h.2 x hx
  omega
theorem Sm.at_ {l : List Int} (h : Sm l) {k : Nat} (hk : k < l.length) : -1000 ≤ l.getD k 0 ∧ l.getD k 0 ≤ 1000 := by
  rw [List.getD_eq_getElem?_getD, List.getElem?_eq_getElem hk]
  exact h _ (List.getElem_mem hk)
theorem Sm.rd {l : List Int} (h : Sm l) : Sm (rd l) := fun x hx => h x (rd_mem l x hx)
theorem Sm.take {l : List Int} (h : Sm l) (k : Nat) : Sm (l.take k) := fun x hx => h x (List.mem_of_mem_take hx)
theorem Sm.inv {l : List Int} (h : Sm l) : Sm (inv l) := fun x hx => by have := h _ (inv_mem hx); omega
theorem Sm.app {l l' : List Int} (h : Sm l) (h' : Sm l') : Sm (l ++ l') := fun x hx => (List.mem_append.1 hx).elim (h x) (h' x)

end Wd
end Go.Proofs.YtjendlfophdfeaaDoor
