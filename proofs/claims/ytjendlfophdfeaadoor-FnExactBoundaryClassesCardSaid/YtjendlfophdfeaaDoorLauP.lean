/- Lists without the zeros at their ends, and the polynomial that a list with a lowest exponent stands for. No condition but those that each theorem names. -/
namespace Go.Proofs.YtjendlfophdfeaaDoor
namespace Lau

/-- Without the zeros at its ends l is its part from a to b. -/
structure Trimmed (l : List Int) (a b : Nat) : Prop where
  ab : a ≤ b
  bn : b ≤ l.length
  lo : ∀ i, i < a → l.getD i 0 = 0
  hi : ∀ i, b ≤ i → i < l.length → l.getD i 0 = 0
  first : a < b → l.getD a 0 ≠ 0
  last : a < b → l.getD (b - 1) 0 ≠ 0
  none_ : a = b → a = l.length

theorem first_of (l : List Int) : ∀ k, (∀ i, i < k → l.getD i 0 = 0) ∨ ∃ a, a < k ∧ (∀ i, i < a → l.getD i 0 = 0) ∧ l.getD a 0 ≠ 0
  | 0 => .inl fun i h => by omega
  | k + 1 => by
    rcases first_of l k with h | ⟨a, h1, h2, h3⟩
    · by_cases e : l.getD k 0 = 0
      · exact .inl fun i hi => by
          by_cases ei : i = k
          · rw [ei]; exact e
          · exact h i (by omega)
      · exact .inr ⟨k, by omega, h, e⟩
    · exact .inr ⟨a, by omega, h2, h3⟩
theorem last_of (l : List Int) : ∀ k, (∀ i, i < k → l.getD i 0 = 0) ∨ ∃ b, 0 < b ∧ b ≤ k ∧ (∀ i, b ≤ i → i < k → l.getD i 0 = 0) ∧ l.getD (b - 1) 0 ≠ 0
  | 0 => .inl fun i h => by omega
  | k + 1 => by
    by_cases e : l.getD k 0 = 0
    · rcases last_of l k with h | ⟨b, h0, h1, h2, h3⟩
      · exact .inl fun i hi => by
          by_cases ei : i = k
          · rw [ei]; exact e
          · exact h i (by omega)
      · exact .inr ⟨b, h0, by omega, fun i hi hk => by
          by_cases ei : i = k
          · rw [ei]; exact e
          · exact h2 i hi (by omega), h3⟩
    · exact .inr ⟨k + 1, by omega, by omega, fun i h1 h2 => by omega, by simpa using e⟩
theorem trim_exists (l : List Int) : ∃ a b, Trimmed l a b := by
  rcases first_of l l.length with h | ⟨a, h1, h2, h3⟩
  · exact ⟨l.length, l.length, Nat.le_refl _, Nat.le_refl _, h, fun i h1 h2 => by omega, fun h => by omega, fun h => by omega, fun _ => rfl⟩
  · rcases last_of l l.length with h | ⟨b, h0, h4, h5, h6⟩
    · exact absurd (h a h1) h3
    · have hab : a < b := by
        rcases Nat.lt_or_ge a b with h | h
        · exact h
        · exact absurd (h5 a h h1) h3
      exact ⟨a, b, by omega, h4, h2, h5, fun _ => h3, fun _ => h6, fun h => by omega⟩
theorem trim_whole {l : List Int} (h : l = [] ∨ (l.getD 0 0 ≠ 0 ∧ l.getD (l.length - 1) 0 ≠ 0)) : Trimmed l 0 l.length := by
  refine ⟨Nat.zero_le _, Nat.le_refl _, fun i h => by omega, fun i h1 h2 => by omega, fun h0 => ?_, fun h0 => ?_, fun h => h⟩
  · rcases h with rfl | h
    · simp at h0
    · exact h.1
  · rcases h with rfl | h
    · simp at h0
    · exact h.2

/-- The part of l from a to b. -/
def cut (l : List Int) (a b : Nat) : List Int := (l.take b).drop a
theorem cut_len {l : List Int} {a b : Nat} (hb : b ≤ l.length) : (cut l a b).length = b - a := by simp [cut]; omega
theorem cut_at {l : List Int} {a b i : Nat} (h : i < b - a) : (cut l a b).getD i 0 = l.getD (a + i) 0 := by
  unfold cut
  rw [List.getD_eq_getElem?_getD, List.getD_eq_getElem?_getD, List.getElem?_drop, List.getElem?_take, if_pos (by omega)]
theorem cut_all (l : List Int) : cut l 0 l.length = l := by simp [cut]
theorem cut_none (l : List Int) (a : Nat) : cut l a a = [] := by simp [cut]

/-- The coefficient at e of the polynomial whose terms l begin at low. -/
def coef (low : Int) (l : List Int) (e : Int) : Int := if low ≤ e then l.getD (e - low).toNat 0 else 0
theorem getD_out {l : List Int} {i : Nat} (h : l.length ≤ i) : l.getD i 0 = 0 := by rw [List.getD_eq_getElem?_getD, List.getElem?_eq_none h]; rfl
theorem coef_at (low : Int) (l : List Int) (i : Nat) : coef low l (low + i) = l.getD i 0 := by
  unfold coef
  rw [if_pos (by omega)]
  congr 1
  omega
theorem coef_nil (low e : Int) : coef low [] e = 0 := by unfold coef; split <;> simp

/-- The form that every polynomial has once. -/
def Normal (lo : Int) (zs : List Int) : Prop := (zs = [] ∧ lo = 0) ∨ (zs ≠ [] ∧ zs.getD 0 0 ≠ 0 ∧ zs.getD (zs.length - 1) 0 ≠ 0)
theorem normal_le {lo lo' : Int} {zs zs' : List Int} (h0 : zs.getD 0 0 ≠ 0) (h : ∀ e, coef lo zs e = coef lo' zs' e) : lo' ≤ lo := by
  have h1 := h lo
  have h2 := coef_at lo zs 0
  rw [show lo + ((0 : Nat) : Int) = lo by omega] at h2
  rw [h2] at h1
  by_cases hl : lo' ≤ lo
  · exact hl
  · unfold coef at h1
    rw [if_neg hl] at h1
    exact absurd h1 h0
theorem normal_len {lo : Int} {zs zs' : List Int} (hn : zs ≠ []) (h0 : zs.getD (zs.length - 1) 0 ≠ 0) (h : ∀ e, coef lo zs e = coef lo zs' e) : zs.length ≤ zs'.length := by
  have h1 := h (lo + ((zs.length - 1 : Nat) : Int))
  rw [coef_at, coef_at] at h1
  have hp : 0 < zs.length := List.length_pos_iff.2 hn
  rcases Nat.lt_or_ge (zs.length - 1) zs'.length with hlt | hge
  · omega
  · rw [getD_out hge] at h1
    exact absurd h1 h0
theorem normal_unique {lo lo' : Int} {zs zs' : List Int} (h : Normal lo zs) (h' : Normal lo' zs') (he : ∀ e, coef lo zs e = coef lo' zs' e) : lo = lo' ∧ zs = zs' := by
  rcases h with ⟨rfl, rfl⟩ | ⟨hn, h0, h1⟩
  · rcases h' with ⟨rfl, rfl⟩ | ⟨hn', h0', h1'⟩
    · exact ⟨rfl, rfl⟩
    · have := he lo'
      have h2 := coef_at lo' zs' 0
      rw [show lo' + ((0 : Nat) : Int) = lo' by omega] at h2
      rw [coef_nil, h2] at this
      exact absurd this.symm h0'
  · rcases h' with ⟨rfl, rfl⟩ | ⟨hn', h0', h1'⟩
    · have := he lo
      have h2 := coef_at lo zs 0
      rw [show lo + ((0 : Nat) : Int) = lo by omega] at h2
      rw [coef_nil, h2] at this
      exact absurd this h0
    · have e1 := normal_le h0 he
      have e2 := normal_le h0' (fun e => (he e).symm)
      obtain rfl : lo = lo' := by omega
      have l1 := normal_len hn h1 he
      have l2 := normal_len hn' h1' (fun e => (he e).symm)
      refine ⟨rfl, List.ext_getElem (by omega) fun i hi hi' => ?_⟩
      have := he (lo + (i : Int))
      rw [coef_at, coef_at] at this
      simpa [List.getElem?_eq_getElem hi, List.getElem?_eq_getElem hi'] using this
/-- The lowest exponent and the terms of what is left when l is trimmed. -/
def lowOf (low : Int) (a b : Nat) : Int := if a = b then 0 else low + a
theorem trim_normal {l : List Int} {a b : Nat} (low : Int) (h : Trimmed l a b) : Normal (lowOf low a b) (cut l a b) ∧ ∀ e, coef (lowOf low a b) (cut l a b) e = coef low l e := by
  unfold lowOf
  by_cases e0 : a = b
  · subst e0
    rw [if_pos rfl, cut_none]
    refine ⟨.inl ⟨rfl, rfl⟩, fun e => ?_⟩
    rw [coef_nil]
    unfold coef
    split
    · rcases Nat.lt_or_ge (e - low).toNat a with h1 | h1
      · exact (h.lo _ h1).symm
      · exact (getD_out (by have := h.none_ rfl; omega)).symm
    · rfl
  · rw [if_neg e0]
    have hab : a < b := by have := h.ab; omega
    have hl := cut_len (a := a) h.bn
    refine ⟨.inr ⟨fun hn => by rw [hn] at hl; simp at hl; omega, ?_, ?_⟩, fun e => ?_⟩
    · rw [cut_at (by omega)]; exact h.first hab
    · rw [hl, cut_at (by omega), show a + (b - a - 1) = b - 1 by omega]; exact h.last hab
    · unfold coef
      by_cases h1 : low + (a : Int) ≤ e
      · rw [if_pos h1, if_pos (by omega)]
        rcases Nat.lt_or_ge (e - (low + a)).toNat (b - a) with h2 | h2
        · rw [cut_at h2]; congr 1; omega
        · rw [getD_out (by omega)]
          rcases Nat.lt_or_ge (e - low).toNat l.length with h3 | h3
          · exact (h.hi _ (by omega) h3).symm
          · exact (getD_out h3).symm
      · rw [if_neg h1]
        split
        · exact (h.lo _ (by omega)).symm
        · rfl
theorem trim_same {low low' : Int} {l l' : List Int} {a b a' b' : Nat} (h : Trimmed l a b) (h' : Trimmed l' a' b') (he : ∀ e, coef low l e = coef low' l' e) : lowOf low a b = lowOf low' a' b' ∧ cut l a b = cut l' a' b' := by
  obtain ⟨n1, c1⟩ := trim_normal low h
  obtain ⟨n2, c2⟩ := trim_normal low' h'
  exact normal_unique n1 n2 fun e => by rw [c1, c2]; exact he e

/-- A valid polynomial. -/
def LOk (r : Int) (zs : List Int) : Prop :=
  (zs = [] ∧ r = 0) ∨ (zs ≠ [] ∧ zs.length ≤ 160 ∧ zs.getD 0 0 ≠ 0 ∧ zs.getD (zs.length - 1) 0 ≠ 0 ∧ -240 ≤ r ∧ r + zs.length - 1 ≤ 240 ∧ ∀ i, i < zs.length → -1000000000000 ≤ zs.getD i 0 ∧ zs.getD i 0 ≤ 1000000000000)
theorem LOk.normal {r : Int} {zs : List Int} (h : LOk r zs) : Normal r zs := h.imp id fun h => ⟨h.1, h.2.2.1, h.2.2.2.1⟩
theorem LOk.len {r : Int} {zs : List Int} (h : LOk r zs) : zs.length ≤ 160 := by
  rcases h with ⟨rfl, _⟩ | h
  · simp
  · exact h.2.1
theorem LOk.low {r : Int} {zs : List Int} (h : LOk r zs) : -240 ≤ r ∧ r ≤ 240 ∧ r + zs.length ≤ 241 := by
  rcases h with ⟨rfl, rfl⟩ | ⟨hn, h⟩
  · simp
  · have hp : 0 < zs.length := List.length_pos_iff.2 hn
    have := h.2.2.2.1
    have := h.2.2.2.2.1
    omega
theorem LOk.ent {r : Int} {zs : List Int} (h : LOk r zs) (i : Nat) (hi : i < zs.length) : -1000000000000 ≤ zs.getD i 0 ∧ zs.getD i 0 ≤ 1000000000000 := by
  rcases h with ⟨rfl, _⟩ | h
  · simp at hi
  · exact h.2.2.2.2.2.2 i hi
theorem LOk.ent' {r : Int} {zs : List Int} (h : LOk r zs) (i : Nat) : -1000000000000 ≤ zs.getD i 0 ∧ zs.getD i 0 ≤ 1000000000000 := by
  rcases Nat.lt_or_ge i zs.length with hi | hi
  · exact h.ent i hi
  · rw [getD_out hi]; omega
theorem LOk.trim {r : Int} {zs : List Int} (h : LOk r zs) : Trimmed zs 0 zs.length := trim_whole (h.imp And.left fun h => ⟨h.2.2.1, h.2.2.2.1⟩)
theorem LOk.nil : LOk 0 [] := .inl ⟨rfl, rfl⟩
theorem LOk.lowOf {r : Int} {zs : List Int} (h : LOk r zs) : lowOf r 0 zs.length = r := by
  unfold Lau.lowOf
  rcases h with ⟨rfl, rfl⟩ | ⟨hn, _⟩
  · simp
  · have hp : 0 < zs.length := List.length_pos_iff.2 hn
    rw [if_neg (by omega)]; omega

end Lau
end Go.Proofs.YtjendlfophdfeaaDoor
