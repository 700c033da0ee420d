/- Decimal numbers as bytes: what a run of digits says, and which runs are a number's own text. No condition but those that each theorem names. -/
import Derived.Lib.ItoaNum
import Derived.Lib.ItoaLen
import Derived.Lib.ItoaMem
namespace Go.Proofs.YtboanggdehceaaaDoor
namespace Prs

/-- A digit. -/
def D (b : UInt8) : Prop := 48 ≤ b.toNat ∧ b.toNat ≤ 57
instance (b : UInt8) : Decidable (D b) := by unfold D; infer_instance
/-- The number that the first k bytes of a text say. -/
def vl (ds : List UInt8) : Nat → Nat
  | 0 => 0
  | k + 1 => vl ds k * 10 + ((ds.getD k 0).toNat - 48)
theorem vl_congr {xs ys : List UInt8} : ∀ {k : Nat}, (∀ i, i < k → xs.getD i 0 = ys.getD i 0) → vl xs k = vl ys k
  | 0, _ => rfl
  | k + 1, h => by rw [vl, vl, vl_congr fun i hi => h i (by omega), h k (by omega)]
theorem vl_lt {ds : List UInt8} : ∀ {k : Nat}, (∀ i, i < k → D (ds.getD i 0)) → vl ds k < 10 ^ k
  | 0, _ => by simp [vl]
  | k + 1, h => by
    have h1 := vl_lt (k := k) fun i hi => h i (by omega)
    have h2 := h k (by omega)
    unfold D at h2
    rw [vl, Nat.pow_succ]
    omega
theorem vl_pos {ds : List UInt8} (h0 : 49 ≤ (ds.getD 0 0).toNat) : ∀ {k : Nat}, 0 < k → 1 ≤ vl ds k
  | 0, h => by omega
  | 1, _ => by simp only [vl]; omega
  | k + 2, _ => by
    have := vl_pos h0 (k := k + 1) (by omega)
    rw [vl]
    omega
theorem ofNat_toNat (b : UInt8) : UInt8.ofNat b.toNat = b := by simp
/-- A run of digits without a zero ahead is the text of the number that it says. -/
theorem canon {ds : List UInt8} : ∀ {k : Nat}, 0 < k → k ≤ ds.length → (∀ i, i < k → D (ds.getD i 0)) → (k = 1 ∨ 49 ≤ (ds.getD 0 0).toNat) → Lib.decDigits (vl ds k) = ds.take k
  | 0, h, _, _, _ => by omega
  | 1, _, hl, hd, _ => by
    have h1 := hd 0 (by omega)
    unfold D at h1
    have e : vl ds 1 = (ds.getD 0 0).toNat - 48 := by simp [vl]
    rw [e, Lib.decDigits, dif_pos (by omega), show 48 + ((ds.getD 0 0).toNat - 48) = (ds.getD 0 0).toNat by omega, ofNat_toNat]
    cases ds with
    | nil => simp at hl
    | cons b r => simp
  | k + 2, _, hl, hd, h0 => by
    have h0' : 49 ≤ (ds.getD 0 0).toNat := by rcases h0 with h | h <;> omega
    have ih := canon (ds := ds) (k := k + 1) (by omega) (by omega) (fun i hi => hd i (by omega)) (.inr h0')
    have hp := vl_pos h0' (k := k + 1) (by omega)
    have h1 := hd (k + 1) (by omega)
    unfold D at h1
    rw [vl, Lib.decDigits, dif_neg (by omega)]
    rw [show (vl ds (k + 1) * 10 + ((ds.getD (k + 1) 0).toNat - 48)) / 10 = vl ds (k + 1) by omega, ih,
      show 48 + (vl ds (k + 1) * 10 + ((ds.getD (k + 1) 0).toNat - 48)) % 10 = (ds.getD (k + 1) 0).toNat by omega, ofNat_toNat]
    rw [List.take_add_one (i := k + 1), List.getD_eq_getElem?_getD, List.getElem?_eq_getElem (by omega)]
    rfl
/-- What the text of a number is: digits, not a zero ahead, and it says the number. -/
theorem dec_at (u : Nat) : 0 < (Lib.decDigits u).length ∧ (∀ i, i < (Lib.decDigits u).length → D ((Lib.decDigits u).getD i 0)) ∧ ((Lib.decDigits u).length = 1 ∨ 49 ≤ ((Lib.decDigits u).getD 0 0).toNat) ∧ vl (Lib.decDigits u) (Lib.decDigits u).length = u ∧ (u ≠ 0 → 49 ≤ ((Lib.decDigits u).getD 0 0).toNat) := by
  induction u using Nat.strongRecOn with
  | _ u ih =>
    have key : ∀ d, d < 10 → (UInt8.ofNat (48 + d)).toNat = 48 + d := fun d hd => by simp; omega
    by_cases h : u < 10
    · rw [Lib.decDigits, dif_pos h]
      have := key u h
      refine ⟨by simp, fun i hi => ?_, .inl rfl, ?_, fun h0 => ?_⟩
      · obtain rfl : i = 0 := by simp at hi; omega
        show D (UInt8.ofNat (48 + u))
        unfold D
        omega
      · show vl _ 1 = u
        simp only [vl, List.getD_cons_zero]
        omega
      · show 49 ≤ (UInt8.ofNat (48 + u)).toNat
        omega
    · obtain ⟨h1, h2, h3, h4, h5⟩ := ih (u / 10) (by omega)
      rw [Lib.decDigits, dif_neg h]
      obtain ⟨l, hl⟩ : ∃ l, Lib.decDigits (u / 10) = l := ⟨_, rfl⟩
      rw [hl] at h1 h2 h3 h4 h5 ⊢
      have hk := key (u % 10) (by omega)
      have e0 : (l ++ [UInt8.ofNat (48 + u % 10)]).getD 0 0 = l.getD 0 0 := by rw [List.getD_eq_getElem?_getD, List.getElem?_append_left h1, ← List.getD_eq_getElem?_getD]
      refine ⟨by simp, fun i hi => ?_, .inr (by rw [e0]; exact h5 (by omega)), ?_, fun _ => by rw [e0]; exact h5 (by omega)⟩
      · rcases Nat.lt_or_ge i l.length with hi' | hi'
        · rw [List.getD_eq_getElem?_getD, List.getElem?_append_left hi', ← List.getD_eq_getElem?_getD]; exact h2 i hi'
        · obtain rfl : i = l.length := by simp at hi; omega
          rw [List.getD_eq_getElem?_getD, List.getElem?_append_right (Nat.le_refl _)]
          simp only [Nat.sub_self, List.getElem?_cons_zero, Option.getD_some]
          unfold D
          omega
      · rw [List.length_append]
        simp only [List.length_cons, List.length_nil]
        rw [vl, vl_congr (ys := l) fun i hi => by rw [List.getD_eq_getElem?_getD, List.getElem?_append_left hi, ← List.getD_eq_getElem?_getD], h4]
        rw [List.getD_eq_getElem?_getD, List.getElem?_append_right (Nat.le_refl _)]
        simp only [Nat.sub_self, List.getElem?_cons_zero, Option.getD_some, hk]
        omega
theorem dec_len {u : Nat} (h : u < 10000000000000) : (Lib.decDigits u).length ≤ 13 := by
  obtain ⟨h1, h2, h3, h4, h5⟩ := dec_at u
  rcases Nat.lt_or_ge 13 (Lib.decDigits u).length with hl | hl
  · have hu : u ≠ 0 := fun e => by subst e; rw [Lib.decDigits] at hl; simp at hl
    have h6 : ∀ k, 0 < k → k ≤ (Lib.decDigits u).length → 10 ^ (k - 1) ≤ vl (Lib.decDigits u) k := by
      intro k
      induction k with
      | zero => intro h; omega
      | succ k ih =>
        intro _ hk
        rcases Nat.eq_zero_or_pos k with rfl | hk0
        · simpa using vl_pos (h5 hu) (k := 1) (by omega)
        · have := ih hk0 (by omega)
          rw [vl, show k + 1 - 1 = (k - 1) + 1 by omega, Nat.pow_succ]
          omega
    have h7 := h6 _ h1 (Nat.le_refl _)
    rw [h4] at h7
    have h8 : (10 : Nat) ^ 13 ≤ 10 ^ ((Lib.decDigits u).length - 1) := Nat.pow_le_pow_right (by omega) (by omega)
    have h9 : (10 : Nat) ^ 13 = 10000000000000 := by decide
    omega
  · exact hl
/-- The sign ahead of a text, and the text behind it. -/
def neg (s : List UInt8) : Bool := s.head? == some 45
def body (s : List UInt8) : List UInt8 := if neg s = true then s.tail else s
theorem itoa_cases (v : Int) : (v < 0 ∧ Lib.itoa v = 45 :: Lib.decDigits v.natAbs) ∨ (0 ≤ v ∧ Lib.itoa v = Lib.decDigits v.natAbs) := by
  unfold Lib.itoa
  by_cases h : v < 0
  · rw [if_pos h]; exact .inl ⟨h, rfl⟩
  · rw [if_neg h]; exact .inr ⟨by omega, by rw [show v.toNat = v.natAbs by omega]⟩
theorem dec_head (u : Nat) (t : List UInt8) : ∃ b r, Lib.decDigits u ++ t = b :: r ∧ D b := by
  obtain ⟨h1, h2, _⟩ := dec_at u
  cases hl : Lib.decDigits u with
  | nil => rw [hl] at h1; simp at h1
  | cons b r =>
    rw [hl] at h2
    exact ⟨b, r ++ t, rfl, by simpa using h2 0 (by simp)⟩
/-- The sign and what stands behind it, of a text that begins with a number. -/
theorem itoa_parts (v : Int) (t : List UInt8) : (neg (Lib.itoa v ++ t) = true ↔ v < 0) ∧ body (Lib.itoa v ++ t) = Lib.decDigits v.natAbs ++ t := by
  rcases itoa_cases v with ⟨h, e⟩ | ⟨h, e⟩
  · rw [e]
    exact ⟨⟨fun _ => h, fun _ => rfl⟩, rfl⟩
  · rw [e]
    obtain ⟨b, r, e2, hb⟩ := dec_head v.natAbs t
    have hn : neg (Lib.decDigits v.natAbs ++ t) = false := by
      rw [e2]
      unfold neg
      simp
      intro e3
      subst e3
      unfold D at hb
      simp at hb
    exact ⟨by rw [hn]; simp; exact h, by unfold body; rw [hn]; simp⟩
theorem itoa_ne (v : Int) : ∀ b ∈ Lib.itoa v, b ≠ 120 ∧ b ≠ 58 ∧ b ≠ 32 := by
  have hd : ∀ u, ∀ b ∈ Lib.decDigits u, D b := by
    intro u b hb
    obtain ⟨i, hi, rfl⟩ := List.mem_iff_getElem.1 hb
    have := (dec_at u).2.1 i hi
    rwa [List.getD_eq_getElem?_getD, List.getElem?_eq_getElem hi] at this
  have hx : ∀ b, D b → b ≠ 120 ∧ b ≠ 58 ∧ b ≠ 32 := by
    intro b hb
    unfold D at hb
    refine ⟨fun e => ?_, fun e => ?_, fun e => ?_⟩ <;> (subst e; simp at hb)
  intro b hb
  rcases itoa_cases v with ⟨_, e⟩ | ⟨_, e⟩
  · rw [e] at hb
    rcases List.mem_cons.1 hb with rfl | hb
    · decide
    · exact hx b (hd _ b hb)
  · rw [e] at hb
    exact hx b (hd _ b hb)

/-- A text that begins with a number of at most 13 digits, no digit behind it. -/
def Cut (s : List UInt8) (v : Int) (rest : List UInt8) : Prop := s = Lib.itoa v ++ rest ∧ v.natAbs < 10000000000000 ∧ ∀ b, rest.head? = some b → ¬ D b
/-- How many digits stand ahead. -/
def RunIs (ds : List UInt8) (m : Nat) : Prop := m ≤ ds.length ∧ (∀ i, i < m → D (ds.getD i 0)) ∧ (m < ds.length → ¬ D (ds.getD m 0))
theorem RunIs.unique {ds : List UInt8} {m k : Nat} (h : RunIs ds m) (h' : RunIs ds k) : m = k := by
  rcases Nat.lt_trichotomy m k with hlt | rfl | hlt
  · exact absurd (h'.2.1 m hlt) (h.2.2 (by have := h'.1; omega))
  · rfl
  · exact absurd (h.2.1 k hlt) (h'.2.2 (by have := h.1; omega))
theorem cut_run {s : List UInt8} {v : Int} {rest : List UInt8} (h : Cut s v rest) : (neg s = true ↔ v < 0) ∧ RunIs (body s) (Lib.decDigits v.natAbs).length ∧ body s = Lib.decDigits v.natAbs ++ rest := by
  obtain ⟨rfl, hb, hr⟩ := h
  obtain ⟨h1, h2⟩ := itoa_parts v rest
  refine ⟨h1, ?_, h2⟩
  rw [h2]
  obtain ⟨_, d2, _⟩ := dec_at v.natAbs
  refine ⟨by simp, fun i hi => ?_, fun hlt => ?_⟩
  · rw [List.getD_eq_getElem?_getD, List.getElem?_append_left hi, ← List.getD_eq_getElem?_getD]; exact d2 i hi
  · rw [List.getD_eq_getElem?_getD, List.getElem?_append_right (Nat.le_refl _), Nat.sub_self]
    cases rest with
    | nil => simp at hlt
    | cons b r => exact hr b rfl
theorem cut_len {s : List UInt8} {v : Int} {rest : List UInt8} (h : Cut s v rest) : (Lib.decDigits v.natAbs).length ≤ 13 := dec_len h.2.1
theorem Cut.unique {s : List UInt8} {v v' : Int} {rest rest' : List UInt8} (h : Cut s v rest) (h' : Cut s v' rest') : v = v' ∧ rest = rest' := by
  obtain ⟨a1, a2, a3⟩ := cut_run h
  obtain ⟨b1, b2, b3⟩ := cut_run h'
  have hl := a2.unique b2
  have he := a3.symm.trans b3
  obtain ⟨e1, e2⟩ := List.append_inj he hl
  have hv : v.natAbs = v'.natAbs := by
    have h1 := (dec_at v.natAbs).2.2.2.1
    have h2 := (dec_at v'.natAbs).2.2.2.1
    rw [e1] at h1
    exact h1.symm.trans h2
  have hs : v < 0 ↔ v' < 0 := a1.symm.trans b1
  exact ⟨by omega, e2⟩
/-- The text that begins so is cut; and no other is. -/
theorem cut_yes {s : List UInt8} {m : Nat} (h : RunIs (body s) m) (h0 : 0 < m) (h1 : m ≤ 13) (hz : ¬ ((body s).getD 0 0 = 48 ∧ (1 < m ∨ neg s = true))) :
    Cut s (if neg s = true then -(vl (body s) m : Int) else (vl (body s) m : Int)) ((body s).drop m) := by
  obtain ⟨r1, r2, r3⟩ := h
  have hd0 := r2 0 h0
  have hne : (body s).getD 0 0 ≠ 48 → 49 ≤ ((body s).getD 0 0).toNat := fun hne => by
    unfold D at hd0
    have : ((body s).getD 0 0).toNat ≠ 48 := fun e => hne (UInt8.toNat_inj.1 (by rw [e]; rfl))
    omega
  have hc : m = 1 ∨ 49 ≤ ((body s).getD 0 0).toNat := by
    by_cases e : (body s).getD 0 0 = 48
    · exact .inl (by have : ¬ 1 < m := fun hh => hz ⟨e, .inl hh⟩; omega)
    · exact .inr (hne e)
  have hcan := canon h0 r1 r2 hc
  have hlt := vl_lt r2
  have hp : (10 : Nat) ^ m ≤ 10 ^ 13 := Nat.pow_le_pow_right (by omega) h1
  have h9 : (10 : Nat) ^ 13 = 10000000000000 := by decide
  have hrest : ∀ b, ((body s).drop m).head? = some b → ¬ D b := by
    intro b hb
    rw [List.head?_drop] at hb
    have hm : m < (body s).length := (List.getElem?_eq_some_iff.1 hb).1
    have := r3 hm
    rwa [List.getD_eq_getElem?_getD, hb] at this
  by_cases hn : neg s = true
  · rw [if_pos hn]
    have h49 : 49 ≤ ((body s).getD 0 0).toNat := hne fun e => hz ⟨e, .inr hn⟩
    have hpos := vl_pos h49 h0
    refine ⟨?_, by omega, hrest⟩
    rcases itoa_cases (-(vl (body s) m : Int)) with ⟨_, e⟩ | ⟨hh, _⟩
    · rw [e, show (-(vl (body s) m : Int)).natAbs = vl (body s) m by omega, hcan, List.cons_append, List.take_append_drop]
      unfold neg at hn
      unfold body
      rw [show neg s = true from hn, if_pos rfl]
      cases s with
      | nil => simp at hn
      | cons b r => simp at hn; rw [hn]; rfl
    · omega
  · rw [if_neg hn]
    refine ⟨?_, by omega, hrest⟩
    rcases itoa_cases (vl (body s) m : Int) with ⟨hh, _⟩ | ⟨_, e⟩
    · omega
    · rw [e, show ((vl (body s) m : Int)).natAbs = vl (body s) m by omega, hcan, List.take_append_drop]
      unfold body
      rw [if_neg hn]
theorem cut_no {s : List UInt8} {m : Nat} (h : RunIs (body s) m) (hz : m = 0 ∨ 13 < m ∨ ((body s).getD 0 0 = 48 ∧ (1 < m ∨ neg s = true))) : ¬ ∃ v rest, Cut s v rest := by
  rintro ⟨v, rest, hc⟩
  obtain ⟨a1, a2, a3⟩ := cut_run hc
  have hl := a2.unique h
  have hlen := cut_len hc
  obtain ⟨d1, d2, d3, d4, d5⟩ := dec_at v.natAbs
  have e0 : (body s).getD 0 0 = (Lib.decDigits v.natAbs).getD 0 0 := by rw [a3, List.getD_eq_getElem?_getD, List.getElem?_append_left d1, ← List.getD_eq_getElem?_getD]
  rcases hz with hz | hz | ⟨hz, hz2⟩
  · omega
  · omega
  · rw [e0] at hz
    have h48 : ((Lib.decDigits v.natAbs).getD 0 0).toNat = 48 := by rw [hz]; rfl
    rcases hz2 with hz2 | hz2
    · rcases d3 with d3 | d3 <;> omega
    · have : v < 0 := a1.1 hz2
      have := d5 (by omega)
      omega
end Prs
end Go.Proofs.YtboanggdehceaaaDoor
