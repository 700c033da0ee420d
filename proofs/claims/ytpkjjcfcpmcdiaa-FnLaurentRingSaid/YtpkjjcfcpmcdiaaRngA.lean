/- Finite sums, and the products of two polynomials by their coefficients. No condition but those that each theorem names. -/
import Derived.Test.YtpkjjcfcpmcdiaaLauQ
namespace Go.Proofs.Ytpkjjcfcpmcdiaa
namespace Lau

/-- The sum of the first n values of f. -/
def Sg (f : Nat → Int) : Nat → Int
  | 0 => 0
  | k + 1 => Sg f k + f k
theorem Sg_congr {f g : Nat → Int} : ∀ {n : Nat}, (∀ i, i < n → f i = g i) → Sg f n = Sg g n
  | 0, _ => rfl
  | n + 1, h => by rw [Sg, Sg, Sg_congr fun i hi => h i (by omega), h n (by omega)]
theorem Sg_zero {f : Nat → Int} : ∀ {n : Nat}, (∀ i, i < n → f i = 0) → Sg f n = 0
  | 0, _ => rfl
  | n + 1, h => by rw [Sg, Sg_zero fun i hi => h i (by omega), h n (by omega)]; rfl
theorem Sg_add (f g : Nat → Int) : ∀ n : Nat, Sg (fun i => f i + g i) n = Sg f n + Sg g n
  | 0 => rfl
  | n + 1 => by simp only [Sg]; rw [Sg_add f g n]; omega
theorem Sg_mul (c : Int) (f : Nat → Int) : ∀ n : Nat, Sg (fun i => c * f i) n = c * Sg f n
  | 0 => by simp [Sg]
  | n + 1 => by simp only [Sg]; rw [Sg_mul c f n, Int.mul_add]
theorem Sg_swap (f : Nat → Nat → Int) (m : Nat) : ∀ n : Nat, Sg (fun i => Sg (fun j => f i j) m) n = Sg (fun j => Sg (fun i => f i j) n) m
  | 0 => by simp only [Sg]; exact (Sg_zero fun _ _ => rfl).symm
  | n + 1 => by simp only [Sg]; rw [Sg_swap f m n, Sg_add]
theorem Sg_one {f : Nat → Int} {k : Nat} : ∀ {n : Nat}, k < n → (∀ i, i < n → i ≠ k → f i = 0) → Sg f n = f k
  | 0, h, _ => by omega
  | n + 1, h, h0 => by
    rw [Sg]
    by_cases e : k = n
    · subst e
      rw [Sg_zero fun i hi => h0 i (by omega) (by omega), Int.zero_add]
    · rw [Sg_one (by omega) fun i hi hk => h0 i (by omega) hk, h0 n (by omega) (by omega), Int.add_zero]
theorem Sg_split (f : Nat → Int) (a : Nat) : ∀ b : Nat, Sg f (a + b) = Sg f a + Sg (fun i => f (a + i)) b
  | 0 => by simp [Sg]
  | b + 1 => by rw [← Nat.add_assoc]; simp only [Sg]; rw [Sg_split f a b]; omega
theorem Sg_head (f : Nat → Int) (n : Nat) : Sg f (n + 1) = f 0 + Sg (fun i => f (i + 1)) n := by
  rw [Nat.add_comm n 1, Sg_split f 1 n]
  simp only [Sg, Int.zero_add]
  congr 1
  exact Sg_congr fun i _ => by rw [Nat.add_comm]
theorem Sg_rev (f : Nat → Int) : ∀ n : Nat, Sg (fun i => f (n - 1 - i)) n = Sg f n
  | 0 => rfl
  | n + 1 => by
    rw [Sg_head, Sg, Int.add_comm]
    congr 1
    rw [← Sg_rev f n]
    exact Sg_congr fun i _ => by congr 1; omega
theorem Sg_le {f g : Nat → Int} : ∀ {n : Nat}, (∀ i, i < n → f i ≤ g i) → Sg f n ≤ Sg g n
  | 0, _ => Int.le_refl _
  | n + 1, h => by
    have h1 := Sg_le (n := n) fun i hi => h i (by omega)
    have h2 := h n (by omega)
    rw [Sg, Sg]
    omega

/-- The sum of the products of the pairs whose places add up to k. -/
def dbl (zs ys : List Int) (n m k : Nat) : Int := Sg (fun i => Sg (fun j => if i + j = k then zs.getD i 0 * ys.getD j 0 else 0) m) n
theorem cv_row (zs ys : List Int) (m k i : Nat) : ∀ j, j ≤ m → cv zs ys m k (i * m + j) = cv zs ys m k (i * m) + Sg (fun j => if i + j = k then zs.getD i 0 * ys.getD j 0 else 0) j
  | 0, _ => by simp [Sg]
  | j + 1, h => by
    have e1 : (i * m + j) % m = j := by rw [Nat.add_comm, Nat.add_mul_mod_self_right, Nat.mod_eq_of_lt (by omega)]
    have e2 : (i * m + j) / m = i := by rw [Nat.add_comm, Nat.add_mul_div_right _ _ (by omega), Nat.div_eq_of_lt (by omega), Nat.zero_add]
    rw [← Nat.add_assoc, cv, e1, e2, cv_row zs ys m k i j (by omega), Sg]
    omega
theorem cv_dbl (zs ys : List Int) (m k : Nat) : ∀ n, cv zs ys m k (n * m) = dbl zs ys n m k
  | 0 => by simp [cv, dbl, Sg]
  | n + 1 => by
    rw [Nat.succ_mul, cv_row zs ys m k n m (Nat.le_refl _), cv_dbl zs ys m k n]
    rfl
theorem dbl_comm (zs ys : List Int) (n m k : Nat) : dbl zs ys n m k = dbl ys zs m n k := by
  unfold dbl
  rw [Sg_swap]
  exact Sg_congr fun j _ => Sg_congr fun i _ => by rw [Nat.add_comm, Int.mul_comm]
theorem mulL_comm (zs ys : List Int) : mulL (zs.length + ys.length) zs ys ys.length (zs.length * ys.length) = mulL (ys.length + zs.length) ys zs zs.length (ys.length * zs.length) := by
  rw [Nat.add_comm ys.length]
  refine list_same (by rw [mulL_len, mulL_len]) fun t ht => ?_
  rw [mulL_len] at ht
  rw [mulL_at _ _ _ _ ht, mulL_at _ _ _ _ ht, cv_dbl, cv_dbl, dbl_comm]

/-- The coefficients of a product. -/
def conv (r : Int) (zs : List Int) (c : Int → Int) (e : Int) : Int := Sg (fun i => zs.getD i 0 * c (e - r - i)) zs.length
theorem dbl_conv (zs ys : List Int) (r s : Int) (k : Nat) : dbl zs ys zs.length ys.length k = conv r zs (coef s ys) (r + s + k) := by
  unfold dbl conv
  refine Sg_congr fun i _ => ?_
  by_cases h : i ≤ k
  · unfold coef
    rw [if_pos (by omega), show (r + s + (k : Int) - r - (i : Int) - s).toNat = k - i by omega]
    rcases Nat.lt_or_ge (k - i) ys.length with h1 | h1
    · rw [Sg_one h1 fun j _ hj => if_neg (by omega), if_pos (by omega)]
    · rw [getD_out h1, Int.mul_zero]
      exact Sg_zero fun j hj => if_neg (by omega)
  · unfold coef
    rw [if_neg (by omega), Int.mul_zero]
    exact Sg_zero fun j _ => if_neg (by omega)
theorem mulL_conv (zs ys : List Int) (r s e : Int) : coef (r + s) (mulL (zs.length + ys.length) zs ys ys.length (zs.length * ys.length)) e = conv r zs (coef s ys) e := by
  by_cases h : r + s ≤ e
  · obtain ⟨k, hk⟩ : ∃ k : Nat, e = r + s + (k : Int) := ⟨(e - (r + s)).toNat, by omega⟩
    rw [hk, coef_at, ← dbl_conv]
    rcases Nat.lt_or_ge k (zs.length + ys.length) with h1 | h1
    · rw [mulL_at _ _ _ _ h1, cv_dbl]
    · rw [getD_out (by rw [mulL_len]; exact h1)]
      unfold dbl
      exact (Sg_zero fun i hi => Sg_zero fun j hj => if_neg (by omega)).symm
  · unfold conv
    rw [Sg_zero fun i hi => ?_]
    · unfold coef
      exact if_neg h
    · unfold coef
      rw [if_neg (by omega), Int.mul_zero]
theorem conv_add (r : Int) (zs : List Int) (c d b : Int → Int) (h : ∀ e, b e = c e + d e) (e : Int) : conv r zs b e = conv r zs c e + conv r zs d e := by
  unfold conv
  rw [← Sg_add]
  exact Sg_congr fun i _ => by rw [h, Int.mul_add]

/-- The sum of the terms, each times the value of f at its exponent. -/
def lin (f : Int → Int) (low : Int) (l : List Int) : Int := Sg (fun i => f (low + i) * l.getD i 0) l.length
theorem lin_window (f : Int → Int) {low : Int} {l : List Int} (W0 : Int) (N : Nat) (h0 : W0 ≤ low) (h1 : low + l.length ≤ W0 + N) : lin f low l = Sg (fun k => f (W0 + k) * coef low l (W0 + k)) N := by
  obtain ⟨a, ha⟩ : ∃ a : Nat, low = W0 + (a : Int) := ⟨(low - W0).toNat, by omega⟩
  obtain ⟨b, hb⟩ : ∃ b : Nat, N = a + (l.length + b) := ⟨N - a - l.length, by omega⟩
  rw [hb, Sg_split, Sg_split]
  rw [Sg_zero (f := fun k : Nat => f (W0 + k) * coef low l (W0 + k)) fun i hi => by unfold coef; rw [if_neg (by omega), Int.mul_zero], Int.zero_add]
  rw [Sg_zero (f := fun i : Nat => f (W0 + ((a + (l.length + i) : Nat) : Int)) * coef low l (W0 + ((a + (l.length + i) : Nat) : Int))) fun i hi => by
    unfold coef; rw [if_pos (by omega), getD_out (by omega), Int.mul_zero], Int.add_zero]
  unfold lin
  refine Sg_congr fun i _ => ?_
  rw [show W0 + ((a + i : Nat) : Int) = low + (i : Int) by omega, coef_at]
/-- A window for both. -/
theorem window (low low' : Int) (n n' : Nat) : ∃ (W0 : Int) (N : Nat), W0 ≤ low ∧ W0 ≤ low' ∧ low + n ≤ W0 + N ∧ low' + n' ≤ W0 + N := by
  refine ⟨min low low', n + n' + (low - low').natAbs, ?_, ?_, ?_, ?_⟩ <;> omega
theorem window3 (a b c : Int) (n m k : Nat) : ∃ (W0 : Int) (N : Nat), W0 ≤ a ∧ W0 ≤ b ∧ W0 ≤ c ∧ a + n ≤ W0 + N ∧ b + m ≤ W0 + N ∧ c + k ≤ W0 + N := by
  obtain ⟨W, N, h1, h2, h3, h4⟩ := window a b n m
  obtain ⟨V, M, k1, k2, k3, k4⟩ := window W c N k
  exact ⟨V, M, by omega, by omega, by omega, by omega, by omega, by omega⟩
theorem lin_same (f : Int → Int) {low low' : Int} {l l' : List Int} (h : ∀ e, coef low l e = coef low' l' e) : lin f low l = lin f low' l' := by
  obtain ⟨W, N, h1, h2, h3, h4⟩ := window low low' l.length l'.length
  rw [lin_window f W N h1 h3, lin_window f W N h2 h4]
  exact Sg_congr fun i _ => by rw [h]
theorem lin_add (f : Int → Int) {a b c : Int} {l zs ys : List Int} (h : ∀ e, coef a l e = coef b zs e + coef c ys e) : lin f a l = lin f b zs + lin f c ys := by
  obtain ⟨W, N, h1, h2, h3, h4, h5, h6⟩ := window3 a b c l.length zs.length ys.length
  rw [lin_window f W N h1 h4, lin_window f W N h2 h5, lin_window f W N h3 h6, ← Sg_add]
  exact Sg_congr fun i _ => by rw [h, Int.mul_add]
theorem lin_mul (f : Int → Int) (hf : ∀ a b, f (a + b) = f a * f b) (zs ys : List Int) (r s : Int) :
    lin f (r + s) (mulL (zs.length + ys.length) zs ys ys.length (zs.length * ys.length)) = lin f r zs * lin f s ys := by
  obtain ⟨n, hn⟩ : ∃ n, zs.length = n := ⟨_, rfl⟩
  obtain ⟨m, hm⟩ : ∃ m, ys.length = m := ⟨_, rfl⟩
  have h1 : lin f (r + s) (mulL (n + m) zs ys m (n * m)) = Sg (fun k => Sg (fun i => Sg (fun j => if i + j = k then f (r + s + k) * (zs.getD i 0 * ys.getD j 0) else 0) m) n) (n + m) := by
    unfold lin
    rw [mulL_len]
    refine Sg_congr fun k hk => ?_
    rw [mulL_at _ _ _ _ hk, cv_dbl]
    unfold dbl
    rw [← Sg_mul]
    refine Sg_congr fun i _ => ?_
    rw [← Sg_mul]
    refine Sg_congr fun j _ => ?_
    split
    · rfl
    · exact Int.mul_zero _
  rw [hn, hm, h1, Sg_swap]
  unfold lin
  rw [hn, hm, Int.mul_comm, ← Sg_mul]
  refine Sg_congr fun i hi => ?_
  rw [Sg_swap, Int.mul_comm, ← Sg_mul]
  refine Sg_congr fun j hj => ?_
  rw [Sg_one (k := i + j) (by omega) fun k _ hk => if_neg (by omega), if_pos rfl, show r + s + ((i + j : Nat) : Int) = (r + i) + (s + j) by omega, hf]
  simp only [Int.mul_assoc, Int.mul_left_comm]

/-- The terms in the opposite order. -/
theorem rev_at (zs : List Int) {k : Nat} (h : k < zs.length) : zs.reverse.getD k 0 = zs.getD (zs.length - 1 - k) 0 := by
  rw [List.getD_eq_getElem?_getD, List.getD_eq_getElem?_getD, List.getElem?_reverse h]
theorem coef_rev (r : Int) (zs : List Int) (h : 0 < zs.length) (e : Int) : coef (1 - r - zs.length) zs.reverse e = coef r zs (-e) := by
  by_cases h1 : 1 - r - zs.length ≤ e
  · obtain ⟨k, hk⟩ : ∃ k : Nat, e = 1 - r - zs.length + (k : Int) := ⟨(e - (1 - r - zs.length)).toNat, by omega⟩
    rw [hk, coef_at]
    unfold coef
    rcases Nat.lt_or_ge k zs.length with h2 | h2
    · rw [rev_at zs h2, if_pos (by omega)]
      congr 1
      omega
    · rw [getD_out (by rw [List.length_reverse]; exact h2), if_neg (by omega)]
  · unfold coef
    rw [if_neg h1]
    split
    · rw [getD_out (by omega)]
    · rfl
theorem szL_sg (zs : List Int) : ∀ k, szL zs k = Sg (fun i => if zs.getD i 0 < 0 then -(zs.getD i 0) else zs.getD i 0) k
  | 0 => rfl
  | k + 1 => by rw [szL, szL_sg zs k]; rfl
theorem szL_rev (zs : List Int) : szL zs.reverse zs.reverse.length = szL zs zs.length := by
  rw [szL_sg, szL_sg, List.length_reverse, ← Sg_rev]
  refine Sg_congr fun i hi => ?_
  rw [rev_at zs (by omega), show zs.length - 1 - (zs.length - 1 - i) = i by omega]
theorem lin_le (f : Int → Int) (hf : ∀ e, f e = 1 ∨ f e = -1) (low : Int) (l : List Int) : -(szL l l.length) ≤ lin f low l ∧ lin f low l ≤ szL l l.length := by
  rw [szL_sg]
  unfold lin
  constructor
  · have := Sg_le (n := l.length) (f := fun i => -1 * (if l.getD i 0 < 0 then -(l.getD i 0) else l.getD i 0)) (g := fun i => f (low + i) * l.getD i 0) fun i _ => by
      rcases hf (low + i) with h | h <;> rw [h] <;> split <;> omega
    rw [Sg_mul] at this
    omega
  · exact Sg_le fun i _ => by rcases hf (low + i) with h | h <;> rw [h] <;> split <;> omega
theorem conv_rev (r : Int) (zs : List Int) (c d : Int → Int) (hd : ∀ e, d e = c (-e)) (e : Int) : conv (1 - r - zs.length) zs.reverse d e = conv r zs c (-e) := by
  unfold conv
  rw [List.length_reverse, ← Sg_rev]
  refine Sg_congr fun i hi => ?_
  rw [rev_at zs (by omega), hd, show zs.length - 1 - (zs.length - 1 - i) = i by omega]
  congr 2
  omega

end Lau
end Go.Proofs.Ytpkjjcfcpmcdiaa
