/- Sums of two lists of terms, each laid at a place of its own. No condition but those that each theorem names. -/
import Derived.Test.YtpkjjcfcpmcdiaaLauP
namespace Go.Proofs.Ytpkjjcfcpmcdiaa
namespace Lau

/-- N numbers: the first kp of zs from place dp on, and the first kq of ys from place dq on, added. -/
def addL (N dp : Nat) (zs : List Int) (kp dq : Nat) (ys : List Int) (kq : Nat) : List Int :=
  (List.range N).map fun t => (if dp ≤ t ∧ t < dp + kp then zs.getD (t - dp) 0 else 0) + (if dq ≤ t ∧ t < dq + kq then ys.getD (t - dq) 0 else 0)
theorem addL_len (N dp : Nat) (zs : List Int) (kp dq : Nat) (ys : List Int) (kq : Nat) : (addL N dp zs kp dq ys kq).length = N := by simp [addL]
theorem addL_at {N t : Nat} (dp : Nat) (zs : List Int) (kp dq : Nat) (ys : List Int) (kq : Nat) (h : t < N) : (addL N dp zs kp dq ys kq).getD t 0 = (if dp ≤ t ∧ t < dp + kp then zs.getD (t - dp) 0 else 0) + (if dq ≤ t ∧ t < dq + kq then ys.getD (t - dq) 0 else 0) := by
  unfold addL
  rw [List.getD_eq_getElem?_getD, List.getElem?_map, List.getElem?_range h]
  rfl
theorem list_same {l l' : List Int} (h : l.length = l'.length) (ha : ∀ t, t < l.length → l.getD t 0 = l'.getD t 0) : l = l' := by
  refine List.ext_getElem h fun i h1 h2 => ?_
  have := ha i h1
  simpa [List.getElem?_eq_getElem h1, List.getElem?_eq_getElem h2] using this
theorem getD_set' {l : List Int} {i : Nat} (x : Int) (t : Nat) (h : i < l.length) : (l.set i x).getD t 0 = if t = i then x else l.getD t 0 := by
  by_cases e : t = i
  · subst e
    rw [if_pos rfl, List.getD_eq_getElem?_getD, List.getElem?_set_self h]; rfl
  · rw [if_neg e, List.getD_eq_getElem?_getD, List.getElem?_set_ne (by omega), ← List.getD_eq_getElem?_getD]
theorem addL_q {N dp : Nat} {zs : List Int} {kp dq : Nat} {ys : List Int} {kq : Nat} (h : dq + kq < N) :
    (addL N dp zs kp dq ys kq).set (dq + kq) ((addL N dp zs kp dq ys kq).getD (dq + kq) 0 + ys.getD kq 0) = addL N dp zs kp dq ys (kq + 1) := by
  refine list_same (by rw [List.length_set, addL_len, addL_len]) fun t ht => ?_
  rw [List.length_set, addL_len] at ht
  rw [getD_set' _ _ (by rw [addL_len]; exact h), addL_at _ _ _ _ _ _ ht, addL_at _ _ _ _ _ _ h, addL_at _ _ _ _ _ _ ht]
  by_cases e : t = dq + kq
  · subst e
    rw [if_pos rfl, if_neg (show ¬ (dq ≤ dq + kq ∧ dq + kq < dq + kq) by omega), if_pos (show dq ≤ dq + kq ∧ dq + kq < dq + (kq + 1) by omega), show dq + kq - dq = kq by omega]
    omega
  · rw [if_neg e]
    congr 1
    by_cases e2 : dq ≤ t ∧ t < dq + kq
    · rw [if_pos e2, if_pos (by omega)]
    · rw [if_neg e2, if_neg (by omega)]
theorem addL_p {N dp : Nat} {zs : List Int} {kp dq : Nat} {ys : List Int} (h : dp + kp < N) :
    (addL N dp zs kp dq ys 0).set (dp + kp) ((addL N dp zs kp dq ys 0).getD (dp + kp) 0 + zs.getD kp 0) = addL N dp zs (kp + 1) dq ys 0 := by
  refine list_same (by rw [List.length_set, addL_len, addL_len]) fun t ht => ?_
  rw [List.length_set, addL_len] at ht
  rw [getD_set' _ _ (by rw [addL_len]; exact h), addL_at _ _ _ _ _ _ ht, addL_at _ _ _ _ _ _ h, addL_at _ _ _ _ _ _ ht]
  by_cases e : t = dp + kp
  · subst e
    rw [if_pos rfl, if_neg (show ¬ (dp ≤ dp + kp ∧ dp + kp < dp + kp) by omega), if_pos (show dp ≤ dp + kp ∧ dp + kp < dp + (kp + 1) by omega), show dp + kp - dp = kp by omega, if_neg (show ¬ (dq ≤ dp + kp ∧ dp + kp < dq + 0) by omega)]
    omega
  · rw [if_neg e]
    congr 1
    by_cases e2 : dp ≤ t ∧ t < dp + kp
    · rw [if_pos e2, if_pos (by omega)]
    · rw [if_neg e2, if_neg (by omega)]
theorem addL_zero (N dp : Nat) (zs : List Int) (dq : Nat) (ys : List Int) : addL N dp zs 0 dq ys 0 = List.replicate N 0 := by
  refine list_same (by rw [addL_len, List.length_replicate]) fun t ht => ?_
  rw [addL_len] at ht
  rw [addL_at _ _ _ _ _ _ ht, if_neg (by omega), if_neg (by omega)]
  simp [ht]
theorem addL_copy {N n : Nat} {zs : List Int} (dq : Nat) (ys : List Int) (hz : zs.length = n) (hn : n ≤ N) : addL N 0 zs n dq ys 0 = zs ++ List.replicate (N - n) 0 := by
  refine list_same (by rw [addL_len, List.length_append, List.length_replicate]; omega) fun t ht => ?_
  rw [addL_len] at ht
  rw [addL_at _ _ _ _ _ _ ht, if_neg (show ¬ (dq ≤ t ∧ t < dq + 0) by omega), Int.add_zero]
  by_cases e : t < n
  · rw [if_pos (by omega), Nat.sub_zero, List.getD_eq_getElem?_getD, List.getD_eq_getElem?_getD, List.getElem?_append_left (by omega)]
  · rw [if_neg (by omega), List.getD_eq_getElem?_getD, List.getElem?_append_right (by omega)]
    simp [show t - zs.length < N - n by omega]
theorem addL_bound {N dp : Nat} {zs : List Int} {kp dq : Nat} {ys : List Int} {kq : Nat} (hz : ∀ i, -1000000000000 ≤ zs.getD i 0 ∧ zs.getD i 0 ≤ 1000000000000) (hy : ∀ i, -1000000000000 ≤ ys.getD i 0 ∧ ys.getD i 0 ≤ 1000000000000) (t : Nat) :
    -2000000000000 ≤ (addL N dp zs kp dq ys kq).getD t 0 ∧ (addL N dp zs kp dq ys kq).getD t 0 ≤ 2000000000000 := by
  rcases Nat.lt_or_ge t N with h | h
  · rw [addL_at _ _ _ _ _ _ h]
    have h1 := hz (t - dp)
    have h2 := hy (t - dq)
    split <;> split <;> omega
  · rw [getD_out (by rw [addL_len]; exact h)]; omega
theorem addL_coef {N dp n dq m : Nat} {zs ys : List Int} (low : Int) (hz : zs.length = n) (hy : ys.length = m) (h1 : dp + n ≤ N) (h2 : dq + m ≤ N) (e : Int) :
    coef low (addL N dp zs n dq ys m) e = coef (low + dp) zs e + coef (low + dq) ys e := by
  have part : ∀ (d k : Nat) (l : List Int) (t : Nat), l.length = k → e = low + (t : Int) → (if d ≤ t ∧ t < d + k then l.getD (t - d) 0 else 0) = coef (low + d) l e := by
    intro d k l t hk he
    unfold coef
    by_cases c1 : d ≤ t
    · rw [if_pos (show low + (d : Int) ≤ e by omega), show (e - (low + (d : Int))).toNat = t - d by omega]
      by_cases c2 : t < d + k
      · rw [if_pos ⟨c1, c2⟩]
      · rw [if_neg (by omega), getD_out (by omega)]
    · rw [if_neg (by omega), if_neg (by omega)]
  by_cases hl : low ≤ e
  · obtain ⟨t, ht⟩ : ∃ t : Nat, e = low + (t : Int) := ⟨(e - low).toNat, by omega⟩
    rw [← part dp n zs t hz ht, ← part dq m ys t hy ht]
    have : coef low (addL N dp zs n dq ys m) e = (addL N dp zs n dq ys m).getD t 0 := by rw [ht, coef_at]
    rw [this]
    rcases Nat.lt_or_ge t N with h | h
    · rw [addL_at _ _ _ _ _ _ h]
    · rw [getD_out (by rw [addL_len]; exact h), if_neg (by omega), if_neg (by omega)]; rfl
  · unfold coef
    rw [if_neg hl, if_neg (by omega), if_neg (by omega)]; rfl

/-- N numbers: the products of the first t pairs of terms, each added at the sum of its places; the pairs in the order of rows of m. -/
def cv (zs ys : List Int) (m k : Nat) : Nat → Int
  | 0 => 0
  | t + 1 => cv zs ys m k t + (if t / m + t % m = k then zs.getD (t / m) 0 * ys.getD (t % m) 0 else 0)
def mulL (N : Nat) (zs ys : List Int) (m t : Nat) : List Int := (List.range N).map fun k => cv zs ys m k t
theorem mulL_len (N : Nat) (zs ys : List Int) (m t : Nat) : (mulL N zs ys m t).length = N := by simp [mulL]
theorem mulL_at {N k : Nat} (zs ys : List Int) (m t : Nat) (h : k < N) : (mulL N zs ys m t).getD k 0 = cv zs ys m k t := by
  unfold mulL
  rw [List.getD_eq_getElem?_getD, List.getElem?_map, List.getElem?_range h]
  rfl
theorem mulL_zero (N : Nat) (zs ys : List Int) (m : Nat) : mulL N zs ys m 0 = List.replicate N 0 := by
  refine list_same (by rw [mulL_len, List.length_replicate]) fun t ht => ?_
  rw [mulL_len] at ht
  rw [mulL_at _ _ _ _ ht]
  simp [ht, cv]
theorem mulL_next {N : Nat} {zs ys : List Int} {m i j : Nat} (hj : j < m) (h : i + j < N) :
    (mulL N zs ys m (i * m + j)).set (i + j) ((mulL N zs ys m (i * m + j)).getD (i + j) 0 + zs.getD i 0 * ys.getD j 0) = mulL N zs ys m (i * m + j + 1) := by
  have e1 : (i * m + j) % m = j := by rw [Nat.add_comm, Nat.add_mul_mod_self_right, Nat.mod_eq_of_lt hj]
  have e2 : (i * m + j) / m = i := by rw [Nat.add_comm, Nat.add_mul_div_right _ _ (by omega), Nat.div_eq_of_lt hj, Nat.zero_add]
  refine list_same (by rw [List.length_set, mulL_len, mulL_len]) fun t ht => ?_
  rw [List.length_set, mulL_len] at ht
  rw [getD_set' _ _ (by rw [mulL_len]; exact h), mulL_at _ _ _ _ ht, mulL_at _ _ _ _ h, mulL_at _ _ _ _ ht]
  rw [cv, e1, e2]
  by_cases e : t = i + j
  · subst e
    rw [if_pos rfl, if_pos rfl]
  · rw [if_neg e, if_neg (by omega)]
    omega
theorem cv_bound {zs ys : List Int} {M : Int} (hM : 0 ≤ M) (h : ∀ i j, -M ≤ zs.getD i 0 * ys.getD j 0 ∧ zs.getD i 0 * ys.getD j 0 ≤ M) (m k : Nat) : ∀ t : Nat, -((t : Int) * M) ≤ cv zs ys m k t ∧ cv zs ys m k t ≤ (t : Int) * M
  | 0 => by simp [cv]
  | t + 1 => by
    have h1 := cv_bound hM h m k t
    have h2 := h (t / m) (t % m)
    have e : ((t + 1 : Nat) : Int) * M = (t : Int) * M + M := by rw [Int.natCast_add, Int.add_mul]; simp
    rw [cv, e]
    split <;> omega
theorem mulL_bound {N m t : Nat} {zs ys : List Int} (h : ∀ i j, -1000000000000 ≤ zs.getD i 0 * ys.getD j 0 ∧ zs.getD i 0 * ys.getD j 0 ≤ 1000000000000) (ht : t ≤ 25600) (k : Nat) :
    -30000000000000000 ≤ (mulL N zs ys m t).getD k 0 ∧ (mulL N zs ys m t).getD k 0 ≤ 30000000000000000 := by
  rcases Nat.lt_or_ge k N with hk | hk
  · rw [mulL_at _ _ _ _ hk]
    have := cv_bound (by omega) h m k t
    have h2 : (t : Int) * 1000000000000 ≤ 25600 * 1000000000000 := Int.mul_le_mul_of_nonneg_right (by omega) (by omega)
    omega
  · rw [getD_out (by rw [mulL_len]; exact hk)]; omega
/-- Two such lists, each long enough, stand for one polynomial. -/
theorem mulL_coef {N N' n m : Nat} {zs ys : List Int} (low : Int) (h1 : n + m ≤ N + 1) (h2 : n + m ≤ N' + 1) (e : Int) : coef low (mulL N zs ys m (n * m)) e = coef low (mulL N' zs ys m (n * m)) e := by
  have out : ∀ (K k t : Nat), n + m ≤ K + 1 → K ≤ k → t ≤ n * m → cv zs ys m k t = 0 := by
    intro K k t hK hk
    induction t with
    | zero => intro _; rfl
    | succ t ih =>
      intro ht
      have hm : 0 < m := by
        rcases Nat.eq_zero_or_pos m with h0 | h0
        · rw [h0] at ht; omega
        · exact h0
      have a1 : t / m < n := (Nat.div_lt_iff_lt_mul hm).2 (by omega)
      have a2 : t % m < m := Nat.mod_lt _ hm
      rw [cv, ih (by omega), if_neg (by omega)]; rfl
  unfold coef
  by_cases hl : low ≤ e
  · rw [if_pos hl, if_pos hl]
    rcases Nat.lt_or_ge (e - low).toNat N with c1 | c1
    · rcases Nat.lt_or_ge (e - low).toNat N' with c2 | c2
      · rw [mulL_at _ _ _ _ c1, mulL_at _ _ _ _ c2]
      · rw [mulL_at _ _ _ _ c1, getD_out (l := mulL N' zs ys m (n * m)) (by rw [mulL_len]; exact c2)]
        exact out N' _ _ h2 c2 (Nat.le_refl _)
    · rw [getD_out (l := mulL N zs ys m (n * m)) (by rw [mulL_len]; exact c1)]
      rcases Nat.lt_or_ge (e - low).toNat N' with c2 | c2
      · rw [mulL_at _ _ _ _ c2]
        exact (out N _ _ h1 c1 (Nat.le_refl _)).symm
      · rw [getD_out (by rw [mulL_len]; exact c2)]
  · rw [if_neg hl, if_neg hl]

/-- The sum of the absolute values of the first k terms. -/
def szL (zs : List Int) : Nat → Int
  | 0 => 0
  | k + 1 => szL zs k + (if zs.getD k 0 < 0 then -(zs.getD k 0) else zs.getD k 0)
theorem szL_pos (zs : List Int) : ∀ k, 0 ≤ szL zs k
  | 0 => by simp [szL]
  | k + 1 => by
    have := szL_pos zs k
    rw [szL]
    split <;> omega
theorem szL_le {zs : List Int} (hz : ∀ i, -1000000000000 ≤ zs.getD i 0 ∧ zs.getD i 0 ≤ 1000000000000) : ∀ k : Nat, szL zs k ≤ (k : Int) * 1000000000000
  | 0 => by simp [szL]
  | k + 1 => by
    have := szL_le hz k
    have := hz k
    rw [szL]
    split <;> omega
theorem szL_ge (zs : List Int) : ∀ (k i : Nat), i < k → -(szL zs k) ≤ zs.getD i 0 ∧ zs.getD i 0 ≤ szL zs k
  | 0, i, h => by omega
  | k + 1, i, h => by
    have hp := szL_pos zs k
    rw [szL]
    by_cases e : i = k
    · subst e
      split <;> omega
    · have := szL_ge zs k i (by omega)
      split <;> omega
theorem szL_all {zs : List Int} {n : Nat} (hn : zs.length = n) (i : Nat) : -(szL zs n) ≤ zs.getD i 0 ∧ zs.getD i 0 ≤ szL zs n := by
  rcases Nat.lt_or_ge i n with h | h
  · exact szL_ge zs n i h
  · rw [getD_out (by omega)]
    have := szL_pos zs n
    omega
theorem prod_abs {x y a b : Int} (hx : -a ≤ x ∧ x ≤ a) (hy : -b ≤ y ∧ y ≤ b) (_ha : 0 ≤ a) (hb : 0 ≤ b) : -(a * b) ≤ x * y ∧ x * y ≤ a * b := by
  have h1 : (x * y).natAbs ≤ (a * b).natAbs := by
    rw [Int.natAbs_mul, Int.natAbs_mul]
    exact Nat.mul_le_mul (by omega) (by omega)
  have h2 : 0 ≤ a * b := Int.mul_nonneg _ha hb
  omega
theorem prod_le {zs ys : List Int} {n m : Nat} (hn : zs.length = n) (hm : ys.length = m) (h : szL zs n * szL ys m ≤ 1000000000000) (i j : Nat) : -1000000000000 ≤ zs.getD i 0 * ys.getD j 0 ∧ zs.getD i 0 * ys.getD j 0 ≤ 1000000000000 := by
  have := prod_abs (szL_all hn i) (szL_all hm j) (szL_pos _ _) (szL_pos _ _)
  omega

end Lau
end Go.Proofs.Ytpkjjcfcpmcdiaa
