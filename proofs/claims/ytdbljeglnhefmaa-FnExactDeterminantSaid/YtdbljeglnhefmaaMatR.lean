/- The elimination as a function on lists. No condition but those that each theorem names. -/
import Derived.Test.YtdbljeglnhefmaaMatQ
namespace Go.Proofs.Ytdbljeglnhefmaa
open Go.RowKit

/-- The first row from N - d on whose entry in column k is not 0. -/
def piv (N : Nat) (l : List Int) (k : Nat) : Nat → Option Nat
  | 0 => none
  | d + 1 => if l.getD ((N - (d + 1)) * N + k) 0 = 0 then piv N l k d else some (N - (d + 1))
/-- The state behind the first k steps: sign, last pivot, entries; none if a column has no pivot. -/
def st (N : Nat) (l0 : List Int) : Nat → Option (Int × Int × List Int)
  | 0 => some (1, 1, l0)
  | k + 1 => match st N l0 k with
    | none => none
    | some (s, p, l) => match piv N l k (N - k) with
      | none => none
      | some q => if q = k then some (s, (redAll N k p l (N - (k + 1))).getD (k * N + k) 0, redAll N k p l (N - (k + 1)))
        else some (-s, (redAll N k p (swp N q k l N) (N - (k + 1))).getD (k * N + k) 0, redAll N k p (swp N q k l N) (N - (k + 1)))
def detv (N : Nat) (l0 : List Int) : Int := match st N l0 N with
  | none => 0
  | some (s, p, _) => wrap64 (s * p)
theorem st_none {N : Nat} {l0 : List Int} {k : Nat} (h : st N l0 k = none) : ∀ m, st N l0 (k + m) = none := by
  intro m
  induction m with
  | zero => exact h
  | succ m ih => rw [← Nat.add_assoc, st, ih]
theorem detv_none {N : Nat} {l0 : List Int} {k : Nat} (hk : k ≤ N) (h : st N l0 k = none) : detv N l0 = 0 := by
  have := st_none h (N - k)
  rw [show k + (N - k) = N by omega] at this
  unfold detv
  rw [this]
theorem st_sign {N : Nat} {l0 : List Int} : ∀ {k : Nat} {s p : Int} {l : List Int}, st N l0 k = some (s, p, l) → s = 1 ∨ s = -1 := by
  intro k
  induction k with
  | zero => intro s p l h; simp [st] at h; omega
  | succ k ih =>
    intro s p l h
    rw [st] at h
    rcases hs : st N l0 k with _ | ⟨s', p', l'⟩
    · rw [hs] at h; cases h
    · rw [hs] at h
      have := ih hs
      simp only at h
      split at h
      · cases h
      · split at h <;> (simp at h; omega)

theorem getD_set_ne {l : List Int} {i j : Nat} {v : Int} (h : i ≠ j) : (l.set i v).getD j 0 = l.getD j 0 := by
  simp [h]
theorem getD_set_eq {l : List Int} {i : Nat} {v : Int} (h : i < l.length) : (l.set i v).getD i 0 = v := by
  simp [h]
theorem redRow_len (N k : Nat) (p : Int) (i : Nat) (l : List Int) (s : Nat) : (redRow N k p i l s).length = l.length := by
  induction s with
  | zero => rfl
  | succ s ih => simp [redRow, ih]
theorem redAll_len (N k : Nat) (p : Int) (l : List Int) (r : Nat) : (redAll N k p l r).length = l.length := by
  induction r with
  | zero => rfl
  | succ r ih => rw [redAll, redRow_len, ih]
theorem redRow_kk {N k : Nat} (p : Int) {i : Nat} (l : List Int) (hk : k < N) (hi : k < i) (s : Nat) : (redRow N k p i l s).getD (k * N + k) 0 = l.getD (k * N + k) 0 := by
  induction s with
  | zero => rfl
  | succ s ih =>
    rw [redRow, getD_set_ne, ih]
    have : (k + 1) * N ≤ i * N := Nat.mul_le_mul_right N hi
    rw [Nat.add_mul] at this
    omega
theorem redAll_kk {N k : Nat} (p : Int) (l : List Int) (hk : k < N) (r : Nat) : (redAll N k p l r).getD (k * N + k) 0 = l.getD (k * N + k) 0 := by
  induction r with
  | zero => rfl
  | succ r ih => rw [redAll, redRow_kk p _ hk (by omega), ih]

/-- Two places of different rows differ. -/
theorem row_ne {N a b c d : Nat} (hab : a ≠ b) (hc : c < N) (hd : d < N) : a * N + c ≠ b * N + d := by
  intro h
  have h1 : (a * N + c) / N = a := by rw [Nat.add_comm, Nat.add_mul_div_right _ _ (by omega), Nat.div_eq_of_lt hc, Nat.zero_add]
  have h2 : (b * N + d) / N = b := by rw [Nat.add_comm, Nat.add_mul_div_right _ _ (by omega), Nat.div_eq_of_lt hd, Nat.zero_add]
  rw [h, h2] at h1
  exact hab h1.symm
theorem swp_at {N a b : Nat} (l : List Int) (hab : a ≠ b) (_ha : a < N) (hb : b < N) (hl : l.length = N * N) : ∀ t, t ≤ N → ∀ c, c < N →
    (swp N a b l t).getD (b * N + c) 0 = (if c < t then l.getD (a * N + c) 0 else l.getD (b * N + c) 0) ∧ (c < t ∨ (swp N a b l t).getD (a * N + c) 0 = l.getD (a * N + c) 0) := by
  intro t
  induction t with
  | zero => intro _ c _; simp [swp]
  | succ t ih =>
    intro ht c hc
    have h1 := ih (by omega) c hc
    have h2 := ih (by omega) t (by omega)
    have hlen : (swp N a b l t).length = N * N := by rw [swp_len, hl]
    rw [swp]
    by_cases e : c = t
    · subst e
      refine ⟨?_, .inl (by omega)⟩
      rw [getD_set_eq (by simp [hlen]; exact ij_lt hb hc), if_pos (by omega)]
      rcases h2.2 with h | h
      · omega
      · exact h
    · have n1 : b * N + t ≠ b * N + c := by omega
      have n2 : a * N + t ≠ b * N + c := row_ne hab (by omega) hc
      have n3 : b * N + t ≠ a * N + c := row_ne (Ne.symm hab) (by omega) hc
      have n4 : a * N + t ≠ a * N + c := by omega
      rw [getD_set_ne n1, getD_set_ne n2, getD_set_ne n3, getD_set_ne n4, h1.1]
      refine ⟨?_, ?_⟩
      · by_cases e2 : c < t
        · rw [if_pos e2, if_pos (by omega)]
        · rw [if_neg e2, if_neg (by omega)]
      · rcases h1.2 with h | h
        · exact .inl (by omega)
        · exact .inr h
theorem swp_kk {N q k : Nat} (l : List Int) (h : q ≠ k) (hq : q < N) (hk : k < N) (hl : l.length = N * N) : (swp N q k l N).getD (k * N + k) 0 = l.getD (q * N + k) 0 := by
  rw [(swp_at l h hq hk hl N (Nat.le_refl _) k hk).1, if_pos hk]
theorem piv_here {N : Nat} {l : List Int} {k q : Nat} (hq : q < N) (h : ¬ l.getD (q * N + k) 0 = 0) : piv N l k (N - q) = some q := by
  have : N - q = (N - q - 1) + 1 := by omega
  rw [this, piv, show N - (N - q - 1 + 1) = q by omega, if_neg h]
theorem piv_next {N : Nat} {l : List Int} {k q : Nat} (hq : q < N) (h : l.getD (q * N + k) 0 = 0) : piv N l k (N - q) = piv N l k (N - (q + 1)) := by
  have : N - q = (N - q - 1) + 1 := by omega
  rw [this, piv, show N - (N - q - 1 + 1) = q by omega, if_pos h]
  congr 1

end Go.Proofs.Ytdbljeglnhefmaa
