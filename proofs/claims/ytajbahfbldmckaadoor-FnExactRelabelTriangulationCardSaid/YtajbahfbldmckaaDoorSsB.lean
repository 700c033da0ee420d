/- Contracts of the laws' helpers over slices of slices of int64: sizes, copies, comparisons, marks. No condition but those that each theorem names. -/
import Derived.Test.YtajbahfbldmckaaDoorSsA
namespace Go.Proofs.YtajbahfbldmckaaDoor
open Go.RowKit

/-- What a copy hands back: the same numbers in new memory. -/
def MadeS (w : World) (rs : List Rw) (e : Ending) (w' : World) : Prop :=
  ∃ g c rs', e = .returned (.slice (some ⟨g, 0, none⟩) rs'.length c) ∧ OwnS w' w.heap.size w'.heap.size (some ⟨g, 0, none⟩) c rs' ∧ vals rs' = vals rs ∧ Below w.heap.size w w'
/-- The rows that have been copied, and the rest still empty. -/
def CopS (rs : List Rw) (k : Nat) (qs : List Rw) : Prop := vals qs = vals (rs.take k) ++ List.replicate (rs.length - k) []
theorem CopS.start (rs : List Rw) : CopS rs 0 (List.replicate rs.length nilRw) := by simp [CopS, vals, nilRw]
theorem CopS.len {rs qs : List Rw} {k : Nat} (h : CopS rs k qs) (hk : k ≤ rs.length) : qs.length = rs.length := by
  have := congrArg List.length h
  simp [vals] at this
  omega
theorem CopS.set_ {rs qs : List Rw} {k : Nat} (h : CopS rs k qs) (hk : k < rs.length) {r : Rw} (hr : r.zs = (rs.getD k nilRw).zs) : CopS rs (k + 1) (qs.set k r) := by
  unfold CopS at h ⊢
  have e0 : (vals (rs.take k)).length = k := by simp [vals]; omega
  have e : k - (vals (rs.take k)).length = 0 := by omega
  have e2 : rs.length - k = (rs.length - (k + 1)) + 1 := by omega
  have e3 : vals (qs.set k r) = (vals qs).set k r.zs := by simp [vals, List.map_set]
  have e4 : vals (rs.take (k + 1)) = vals (rs.take k) ++ [r.zs] := by rw [take_row hk, vals, List.map_append, hr]; rfl
  rw [e3, h, e4, List.set_append_right _ _ (by omega), e, e2, List.replicate_succ, List.set_cons_zero, List.append_assoc]
  rfl
theorem CopS.all {rs qs : List Rw} (h : CopS rs rs.length qs) : vals qs = vals rs := by simpa [CopS] using h

/-- The rows with the numbers k, k + 1, .. in them. -/
def mk (k : Int) : List Rw → List Rw
  | [] => []
  | r :: rs => ⟨r.A, r.c, marks k r.zs.length⟩ :: mk (k + r.zs.length) rs
theorem mk_len (rs : List Rw) : ∀ k, (mk k rs).length = rs.length := by
  induction rs with
  | nil => intro k; rfl
  | cons r rs ih => intro k; simp [mk, ih]
theorem mk_tot (rs : List Rw) : ∀ k, tot (mk k rs) = tot rs := by
  induction rs with
  | nil => intro k; rfl
  | cons r rs ih => intro k; simp [mk, tot, ih, marks_len]
theorem mk_at (rs : List Rw) : ∀ (k : Int) (j : Nat), j < rs.length → (mk k rs).getD j nilRw = ⟨(rs.getD j nilRw).A, (rs.getD j nilRw).c, marks (k + tot (rs.take j)) (rs.getD j nilRw).zs.length⟩ := by
  induction rs with
  | nil => intro k j h; simp at h
  | cons r rs ih =>
    intro k j h
    cases j with
    | zero => simp [mk, tot]
    | succ j =>
      have := ih (k + r.zs.length) j (by simpa using h)
      simp only [mk, List.getD_cons_succ, List.take_succ_cons, tot] at this ⊢
      rw [this]
      congr 2
      push_cast
      omega
/-- The first j rows marked. -/
def mkd (k : Int) (rs : List Rw) (j : Nat) : List Rw := mk k (rs.take j) ++ rs.drop j
theorem mkd_zero (k : Int) (rs : List Rw) : mkd k rs 0 = rs := by simp [mkd, mk]
theorem mkd_all (k : Int) (rs : List Rw) {n : Nat} (h : rs.length = n) : mkd k rs n = mk k rs := by simp [mkd, ← h]
theorem mkd_len (k : Int) (rs : List Rw) (j : Nat) : (mkd k rs j).length = rs.length := by simp [mkd, mk_len]; omega
theorem mk_snoc (rs : List Rw) (r : Rw) : ∀ k, mk k (rs ++ [r]) = mk k rs ++ [⟨r.A, r.c, marks (k + tot rs) r.zs.length⟩] := by
  induction rs with
  | nil => intro k; simp [mk, tot]
  | cons q rs ih =>
    intro k
    have e : k + (q.zs.length : Int) + (tot rs : Int) = k + ((q.zs.length + tot rs : Nat) : Int) := by push_cast; omega
    simp only [List.cons_append, mk, ih, tot, e]
theorem mkd_at (k : Int) (rs : List Rw) {j : Nat} (h : j < rs.length) : (mkd k rs j).getD j nilRw = rs.getD j nilRw := by
  have e : (mk k (rs.take j)).length = j := by rw [mk_len]; simp; omega
  rw [mkd, List.getD_eq_getElem?_getD, List.getElem?_append_right (by omega), e, Nat.sub_self, List.getElem?_drop, Nat.add_zero, ← List.getD_eq_getElem?_getD]
theorem mkd_set (k : Int) (rs : List Rw) {j : Nat} (h : j < rs.length) : (mkd k rs j).set j ⟨(rs.getD j nilRw).A, (rs.getD j nilRw).c, marks (k + tot (rs.take j)) (rs.getD j nilRw).zs.length⟩ = mkd k rs (j + 1) := by
  have e : (mk k (rs.take j)).length = j := by rw [mk_len]; simp; omega
  have e2 : rs.drop j = rs.getD j nilRw :: rs.drop (j + 1) := by
    rw [List.drop_eq_getElem_cons h, List.getD_eq_getElem?_getD, List.getElem?_eq_getElem h]; rfl
  unfold mkd
  rw [List.set_append_right _ _ (by omega), e, Nat.sub_self, e2, List.set_cons_zero, take_row h, mk_snoc, List.append_assoc]
  rfl

/-- A row's own numbers turn; all else stays. -/
theorem OwnS.turn {w w' : World} {lo hi c : Nat} {A : Option Addr} {rs : List Rw} (h : OwnS w lo hi A c rs) (hhi : hi ≤ w.heap.size) {j : Nat} {r : Rw} (hj : j < rs.length) (hr : rs.getD j nilRw = r) {new : List Int} (hlen : new.length = r.zs.length) (hm : Mine w' lo hi r.A new.length new)
    (hk : ∀ k, k < w.heap.size → r.Off k → w'.heap[k]? = w.heap[k]?) : OwnS w' lo hi A c (rs.set j ⟨r.A, r.c, new⟩) := by
  have hget : rs[j]'hj = r := by rw [← hr, List.getD_eq_getElem?_getD, List.getElem?_eq_getElem hj]; rfl
  have hsv : (rs.set j ⟨r.A, r.c, new⟩).map Rw.sv = rs.map Rw.sv := by
    rw [List.map_set]
    have e : Rw.sv ⟨r.A, r.c, new⟩ = Rw.sv r := by simp [Rw.sv, hlen]
    rw [e, ← hget]
    apply List.ext_getElem?
    intro i
    rw [List.getElem?_set]
    split
    · rename_i e'; subst e'; simp [hj]
    · rfl
  have hin : r ∈ rs := by rw [← hget]; exact List.getElem_mem hj
  have hkeep : ∀ (q : Rw) (_ : q ∈ rs), (∀ a, q.A = some a → 0 < q.zs.length → r.Off a.block) → q.In w' lo hi := fun q hq hd => by
    have hqi := h.mine q hq
    refine ⟨hqi.le, hqi.cap, hqi.mine.1, fun h0 => ?_⟩
    obtain ⟨g, off, e, h1, h2, h3⟩ := hqi.mine.2 h0
    have hb := hk g (by omega) (hd _ e h0)
    exact ⟨g, off, e, h1, h2, fun i hi' => ⟨(World.cell?_of_block (a := ⟨g, off + i, none⟩) hb).trans (h3 i hi').1, (World.frozen?_of_block (a := ⟨g, off + i, none⟩) hb).trans (h3 i hi').2⟩⟩
  refine ⟨?_, h.top, fun q hq => ?_, fun q hq a ha => ?_, ?_⟩
  · rw [hsv, List.length_set]
    refine ⟨h.row.1, ?_⟩
    rcases h.row.2 with h0 | ⟨g, cap, cur, hv, hb, hg, rest⟩
    · exact .inl h0
    · refine .inr ⟨g, cap, cur, hv, hb, ?_, rest⟩
      injection hv with h1 h2 h3
      rw [hk g (by have := h.top _ h1; dsimp only at this; omega) (by have := h.off r hin _ h1; exact this)]
      exact hg
  · obtain ⟨i, hi', rfl⟩ := List.mem_iff_getElem.1 hq
    rw [List.getElem_set]
    simp only [List.length_set] at hi'
    split
    · have hri := h.mine r hin
      exact ⟨by rw [hlen]; exact hri.le, hri.cap, hm⟩
    · rename_i hne
      refine hkeep _ (List.getElem_mem _) fun a ha h0 b hb h0' => ?_
      rcases Nat.lt_or_ge i j with hij | hij
      · have := (List.pairwise_iff_getElem.1 h.apart) i j hi' hj hij
        rw [hget] at this
        exact (this a b ha hb h0 h0').symm
      · have := (List.pairwise_iff_getElem.1 h.apart) j i hj hi' (by omega)
        rw [hget] at this
        exact this b a hb ha h0' h0
  · rcases List.mem_or_eq_of_mem_set hq with hq | rfl
    · exact h.off q hq a ha
    · intro b hb h0
      exact h.off r hin a ha b hb (by rw [← hlen]; exact h0)
  · rw [List.pairwise_iff_getElem]
    intro i k hi' hk' hik
    simp only [List.length_set] at hi' hk'
    have hp := (List.pairwise_iff_getElem.1 h.apart) i k hi' hk' hik
    rw [List.getElem_set, List.getElem_set]
    by_cases e1 : j = i
    · subst e1
      rw [if_pos rfl, if_neg (by omega)]
      rw [hget] at hp
      exact fun a b ha hb h0 h0' => hp a b ha hb (by rw [← hlen]; exact h0) h0'
    · rw [if_neg e1]
      by_cases e2 : j = k
      · subst e2
        rw [if_pos rfl]
        rw [hget] at hp
        exact fun a b ha hb h0 h0' => hp a b ha hb h0 (by rw [← hlen]; exact h0')
      · rw [if_neg e2]
        exact hp
/-- Where a row's numbers lie. -/
theorem Rw.In.narrow {w : World} {lo hi : Nat} {r : Rw} (h : r.In w lo hi) : ∃ gl gh, Mine w gl gh r.A r.zs.length r.zs ∧ (∀ k, r.Off k → ¬ (gl ≤ k ∧ k < gh)) ∧ (∀ k, gl ≤ k → k < gh → lo ≤ k ∧ k < hi) := by
  rcases Nat.eq_zero_or_pos r.zs.length with h0 | h0
  · exact ⟨0, 0, ⟨rfl, fun h => by omega⟩, fun k _ => by omega, fun k _ _ => by omega⟩
  · obtain ⟨g, off, e, h1, h2, h3⟩ := h.mine.2 h0
    refine ⟨g, g + 1, ⟨rfl, fun _ => ⟨g, off, e, Nat.le_refl _, Nat.lt_succ_self _, h3⟩⟩, fun k hk hg => ?_, fun k _ _ => by omega⟩
    exact hk _ e h0 (by dsimp only; omega)

end Go.Proofs.YtajbahfbldmckaaDoor
