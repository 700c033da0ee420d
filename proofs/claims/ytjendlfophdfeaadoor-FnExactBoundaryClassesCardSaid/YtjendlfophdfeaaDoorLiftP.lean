/- How lists of lists, presentations and moves that are passed to a law are read. No condition. -/
import Derived.Test.YtjendlfophdfeaaDoorLiftW
import Derived.Test.YtjendlfophdfeaaDoorSsP
import Derived.Deep.Slices
import Derived.Lib.SmallJoins
namespace Go.Proofs.YtjendlfophdfeaaDoor
open Go.ChangeShapes Go.WideShapes Go.ChangeAt Go.RowKit Go.Joins Go.Deep

theorem ints_caps {H : Type} {enc : TypeId × Value → H} {W : World} {base k : Nat} {V : Value} {x : DataW H × List MemPlace}
    (h : DataW.trod enc Tryd.prog W base (fun _ => true) true k 48 [V] = some x) :
    ∃ A n c zs, V = .slice A n c ∧ Ints W W.heap.size A n zs ∧ n ≤ c ∧ c ≤ maxLen := by
  obtain ⟨A, n, c, zs, rfl, hi, hm⟩ := ints_of h
  refine ⟨A, n, c, zs, rfl, hi, ?_⟩
  rcases open_ints Tryd.underlying48 Tryd.underlying2 (by kernel_rfl) h with ⟨hcs, _⟩ | ⟨x, l, c', zs', hcs, _, hl, hm', _⟩
  · simp at hcs
    obtain ⟨rfl, rfl, rfl⟩ := hcs
    exact ⟨Nat.le_refl _, Nat.zero_le _⟩
  · simp at hcs
    obtain ⟨rfl, rfl, rfl⟩ := hcs
    exact ⟨hl, hm'⟩

theorem addr_add (b off j : Nat) : (⟨b, off, none⟩ : Addr).add j = ⟨b, off + j, none⟩ := by unfold Addr.add; split <;> simp_all
theorem rows_choice {P : Nat → Rw → Prop} : ∀ n, (∀ i, i < n → ∃ r, P i r) → ∃ rs : List Rw, rs.length = n ∧ ∀ i, i < n → P i (rs.getD i nilRw)
  | 0, _ => ⟨[], rfl, fun i h => by omega⟩
  | n + 1, h => by
    obtain ⟨rs, hl, hr⟩ := rows_choice n (fun i hi => h i (by omega))
    obtain ⟨r, hr'⟩ := h n (by omega)
    refine ⟨rs ++ [r], by simp [hl], fun i hi => ?_⟩
    by_cases e : i = n
    · subst e
      have : (rs ++ [r]).getD i nilRw = r := by rw [List.getD_eq_getElem?_getD, List.getElem?_append_right (by omega), hl]; simp
      rw [this]; exact hr'
    · have : (rs ++ [r]).getD i nilRw = rs.getD i nilRw := by rw [List.getD_eq_getElem?_getD, List.getElem?_append_left (by omega), ← List.getD_eq_getElem?_getD]
      rw [this]; exact hr i (by omega)

set_option maxRecDepth 100000 in
theorem ss_of {H : Type} {enc : TypeId × Value → H} {W : World} {base k : Nat} {V : Value} {x : DataW H × List MemPlace}
    (h : DataW.trod enc Tryd.prog W base (fun _ => true) true k 56 [V] = some x) :
    ∃ A c rs, V = .slice A rs.length c ∧ RdS W W.heap.size A rs ∧ rs.length ≤ maxLen := by
  rcases open_slice1 (e := 48) Tryd.underlying56 (by kernel_rfl) h with ⟨hcs, _⟩ | ⟨a, len, cap, m, n, Vv, D, Pl, hcs, _, hl, hm, hmm, _, hi⟩
  · simp at hcs
    subst hcs
    exact ⟨none, 0, [], rfl, ⟨fun r hr => by simp at hr, fun h => by simp at h⟩, by simp⟩
  · simp at hcs
    subst hcs
    have hmm' : m = cap := by simpa using hmm
    subst hmm'
    obtain ⟨rs, hlen, hrs⟩ := rows_choice (P := fun i r => Vv i = r.sv ∧ r.Rd W W.heap.size) len (fun i hi' => by
      obtain ⟨hc, ht⟩ := hi i (by omega)
      obtain ⟨A, n', c, zs, e, h1, h2, h3⟩ := ints_caps ht
      have h0 := h1.1
      refine ⟨⟨A, c, zs⟩, by rw [e]; simp [Rw.sv, h0], ?_, h3, ?_⟩
      · dsimp only; omega
      · dsimp only; rw [h0]; exact h1)
    refine ⟨some a, m, rs, by rw [hlen], ⟨fun r hr => ?_, fun h0 => ?_⟩, by omega⟩
    · obtain ⟨i, hi', rfl⟩ := List.mem_iff_getElem.1 hr
      have := (hrs i (by omega)).2
      rwa [List.getD_eq_getElem?_getD, List.getElem?_eq_getElem hi'] at this
    · obtain ⟨b, off, spot⟩ := a
      have hc := (hi 0 (by omega)).1
      have hspot : spot = none := by simpa [Addr.add] using World.cell?_spot hc
      subst hspot
      have hlt := World.block_lt_of_cell? W _ hc
      refine ⟨b, off, rfl, by simpa [Addr.add] using hlt, fun j hj => ?_⟩
      have h1 := (hi j (by omega)).1
      rw [addr_add] at h1
      rw [h1, (hrs j (by omega)).1]

end Go.Proofs.YtjendlfophdfeaaDoor
