/- How lists of lists, presentations and moves that are passed to a law are read. No condition. -/
import Derived.Test.YtajbahfbldmckaaDoorLiftW
import Derived.Test.YtajbahfbldmckaaDoorSsP
import Derived.Deep.Slices
import Derived.Lib.SmallJoins
namespace Go.Proofs.YtajbahfbldmckaaDoor
open Go.ChangeShapes Go.WideShapes Go.ChangeAt Go.RowKit Go.Joins Go.Deep

theorem ints_caps {H : Type} {enc : TypeId × Value → H} {W : World} {base k : Nat} {V : Value} {x : DataW H × List MemPlace}
    (h : DataW.trod enc Tryd.prog W base (fun _ => true) true k 39 [V] = some x) :
    ∃ A n c zs, V = .slice A n c ∧ Ints W W.heap.size A n zs ∧ n ≤ c ∧ c ≤ maxLen := by
  obtain ⟨A, n, c, zs, rfl, hi, hm⟩ := ints_of h
  refine ⟨A, n, c, zs, rfl, hi, ?_⟩
  rcases open_ints Tryd.underlying39 Tryd.underlying2 (by kernel_rfl) h with ⟨hcs, _⟩ | ⟨x, l, c', zs', hcs, _, hl, hm', _⟩
  · simp at hcs
    obtain ⟨rfl, rfl, rfl⟩ := hcs
    exact ⟨Nat.le_refl _, Nat.zero_le _⟩
  · simp at hcs
    obtain ⟨rfl, rfl, rfl⟩ := hcs
    exact ⟨hl, hm'⟩

theorem addr_add (b off j : Nat) : (⟨b, off, none⟩ : Addr).add j = ⟨b, off + j, none⟩ := by unfold Addr.add; split <;> simp_all
theorem rows_choice {P : Nat → Rw → Prop} : ∀ n, (∀ i, i < n → ∃ r, P i r) → ∃ rs : List Rw, rs.length = n ∧ ∀ i, i < n → P i (rs.getD i nilRw)
  | 0, _ => ⟨[], rfl, fun i h => by omega⟩
  | n + 1, h => by
    obtain ⟨rs, hl, hr⟩ := rows_choice n (fun i hi => h i (by omega))
    obtain ⟨r, hr'⟩ := h n (by omega)
    refine ⟨rs ++ [r], by simp [hl], fun i hi => ?_⟩
    by_cases e : i = n
    · subst e
      have : (rs ++ [r]).getD i nilRw = r := by rw [List.getD_eq_getElem?_getD, List.getElem?_append_right (by omega), hl]; simp
      rw [this]; exact hr'
    · have : (rs ++ [r]).getD i nilRw = rs.getD i nilRw := by rw [List.getD_eq_getElem?_getD, List.getElem?_append_left (by omega), ← List.getD_eq_getElem?_getD]
      rw [this]; exact hr i (by omega)

end Go.Proofs.YtajbahfbldmckaaDoor
