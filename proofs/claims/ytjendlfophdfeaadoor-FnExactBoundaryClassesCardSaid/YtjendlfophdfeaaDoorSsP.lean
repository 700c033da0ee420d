/- Contracts of the laws' helpers over presentations. No condition but those that each theorem names. -/
import Derived.Test.YtjendlfophdfeaaDoorSsB
namespace Go.Proofs.YtjendlfophdfeaaDoor
open Go.RowKit

theorem OwnS.far {w : World} {lo hi c : Nat} {A : Option Addr} {rs : List Rw} (h : OwnS w lo hi A c rs) {p : Addr} (hp : p.block < lo ∨ hi ≤ p.block) (u : Value) : OwnS (w.setCell p u) lo hi A c rs := h.keep fun k h1 h2 => Below.heap_setCell w p u k (by omega)
theorem OwnS.al {w w' : World} {lo hi c : Nat} {A : Option Addr} {rs : List Rw} (h : OwnS w lo hi A c rs) (hw : hi ≤ w.heap.size) (hb : Below w.heap.size w w') : OwnS w' lo hi A c rs := h.below hb hw

/-- What a copy of a presentation hands back. -/
def MadeP (w : World) (r : Int) (rs : List Rw) (e : Ending) (w' : World) : Prop :=
  ∃ g c rs', e = .returned (.agg #[.int .i64 r, .slice (some ⟨g, 0, none⟩) rs'.length c]) ∧ OwnS w' w.heap.size w'.heap.size (some ⟨g, 0, none⟩) c rs' ∧ vals rs' = vals rs ∧ Below w.heap.size w w'

/-- Lists that are not too long for the laws' helpers. -/
def Sized (zss : List (List Int)) : Prop := zss.length + (zss.map List.length).sum ≤ 1048576
theorem tot_sum (rs : List Rw) : tot rs = ((vals rs).map List.length).sum := by
  induction rs with
  | nil => rfl
  | cons r rs ih => simp [tot, vals] at ih ⊢; omega
theorem row_le_tot {rs : List Rw} {r : Rw} (h : r ∈ rs) : r.zs.length ≤ tot rs := by
  induction rs with
  | nil => simp at h
  | cons q rs ih =>
    simp only [tot]
    rcases List.mem_cons.1 h with rfl | h
    · omega
    · have := ih h; omega
theorem Sized.tot {rs : List Rw} {zss : List (List Int)} (h : Sized zss) (hv : vals rs = zss) : rs.length + tot rs ≤ 1048576 := by
  subst hv
  rw [tot_sum, ← vals_len rs]
  exact h
theorem Sized.row {rs : List Rw} {zss : List (List Int)} (h : Sized zss) (hv : vals rs = zss) : ∀ r ∈ rs, r.zs.length ≤ 1048576 := fun r hr => by
  have h1 := h.tot hv
  have h2 := row_le_tot hr
  omega
theorem Sized.len {rs : List Rw} {zss : List (List Int)} (h : Sized zss) (hv : vals rs = zss) : rs.length ≤ 1048576 := by
  have h1 := h.tot hv
  omega
theorem sized_of {rs : List Rw} (h : rs.length + Go.Proofs.YtjendlfophdfeaaDoor.tot rs ≤ 1048576) : Sized (vals rs) := by
  unfold Sized
  rw [← tot_sum, vals_len]
  exact h

end Go.Proofs.YtjendlfophdfeaaDoor
