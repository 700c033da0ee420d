/- The laws' tools over a triangulation and a code as an answer. No condition but those that each theorem names. -/
import Derived.Test.YtajbahfbldmckaaDoorFcW
import Derived.Test.YtajbahfbldmckaaDoorLiftF
namespace Go.Proofs.YtajbahfbldmckaaDoor
open Go Go.ChangeShapes Go.WideShapes Go.ChangeAt Go.RowKit

/-- A box of one cell. -/
structure Box1 (w : World) (b : Nat) (x : Value) : Prop where
  c : w.cell? ⟨b, 0, none⟩ = some x
theorem Box1.below {w w' : World} {b : Nat} {x : Value} {B : Nat} (h : Box1 w b x) (hb : Below B w w') (hg : b < B) : Box1 w' b x := ⟨(hb.cell (p := ⟨b, 0, none⟩) hg).trans h.c⟩
theorem Box1.new (w : World) (t : TypeId) (x : Value) : Box1 (w.alloc (.cells #[x] t)) w.heap.size x := ⟨by simp [go_sem]⟩
theorem Box1.kept {w w' : World} {lo hi b : Nat} {x : Value} (h : Box1 w b x) (hk : Kept lo hi w w') (hg : b < w.heap.size) (hn : ¬ (lo ≤ b ∧ b < hi)) : Box1 w' b x := ⟨(World.cell?_of_block (a := ⟨b, 0, none⟩) (hk.block b hg hn)).trans h.c⟩
theorem Box1.set_ {W : World} {b : Nat} {x u : Value} (h : Box1 W b x) : Box1 (W.setCell ⟨b, 0, none⟩ u) b u := ⟨by simp [h.c, go_sem]⟩

/-- An answer of at most eight tetrahedra. -/
def Fc.Szd (T : List (List Int)) : Prop := T.length ≤ 8 ∧ ∀ z ∈ T, z.length ≤ 8
theorem Fc.Szd.nil : Fc.Szd [] := ⟨by simp, by simp⟩
theorem Fc.Szd.len {T : List (List Int)} {rs : List Fc.Rw} (h : Fc.Szd T) (hv : Fc.vals rs = T) : rs.length ≤ 1048576 := by have := h.1; rw [← hv, Fc.vals_len] at this; omega
theorem Fc.Szd.row0 {T : List (List Int)} {rs : List Fc.Rw} (h : Fc.Szd T) (hv : Fc.vals rs = T) : ∀ r ∈ rs, r.zs.length ≤ 8 := fun r hr => h.2 _ (by rw [← hv]; exact List.mem_map_of_mem hr)
theorem Fc.Szd.row {T : List (List Int)} {rs : List Fc.Rw} (h : Fc.Szd T) (hv : Fc.vals rs = T) : ∀ r ∈ rs, r.zs.length / 2 ≤ 1048576 := fun r hr => by have := h.row0 hv r hr; omega
theorem Fc.tot_le8 : ∀ rs : List Fc.Rw, (∀ r ∈ rs, r.zs.length ≤ 8) → Fc.tot rs ≤ 8 * rs.length
  | [], _ => by simp [Fc.tot]
  | r :: rs, h => by
    have h1 := h r (List.mem_cons_self ..)
    have h2 := tot_le8 rs fun q hq => h q (List.mem_cons_of_mem _ hq)
    simp only [Fc.tot, List.length_cons]
    omega
theorem Fc.Szd.tot {T : List (List Int)} {rs : List Fc.Rw} (h : Fc.Szd T) (hv : Fc.vals rs = T) : rs.length + Fc.tot rs ≤ 2097152 := by
  have h1 := Fc.tot_le8 rs (h.row0 hv)
  have h2 := h.1
  rw [← hv, Fc.vals_len] at h2
  omega

theorem Tr.Four.mem {T : List (List Int)} (h : Tr.Four T) {z : List Int} (hz : z ∈ T) : z.length = 8 := by
  obtain ⟨i, hi, rfl⟩ := List.getElem_of_mem hz
  have := h i hi
  rwa [List.getD_eq_getElem?_getD, List.getElem?_eq_getElem hi] at this
theorem Tr.Is.szd {T : List (List Int)} (h : Tr.Is T) : Fc.Szd T := ⟨h.1, fun _ hz => Nat.le_of_eq (Tr.Four.mem h.2.1 hz)⟩

end Go.Proofs.YtajbahfbldmckaaDoor
