/- The program's arrays of four numbers. No condition but those that each theorem names. -/
import Derived.Test.YtjendlfophdfeaaDoorPfE
import Derived.Deep.MidRow
import Derived.Deep.RegionHeld3
namespace Go.Proofs.YtjendlfophdfeaaDoor
open Go.RowKit

def cP (l : List Int) : List Value := l.map (Value.int .u8)
/-- An array of four numbers in a block of its own. -/
def BlkP (W : World) (g : Nat) (l : List Int) : Prop := W.heap[g]? = some (.cells (cP l).toArray 121 (0, 0))
theorem BlkP.lt {W : World} {g : Nat} {l : List Int} (h : BlkP W g l) : g < W.heap.size := by
  rcases Nat.lt_or_ge g W.heap.size with hlt | hge
  · exact hlt
  · unfold BlkP at h; rw [Array.getElem?_eq_none hge] at h; cases h
theorem BlkP.cell {W : World} {g : Nat} {l : List Int} (h : BlkP W g l) {i : Nat} (hi : i < l.length) : W.cell? ⟨g, i, none⟩ = some (.int .u8 (l.getD i 0)) := by
  rw [cell_of_row W g i _ _ (0, 0) h]
  simp [cP, List.getElem?_eq_getElem hi]
theorem BlkP.frozen {W : World} {g : Nat} {l : List Int} (h : BlkP W g l) (i : Nat) : W.frozen? ⟨g, i, none⟩ = false := by
  unfold BlkP at h
  simp [World.frozen?, h]
theorem BlkP.set_ {W : World} {g : Nat} {l : List Int} (h : BlkP W g l) (i : Nat) (u : Int) : BlkP (W.setCell ⟨g, i, none⟩ (.int .u8 u)) g (l.set i u) := by
  unfold BlkP at h ⊢
  simp [World.setCell, Array.getElem?_modify, h, cP]
theorem BlkP.below {W W' : World} {g : Nat} {l : List Int} {B : Nat} (h : BlkP W g l) (hb : Below B W W') (hg : g < B) : BlkP W' g l := (hb.block g hg).trans h
theorem BlkP.far {W : World} {g : Nat} {l : List Int} (h : BlkP W g l) {p : Addr} (hp : g ≠ p.block) (u : Value) : BlkP (W.setCell p u) g l := (Below.heap_setCell W p u g hp).trans h
theorem BlkP.alloc {W : World} {g : Nat} {l : List Int} (h : BlkP W g l) (o : Obj) : BlkP (W.alloc o) g l := (Below.heap_alloc W o g h.lt).trans h
theorem BlkP.range {W : World} {g : Nat} {l : List Int} (h : BlkP W g l) : W.rangeAt g 0 (cP l) := fun j v hv => by
  rw [Nat.zero_add, cell_of_row W g j _ _ (0, 0) h]
  simpa using hv
/-- The program's table of permutations. -/
def TC : List Value := P4.tab.flatMap cP
def Tb (W : World) : Prop := W.rangeAt 1 0 TC
theorem Tb.below {W W' : World} {B : Nat} (h : Tb W) (hb : Below B W W') (hB : 1 < B) : Tb W' := fun j v hv => (hb.cell (p := ⟨1, 0 + j, none⟩) hB).trans (h j v hv)
theorem TC_at : ∀ p, p < 24 → ∀ k, k < 4 → (P4.tab.flatMap id)[p * 4 + k]? = (P4.im p)[k]? := by decide +kernel
theorem Tb.row {W : World} (h : Tb W) {p : Nat} (hp : p < 24) : W.rangeAt 1 (p * 4) (cP (P4.im p)) := fun j v hv => by
  have hj : j < 4 := by
    have := (List.getElem?_eq_some_iff.1 hv).1
    rwa [cP, List.length_map, P4.im_len p hp] at this
  have h1 := h (p * 4 + j) v (by
    have e : TC = (P4.tab.flatMap id).map (Value.int .u8) := by rw [List.map_flatMap]; rfl
    rw [e, List.getElem?_map, TC_at p hp j hj, ← hv, cP, List.getElem?_map])
  rwa [Nat.zero_add] at h1
theorem Tb.cell {W : World} (h : Tb W) {p k : Nat} (hp : p < 24) (hk : k < 4) : W.cell? ⟨1, p * 4 + k, none⟩ = some (.int .u8 ((P4.im p).getD k 0)) := by
  refine h.row hp k _ ?_
  have hl := P4.im_len p hp
  rw [cP, List.getElem?_map, List.getElem?_eq_getElem (by omega), List.getD_eq_getElem?_getD, List.getElem?_eq_getElem (by omega)]
  rfl
theorem size4 : (Tryd.prog.info? 121).map (·.size) = some 4 := by kernel_rfl

/-- Four images of the table, one by one. -/
theorem Tb.four {W : World} (h : Tb W) {p : Nat} (hp : p < 24) : ∃ x0 x1 x2 x3 : Nat, P4.im p = [(x0 : Int), (x1 : Int), (x2 : Int), (x3 : Int)] ∧ (x0 < 4 ∧ x1 < 4 ∧ x2 < 4 ∧ x3 < 4) ∧
    W.cell? ⟨1, p * 4, none⟩ = some (.int .u8 (x0 : Int)) ∧ W.cell? ⟨1, p * 4 + 1, none⟩ = some (.int .u8 (x1 : Int)) ∧ W.cell? ⟨1, p * 4 + 2, none⟩ = some (.int .u8 (x2 : Int)) ∧ W.cell? ⟨1, p * 4 + 3, none⟩ = some (.int .u8 (x3 : Int)) := by
  have b0 := P4.im_in p hp 0 (by omega)
  have b1 := P4.im_in p hp 1 (by omega)
  have b2 := P4.im_in p hp 2 (by omega)
  have b3 := P4.im_in p hp 3 (by omega)
  have c0 := h.cell hp (k := 0) (by omega)
  have c1 := h.cell hp (k := 1) (by omega)
  have c2 := h.cell hp (k := 2) (by omega)
  have c3 := h.cell hp (k := 3) (by omega)
  have e : ∀ z : Int, 0 ≤ z → ((z.toNat : Nat) : Int) = z := fun z hz => by omega
  refine ⟨((P4.im p).getD 0 0).toNat, ((P4.im p).getD 1 0).toNat, ((P4.im p).getD 2 0).toNat, ((P4.im p).getD 3 0).toNat, ?_, ⟨by omega, by omega, by omega, by omega⟩, ?_, ?_, ?_, ?_⟩
  · rw [e _ b0.1, e _ b1.1, e _ b2.1, e _ b3.1]; exact P4.four_eq (P4.im_len p hp) rfl rfl rfl rfl
  · rw [e _ b0.1]; exact c0
  · rw [e _ b1.1]; exact c1
  · rw [e _ b2.1]; exact c2
  · rw [e _ b3.1]; exact c3
/-- A list of four numbers from 0 to 3. -/
structure L4 (l : List Int) : Prop where
  len : l.length = 4
  v : ∀ k, k < 4 → 0 ≤ l.getD k 0 ∧ l.getD k 0 < 4
theorem L4.im {p : Nat} (hp : p < 24) : L4 (P4.im p) := ⟨P4.im_len p hp, P4.im_in p hp⟩
theorem L4.nat {l : List Int} (h : L4 l) {k : Nat} (hk : k < 4) : ∃ z : Nat, l.getD k 0 = (z : Int) ∧ z < 4 := by
  have := h.v k hk
  exact ⟨(l.getD k 0).toNat, by omega, by omega⟩

end Go.Proofs.YtjendlfophdfeaaDoor
