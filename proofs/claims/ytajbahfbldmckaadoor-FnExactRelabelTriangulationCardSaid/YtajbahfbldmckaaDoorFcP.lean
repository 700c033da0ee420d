/- The specification's boundary faces. No condition but those that each theorem names. -/
import Derived.Test.YtajbahfbldmckaaDoorFcJ
namespace Go.Proofs.YtajbahfbldmckaaDoor
open Go.RowKit

/-- What a call hands back: rows in memory of its own. -/
def ResRw (w : World) (zss : List (List Int)) (e : Ending) (w' : World) : Prop :=
  ∃ A c rs, e = .returned (.slice A rs.length c) ∧ OwnS w' w.heap.size w'.heap.size A c rs ∧ vals rs = zss ∧ Below w.heap.size w w'
namespace Tr
/-- The pair of a face, if it is a boundary face. -/
def bp (T : List (List Int)) (a f : Nat) : List (List Int) := if tt T a f < 0 then [[(a : Int), (f : Int)]] else []
def bd4 (T : List (List Int)) (a : Nat) : Nat → List (List Int)
  | 0 => []
  | f + 1 => bd4 T a f ++ bp T a f
/-- The pairs of the boundary faces of the first tetrahedra. -/
def bdl (T : List (List Int)) : Nat → List (List Int)
  | 0 => []
  | a + 1 => bdl T a ++ bd4 T a 4
theorem bd4_len (T : List (List Int)) (a f : Nat) : (bd4 T a f).length ≤ f := by
  induction f with
  | zero => simp [bd4]
  | succ f ih => simp only [bd4, List.length_append]; unfold bp; split <;> simp <;> omega
theorem bdl_len (T : List (List Int)) (a : Nat) : (bdl T a).length ≤ a * 4 := by
  induction a with
  | zero => simp [bdl]
  | succ a ih => simp only [bdl, List.length_append]; have := bd4_len T a 4; omega
theorem bd4_two (T : List (List Int)) (a f : Nat) : ∀ z ∈ bd4 T a f, z.length = 2 := by
  induction f with
  | zero => simp [bd4]
  | succ f ih =>
    intro z hz
    simp only [bd4] at hz
    rcases List.mem_append.1 hz with h | h
    · exact ih z h
    · unfold bp at h; split at h <;> simp at h; rw [h]; rfl
theorem bdl_two (T : List (List Int)) (a : Nat) : ∀ z ∈ bdl T a, z.length = 2 := by
  induction a with
  | zero => simp [bdl]
  | succ a ih =>
    intro z hz
    simp only [bdl] at hz
    rcases List.mem_append.1 hz with h | h
    · exact ih z h
    · exact bd4_two T a 4 z h
theorem bd4_yes {T : List (List Int)} {a f : Nat} (h : tt T a f < 0) : bd4 T a (f + 1) = bd4 T a f ++ [[(a : Int), (f : Int)]] := by simp [bd4, bp, h]
theorem bd4_no {T : List (List Int)} {a f : Nat} (h : ¬ tt T a f < 0) : bd4 T a (f + 1) = bd4 T a f := by simp [bd4, bp, h]
/-- What the function hands back. -/
def bdry (T : List (List Int)) : List (List Int) := if Is T then bdl T T.length else []
theorem bdry_small (T : List (List Int)) : (bdry T).length ≤ 32 ∧ ∀ z ∈ bdry T, z.length ≤ 4 := by
  unfold bdry
  split
  · rename_i h
    exact ⟨by have h1 := bdl_len T T.length; have h2 := h.1; omega, fun z hz => by have := bdl_two T _ z hz; omega⟩
  · exact ⟨by simp, by simp⟩
end Tr

theorem pair_in (w : World) (x y : Int) (o : Obj) : Rw.In ⟨some ⟨w.heap.size, 0, none⟩, 2, [x, y]⟩ ((w.alloc (Obj.cells #[.int .i64 x, .int .i64 y] 2)).alloc o) w.heap.size (w.heap.size + 1) := by
  have h : Blk ((w.alloc (Obj.cells #[.int .i64 x, .int .i64 y] 2)).alloc o) w.heap.size [x, y] := by
    have := Blk.new w [x, y]
    simp only [List.map_cons, List.map_nil] at this
    exact this.alloc _
  exact ⟨Nat.le_refl _, by unfold maxLen; dsimp only; omega, Mine.of_blk h (Nat.le_refl _) (Nat.lt_succ_self _) rfl⟩

end Go.Proofs.YtajbahfbldmckaaDoor
