/- Contracts of the laws' helpers over a number and a list: sizes, copies, comparisons, marks. No condition but those that each theorem names. -/
import Derived.Test.YtboanggdehceaaaDoorMatE
import Derived.Lib.SmallJoins
namespace Go.Proofs.YtboanggdehceaaaDoor
open Go.RowKit

/-- A struct's two cells. -/
def BoxG (w : World) (g : Nat) (x y : Value) : Prop := w.cell? ⟨g, 0, none⟩ = some x ∧ w.cell? ⟨g, 1, none⟩ = some y
theorem BoxG.below {w w' : World} {g : Nat} {x y : Value} {B : Nat} (h : BoxG w g x y) (hb : Below B w w') (hg : g < B) : BoxG w' g x y :=
  ⟨(hb.cell (p := ⟨g, 0, none⟩) hg).trans h.1, (hb.cell (p := ⟨g, 1, none⟩) hg).trans h.2⟩
theorem BoxG.new (w : World) (t : TypeId) (x y : Value) : BoxG (w.alloc (.cells #[x, y] t)) w.heap.size x y := by
  refine ⟨?_, ?_⟩ <;> simp [go_sem]
theorem BoxG.kept {w w' : World} {lo hi g : Nat} {x y : Value} (h : BoxG w g x y) (hk : Kept lo hi w w') (hg : g < w.heap.size) (hn : ¬ (lo ≤ g ∧ g < hi)) : BoxG w' g x y :=
  ⟨(World.cell?_of_block (a := ⟨g, 0, none⟩) (hk.block g hg hn)).trans h.1, (World.cell?_of_block (a := ⟨g, 1, none⟩) (hk.block g hg hn)).trans h.2⟩
/-- What a copy of a number and a list hands back: the list in new memory. -/
def MadeG (w : World) (r : Int) (n : Nat) (zs : List Int) (e : Ending) (w' : World) : Prop :=
  ∃ g, e = .returned (.agg #[.int .i64 r, .slice (some ⟨g, 0, none⟩) n n]) ∧ Blk w' g zs ∧ w.heap.size ≤ g ∧ Below w.heap.size w w'

set_option maxHeartbeats 400000 in
theorem szAbelianGroup_any (r : Int) (A : Option Addr) (n c : Nat) (l : Int) (w : World) (hn : n ≤ maxLen) (h0 : 0 ≤ l) (h1 : l ≤ 1048576) :
    Calls Tryd.prog 13 #[.agg #[.int .i64 r, .slice A n c], .int .i64 l] w fun e w' => e = .returned (.int .i64 (if l < n then -1 else l - n)) ∧ Below w.heap.size w w' := by
  have hn' := hn
  unfold maxLen at hn'
  by_cases h : l < n
  all_goals
    go_enter Tryd.func13, Tryd.ntmps13
    go_wp2_with (go_at_call 31; refine (szInts_any _ _ _ _ _ hn h0 h1).mono ?_; rintro e w' ⟨rfl, rfl⟩)
    go_ret
    exact ⟨by simp, (Below.refl _ _).alloc (Nat.le_refl _) _⟩

set_option maxHeartbeats 400000 in
theorem toAbelianGroup_any (r : Int) (A : Option Addr) (n c : Nat) (zs : List Int) (w : World) (h : Ints w w.heap.size A n zs) (hn : n ≤ 1048576) :
    Calls Tryd.prog 15 #[.agg #[.int .i64 r, .slice A n c]] w (MadeG w r n zs) := by
  have H := Lib.hid h
  clear h
  go_enter Tryd.func15, Tryd.ntmps15
  go_wp2_with fail
  refine (toInts_any A n c zs _ ?_ hn).mono ?_
  · exact H.out.into (al3 _ _ _ _)
  rintro e w1 ⟨rfl, hblk, hb⟩
  obtain ⟨hc, hf⟩ := bcell hb
  have HB := Lib.hid hblk
  clear hblk
  have hz : w.heap.size + 2 < w1.heap.size := by have := hb.size; simp at this; omega
  go_wp2
  refine bodyPost_ret (v := .agg #[.int .i64 r, .slice (some ⟨w.heap.size + 1 + 1 + 1, 0, none⟩) n n]) (by simp [results, Tryd.results15, hc, go_sem]) rfl ⟨_, rfl, ?_, ?_, ?_⟩
  · have h0 : Blk w1 (w.heap.size + 1 + 1 + 1) zs := by simpa using HB.out
    exact ((h0.far (p := ⟨w.heap.size + 1 + 1, 1, none⟩) (by dsimp only; omega) _).far (p := ⟨w.heap.size + 1, 0, none⟩) (by dsimp only; omega) _).far (p := ⟨w.heap.size + 1, 1, none⟩) (by dsimp only; omega) _
  · omega
  · exact (((on3 _ _ _ hb).setCell (by simp; omega) _).setCell (by simp) _).setCell (by simp) _

set_option maxHeartbeats 400000 in
theorem eqAbelianGroup_any (r : Int) (A A' : Option Addr) (n c c' : Nat) (zs : List Int) (B B' : Nat) (w : World) (hB : B ≤ w.heap.size) (hB' : B' ≤ w.heap.size) (h : Ints w B A n zs) (h' : Ints w B' A' n zs) (hn : n ≤ 1048576) :
    Calls Tryd.prog 17 #[.agg #[.int .i64 r, .slice A n c], .agg #[.int .i64 r, .slice A' n c']] w fun e w' => e = .returned (.bool true) ∧ Below w.heap.size w w' := by
  have H := Lib.hid ((h.more hB).into (al2 w (Obj.cells #[.int .i64 r, .slice A n c] 39) (Obj.cells #[.int .i64 r, .slice A' n c'] 39)))
  have H' := Lib.hid ((h'.more hB').into (al2 w (Obj.cells #[.int .i64 r, .slice A n c] 39) (Obj.cells #[.int .i64 r, .slice A' n c'] 39)))
  clear h h'
  go_enter Tryd.func17, Tryd.ntmps17
  go_wp2_with fail
  refine (eqInts_any _ _ _ _ _ zs _ _ _ H.out H'.out hn).mono ?_
  rintro e w1 ⟨rfl, m, rfl⟩
  go_wp2
  go_ret
  exact ⟨rfl, (al2 _ _ _).trans (Go.Joins.below_draws _ _ _)⟩

end Go.Proofs.YtboanggdehceaaaDoor
