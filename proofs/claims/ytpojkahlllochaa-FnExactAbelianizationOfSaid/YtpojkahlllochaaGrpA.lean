/- Contracts of the laws' helpers over a number and a list: sizes, copies, comparisons, marks. No condition but those that each theorem names. -/
import Derived.Test.YtpojkahlllochaaMatE
import Derived.Lib.SmallJoins
namespace Go.Proofs.Ytpojkahlllochaa
open Go.RowKit

/-- A struct's two cells. -/
def BoxG (w : World) (g : Nat) (x y : Value) : Prop := w.cell? ⟨g, 0, none⟩ = some x ∧ w.cell? ⟨g, 1, none⟩ = some y
theorem BoxG.below {w w' : World} {g : Nat} {x y : Value} {B : Nat} (h : BoxG w g x y) (hb : Below B w w') (hg : g < B) : BoxG w' g x y :=
  ⟨(hb.cell (p := ⟨g, 0, none⟩) hg).trans h.1, (hb.cell (p := ⟨g, 1, none⟩) hg).trans h.2⟩
theorem BoxG.new (w : World) (t : TypeId) (x y : Value) : BoxG (w.alloc (.cells #[x, y] t)) w.heap.size x y := by
  refine ⟨?_, ?_⟩ <;> simp [go_sem]
theorem BoxG.kept {w w' : World} {lo hi g : Nat} {x y : Value} (h : BoxG w g x y) (hk : Kept lo hi w w') (hg : g < w.heap.size) (hn : ¬ (lo ≤ g ∧ g < hi)) : BoxG w' g x y :=
  ⟨(World.cell?_of_block (a := ⟨g, 0, none⟩) (hk.block g hg hn)).trans h.1, (World.cell?_of_block (a := ⟨g, 1, none⟩) (hk.block g hg hn)).trans h.2⟩
/-- What a copy of a number and a list hands back: the list in new memory. -/
def MadeG (w : World) (r : Int) (n : Nat) (zs : List Int) (e : Ending) (w' : World) : Prop :=
  ∃ g, e = .returned (.agg #[.int .i64 r, .slice (some ⟨g, 0, none⟩) n n]) ∧ Blk w' g zs ∧ w.heap.size ≤ g ∧ Below w.heap.size w w'

set_option maxHeartbeats 400000 in
theorem eqAbelianGroup_any (r : Int) (A A' : Option Addr) (n c c' : Nat) (zs : List Int) (B B' : Nat) (w : World) (hB : B ≤ w.heap.size) (hB' : B' ≤ w.heap.size) (h : Ints w B A n zs) (h' : Ints w B' A' n zs) (hn : n ≤ 1048576) :
    Calls Try.prog 38 #[.agg #[.int .i64 r, .slice A n c], .agg #[.int .i64 r, .slice A' n c']] w fun e w' => e = .returned (.bool true) ∧ Below w.heap.size w w' := by
  have H := Lib.hid ((h.more hB).into (al2 w (Obj.cells #[.int .i64 r, .slice A n c] 48) (Obj.cells #[.int .i64 r, .slice A' n c'] 48)))
  have H' := Lib.hid ((h'.more hB').into (al2 w (Obj.cells #[.int .i64 r, .slice A n c] 48) (Obj.cells #[.int .i64 r, .slice A' n c'] 48)))
  clear h h'
  go_enter Try.func38, Try.ntmps38
  go_wp2_with fail
  refine (eqInts_any _ _ _ _ _ zs _ _ _ H.out H'.out hn).mono ?_
  rintro e w1 ⟨rfl, m, rfl⟩
  go_wp2
  go_ret
  exact ⟨rfl, (al2 _ _ _).trans (Go.Joins.below_draws _ _ _)⟩

set_option maxHeartbeats 400000 in
theorem markAbelianGroup_any (r : Int) (A : Option Addr) (n c : Nat) (k : Int) (zs : List Int) (lo hi : Nat) (w : World) (h : Own w lo hi A n c zs) (hhi : hi ≤ w.heap.size) (hn : n ≤ 1048576) (h0 : 0 ≤ k) (h1 : k ≤ 1099511627776) :
    Calls Try.prog 40 #[.agg #[.int .i64 r, .slice A n c], .int .i64 k] w fun e w' => e = .returned (.int .i64 (k + n)) ∧ Own w' lo hi A n c (marks k n) ∧ Kept lo hi w w' := by
  have H := Lib.hid h
  clear h
  go_enter Try.func40, Try.ntmps40
  go_wp2_with fail
  refine (markInts_any A n c k zs lo hi _ (H.out.al hhi (al1 _ _)) hn h0 h1).mono ?_
  rintro e w1 ⟨rfl, hown, hkept⟩
  have HO := Lib.hid hown
  have HK := Lib.hid hkept
  clear hown hkept
  go_wp2
  go_ret
  exact ⟨rfl, HO.out, (Kept.of_below (al1 _ _) _ _).trans HK.out⟩

set_option maxHeartbeats 400000 in
theorem heldAbelianGroup_any (r : Int) (A : Option Addr) (n c : Nat) (k : Int) (B : Nat) (w : World) (h : Ints w B A n (marks k n)) (hB : B ≤ w.heap.size) (hn : n ≤ 1048576) (h0 : 0 ≤ k) (h1 : k ≤ 1099511627776) :
    Calls Try.prog 41 #[.agg #[.int .i64 r, .slice A n c], .int .i64 k] w fun e w' => e = .returned (.int .i64 (k + n)) ∧ Below w.heap.size w w' := by
  have H := Lib.hid h
  clear h
  go_enter Try.func41, Try.ntmps41
  go_wp2_with fail
  refine (heldInts_any A n c k B _ (H.out.below ((al1 _ _).mono hB)) hn h0 h1).mono ?_
  rintro e w1 ⟨rfl, rfl⟩
  go_wp2
  go_ret
  exact ⟨rfl, al1 _ _⟩

end Go.Proofs.Ytpojkahlllochaa
