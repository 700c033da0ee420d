/- Contracts of the functions that copy, compare, mark and check matrices. No condition but those that each theorem names. -/
import Derived.Test.YtboanggdehceaaaMatA
import Derived.Deep.AppendLies
import Derived.Lib.SmallJoins
namespace Go.Proofs.Ytboanggdehceaaa
open Go.RowKit

theorem bcell {W w1 : World} (hb : Below W.heap.size W w1) : (∀ b o, b < W.heap.size → w1.cell? ⟨b, o, none⟩ = W.cell? ⟨b, o, none⟩) ∧ (∀ b o, b < W.heap.size → w1.frozen? ⟨b, o, none⟩ = W.frozen? ⟨b, o, none⟩) :=
  ⟨fun b o h => hb.cell (p := ⟨b, o, none⟩) h, fun b o h => hb.frozen (p := ⟨b, o, none⟩) h⟩

theorem Ints.into {w W : World} {A : Option Addr} {n : Nat} {zs : List Int} (h : Ints w w.heap.size A n zs) (hb : Below w.heap.size w W) : Ints W W.heap.size A n zs := (h.below hb).more hb.size
theorem al1 (w : World) (o1 : Obj) : Below w.heap.size w (w.alloc o1) := (Below.refl _ _).alloc (Nat.le_refl _) o1
theorem al2 (w : World) (o1 o2 : Obj) : Below w.heap.size w ((w.alloc o1).alloc o2) := (al1 w o1).alloc (by simp) o2
theorem al3 (w : World) (o1 o2 o3 : Obj) : Below w.heap.size w (((w.alloc o1).alloc o2).alloc o3) := (al2 w o1 o2).alloc (by simp; omega) o3
theorem al4 (w : World) (o1 o2 o3 o4 : Obj) : Below w.heap.size w ((((w.alloc o1).alloc o2).alloc o3).alloc o4) := (al3 w o1 o2 o3).alloc (by simp; omega) o4
theorem on1 {w W : World} (o1 : Obj) (h : Below (w.alloc o1).heap.size (w.alloc o1) W) : Below w.heap.size w W := (al1 w o1).trans (h.mono (by simp))
theorem on2 {w W : World} (o1 o2 : Obj) (h : Below ((w.alloc o1).alloc o2).heap.size ((w.alloc o1).alloc o2) W) : Below w.heap.size w W := (al2 w o1 o2).trans (h.mono (by simp; omega))
theorem on3 {w W : World} (o1 o2 o3 : Obj) (h : Below (((w.alloc o1).alloc o2).alloc o3).heap.size (((w.alloc o1).alloc o2).alloc o3) W) : Below w.heap.size w W := (al3 w o1 o2 o3).trans (h.mono (by simp; omega))

set_option maxHeartbeats 400000 in
theorem szM_any (r q : Int) (A : Option Addr) (n c : Nat) (l : Int) (w : World) (hn : n ≤ maxLen) (h0 : 0 ≤ l) (h1 : l ≤ 1048576) :
    Calls Try.prog 11 #[.agg #[.int .i64 r, .int .i64 q, .slice A n c], .int .i64 l] w fun e w' => e = .returned (.int .i64 (if l < n then -1 else l - n)) ∧ Below w.heap.size w w' := by
  have hn' := hn
  unfold maxLen at hn'
  by_cases h : l < n
  all_goals
    go_enter Try.func11, Try.ntmps11
    go_wp2_with (go_at_call 34; refine (szInts_any _ _ _ _ _ hn h0 h1).mono ?_; rintro e w' ⟨rfl, rfl⟩)
    go_ret
    exact ⟨by simp, (Below.refl _ _).alloc (Nat.le_refl _) _⟩

/-- What 'toMatrix' hands back: a copy in new memory. -/
def MadeM (w : World) (r q : Int) (n : Nat) (zs : List Int) (e : Ending) (w' : World) : Prop :=
  ∃ g, e = .returned (.agg #[.int .i64 r, .int .i64 q, .slice (some ⟨g, 0, none⟩) n n]) ∧ Blk w' g zs ∧ w.heap.size ≤ g ∧ Below w.heap.size w w'

set_option maxHeartbeats 400000 in
theorem toM_any (r q : Int) (A : Option Addr) (n c : Nat) (zs : List Int) (w : World) (h : Ints w w.heap.size A n zs) (hn : n ≤ 1048576) :
    Calls Try.prog 14 #[.agg #[.int .i64 r, .int .i64 q, .slice A n c]] w (MadeM w r q n zs) := by
  have H := Lib.hid h
  clear h
  go_enter Try.func14, Try.ntmps14
  go_wp2_with fail
  refine (toInts_any A n c zs _ ?_ hn).mono ?_
  · exact H.out.into (al3 _ _ _ _)
  rintro e w1 ⟨rfl, hblk, hb⟩
  obtain ⟨hc, hf⟩ := bcell hb
  have HB := Lib.hid hblk
  clear hblk
  have hz : w.heap.size + 2 < w1.heap.size := by have := hb.size; simp at this; omega
  go_wp2
  refine bodyPost_ret (v := .agg #[.int .i64 r, .int .i64 q, .slice (some ⟨w.heap.size + 1 + 1 + 1, 0, none⟩) n n]) (by simp [results, Try.results14, hc, go_sem]) rfl ⟨_, rfl, ?_, ?_, ?_⟩
  · have h0 : Blk w1 (w.heap.size + 1 + 1 + 1) zs := by simpa using HB.out
    exact (((h0.far (p := ⟨w.heap.size + 1 + 1, 2, none⟩) (by dsimp only; omega) _).far (p := ⟨w.heap.size + 1, 0, none⟩) (by dsimp only; omega) _).far (p := ⟨w.heap.size + 1, 1, none⟩) (by dsimp only; omega) _).far (p := ⟨w.heap.size + 1, 2, none⟩) (by dsimp only; omega) _
  · omega
  · exact ((((on3 _ _ _ hb).setCell (by simp; omega) _).setCell (by simp) _).setCell (by simp) _).setCell (by simp) _

set_option maxHeartbeats 400000 in
theorem eqM_any (r q : Int) (A A' : Option Addr) (n c c' : Nat) (zs : List Int) (B B' : Nat) (w : World) (hB : B ≤ w.heap.size) (hB' : B' ≤ w.heap.size) (h : Ints w B A n zs) (h' : Ints w B' A' n zs) (hn : n ≤ 1048576) :
    Calls Try.prog 8 #[.agg #[.int .i64 r, .int .i64 q, .slice A n c], .agg #[.int .i64 r, .int .i64 q, .slice A' n c']] w fun e w' => e = .returned (.bool true) ∧ Below w.heap.size w w' := by
  have H := Lib.hid ((h.more hB).into (al2 w (Obj.cells #[.int .i64 r, .int .i64 q, .slice A n c] 24) (Obj.cells #[.int .i64 r, .int .i64 q, .slice A' n c'] 24)))
  have H' := Lib.hid ((h'.more hB').into (al2 w (Obj.cells #[.int .i64 r, .int .i64 q, .slice A n c] 24) (Obj.cells #[.int .i64 r, .int .i64 q, .slice A' n c'] 24)))
  clear h h'
  go_enter Try.func8, Try.ntmps8
  go_wp2_with fail
  refine (eqInts_any _ _ _ _ _ zs _ _ _ H.out H'.out hn).mono ?_
  rintro e w1 ⟨rfl, m, rfl⟩
  go_wp2
  go_ret
  exact ⟨rfl, (al2 _ _ _).trans (Go.Joins.below_draws _ _ _)⟩

set_option maxHeartbeats 400000 in
theorem in_yes (a lo hi : Int) (w : World) (h : lo ≤ a) (h' : a ≤ hi) : Calls Try.prog 55 #[.int .i64 a, .int .i64 lo, .int .i64 hi] w fun e w' => e = .returned (.bool true) ∧ w = w' := by
  have d : decide (a ≤ hi) = true := by simpa using h'
  go_enter Try.func55, Try.ntmps55
  go_wp2
  go_ret
  exact ⟨rfl, rfl⟩
set_option maxHeartbeats 400000 in
theorem in_no (a lo hi : Int) (w : World) (h : ¬ (lo ≤ a ∧ a ≤ hi)) : Calls Try.prog 55 #[.int .i64 a, .int .i64 lo, .int .i64 hi] w fun e w' => e = .returned (.bool false) ∧ w = w' := by
  by_cases h1 : lo ≤ a
  · have d : decide (a ≤ hi) = false := by simp; omega
    clear h
    go_enter Try.func55, Try.ntmps55
    go_wp2
    go_ret
    exact ⟨rfl, rfl⟩
  · clear h
    go_enter Try.func55, Try.ntmps55
    go_wp2
    go_ret
    exact ⟨rfl, rfl⟩

end Go.Proofs.Ytboanggdehceaaa
