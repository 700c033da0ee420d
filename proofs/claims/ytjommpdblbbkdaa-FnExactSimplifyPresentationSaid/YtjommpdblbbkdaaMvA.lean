/- The laws' helpers over a move: its size, copy, comparison, marks. No condition but those that each theorem names. -/
import Derived.Test.YtjommpdblbbkdaaTzJ
namespace Go.Proofs.Ytjommpdblbbkdaa
open Go.RowKit

set_option maxHeartbeats 400000 in
theorem szM_any (K I J : Int) (A : Option Addr) (n c : Nat) (l : Int) (w : World) (hn : n ≤ maxLen) (h0 : 0 ≤ l) (h1 : l ≤ 1048576) :
    Calls Try.prog 13 #[.agg #[.int .i64 K, .int .i64 I, .int .i64 J, .slice A n c], .int .i64 l] w fun e w' => e = .returned (.int .i64 (if l < n then -1 else l - n)) ∧ Below w.heap.size w w' := by
  have hn' := hn
  unfold maxLen at hn'
  by_cases h : l < n
  all_goals
    go_enter Try.func13, Try.ntmps13
    go_wp2_with (go_at_call 37; refine (szInts_any _ _ _ _ _ hn h0 h1).mono ?_; rintro e w' ⟨rfl, rfl⟩)
    go_ret
    exact ⟨by simp, (Below.refl _ _).alloc (Nat.le_refl _) _⟩

/-- What a copy of a move hands back: the word in new memory. -/
def MadeTz (w : World) (K I J : Int) (n : Nat) (zs : List Int) (e : Ending) (w' : World) : Prop :=
  ∃ g, e = .returned (.agg #[.int .i64 K, .int .i64 I, .int .i64 J, .slice (some ⟨g, 0, none⟩) n n]) ∧ Blk w' g zs ∧ w.heap.size ≤ g ∧ Below w.heap.size w w'
set_option maxHeartbeats 1000000 in
theorem toM_any (K I J : Int) (A : Option Addr) (n c : Nat) (zs : List Int) (w : World) (h : Ints w w.heap.size A n zs) (hn : n ≤ 1048576) :
    Calls Try.prog 15 #[.agg #[.int .i64 K, .int .i64 I, .int .i64 J, .slice A n c]] w (MadeTz w K I J n zs) := by
  have H := Lib.hid h
  clear h
  go_enter Try.func15, Try.ntmps15
  go_wp2_with fail
  refine (toInts_any A n c zs _ ?_ hn).mono ?_
  · exact H.out.into (al3 _ _ _ _)
  rintro e w1 ⟨rfl, hblk, hb⟩
  obtain ⟨hc, hf⟩ := bcell hb
  have HB := Lib.hid hblk
  clear hblk
  have hz : w.heap.size + 2 < w1.heap.size := by have := hb.size; simp at this; omega
  go_wp2
  refine bodyPost_ret (v := .agg #[.int .i64 K, .int .i64 I, .int .i64 J, .slice (some ⟨w.heap.size + 1 + 1 + 1, 0, none⟩) n n]) (by simp [results, Try.results15, hc, go_sem]) rfl ⟨_, rfl, ?_, ?_, ?_⟩
  · have h0 : Blk w1 (w.heap.size + 1 + 1 + 1) zs := by simpa using HB.out
    exact ((((h0.far (p := ⟨w.heap.size + 1 + 1, 3, none⟩) (by dsimp only; omega) _).far (p := ⟨w.heap.size + 1, 0, none⟩) (by dsimp only; omega) _).far (p := ⟨w.heap.size + 1, 1, none⟩) (by dsimp only; omega) _).far (p := ⟨w.heap.size + 1, 2, none⟩) (by dsimp only; omega) _).far (p := ⟨w.heap.size + 1, 3, none⟩) (by dsimp only; omega) _
  · omega
  · exact (((((on3 _ _ _ hb).setCell (by simp; omega) _).setCell (by simp) _).setCell (by simp) _).setCell (by simp) _).setCell (by simp) _

set_option maxHeartbeats 400000 in
theorem eqM_any (K I J : Int) (A A' : Option Addr) (n c c' : Nat) (zs : List Int) (B B' : Nat) (w : World) (hB : B ≤ w.heap.size) (hB' : B' ≤ w.heap.size) (h : Ints w B A n zs) (h' : Ints w B' A' n zs) (hn : n ≤ 1048576) :
    Calls Try.prog 18 #[.agg #[.int .i64 K, .int .i64 I, .int .i64 J, .slice A n c], .agg #[.int .i64 K, .int .i64 I, .int .i64 J, .slice A' n c']] w fun e w' => e = .returned (.bool true) ∧ Below w.heap.size w w' := by
  have H := Lib.hid ((h.more hB).into (al2 w (Obj.cells #[.int .i64 K, .int .i64 I, .int .i64 J, .slice A n c] 36) (Obj.cells #[.int .i64 K, .int .i64 I, .int .i64 J, .slice A' n c'] 36)))
  have H' := Lib.hid ((h'.more hB').into (al2 w (Obj.cells #[.int .i64 K, .int .i64 I, .int .i64 J, .slice A n c] 36) (Obj.cells #[.int .i64 K, .int .i64 I, .int .i64 J, .slice A' n c'] 36)))
  clear h h'
  go_enter Try.func18, Try.ntmps18
  go_wp2_with fail
  refine (eqInts_any _ _ _ _ _ zs _ _ _ H.out H'.out hn).mono ?_
  rintro e w1 ⟨rfl, m, rfl⟩
  go_wp2
  go_ret
  exact ⟨rfl, (al2 _ _ _).trans (Go.Joins.below_draws _ _ _)⟩

set_option maxHeartbeats 400000 in
theorem markM_any (K I J : Int) (A : Option Addr) (n c : Nat) (k : Int) (zs : List Int) (lo hi : Nat) (w : World) (h : Own w lo hi A n c zs) (hhi : hi ≤ w.heap.size) (hn : n ≤ 1048576) (h0 : 0 ≤ k) (h1 : k ≤ 1099511627776) :
    Calls Try.prog 20 #[.agg #[.int .i64 K, .int .i64 I, .int .i64 J, .slice A n c], .int .i64 k] w fun e w' => e = .returned (.int .i64 (k + n)) ∧ Own w' lo hi A n c (marks k n) ∧ Kept lo hi w w' := by
  have H := Lib.hid h
  clear h
  go_enter Try.func20, Try.ntmps20
  go_wp2_with fail
  refine (markInts_any A n c k zs lo hi _ (H.out.al hhi (al1 _ _)) hn h0 h1).mono ?_
  rintro e w1 ⟨rfl, hown, hkept⟩
  have HO := Lib.hid hown
  have HK := Lib.hid hkept
  clear hown hkept
  go_wp2
  go_ret
  exact ⟨rfl, HO.out, (Kept.of_below (al1 _ _) _ _).trans HK.out⟩

end Go.Proofs.Ytjommpdblbbkdaa
