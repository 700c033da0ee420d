/- The program's FormatMatrix. No condition but those that each theorem names (the table of powers of ten reads as the program lays it). -/
import Derived.Test.YtopbfjhgpgjnnaaDoorNumB
import Derived.Test.YtopbfjhgpgjnnaaDoorNumC
import Derived.Test.YtopbfjhgpgjnnaaDoorShelf
namespace Go.Proofs.YtopbfjhgpgjnnaaDoor
open Go.RowKit

/-- The table of powers of ten reads as the library lays it. -/
abbrev Tab (w : World) : Prop := Lib.TabIs Tryd.prog w "internal/strconv.uint64pow10" .u64 Lib.pow10Tab
theorem Tab.keep {w w' : World} (h : Tab w) (hb : Below w.heap.size w w') : Tab w' := by
  unfold Tab Lib.TabIs World.var? at *
  cases hg : Tryd.prog.globalNamed "internal/strconv.uint64pow10" with
  | none => rw [hg] at h; simp at h
  | some g =>
    rw [hg] at h
    simp only [Option.bind_some] at h ⊢
    have hlt : g < w.heap.size := by
      rcases Nat.lt_or_ge g w.heap.size with h' | h'
      · exact h'
      · simp [Array.getElem?_eq_none h'] at h
    rw [hb.block g hlt]
    exact h
theorem grown_below (w : World) (k : Nat) (os : Array Obj) : Below w.heap.size w (Sort.grow (w.drewN k) os) := by
  refine ⟨rfl, rfl, rfl, ?_, fun k hk => ?_⟩
  · show w.heap.size ≤ (w.heap ++ os).size
    simp
  · show (w.heap ++ os)[k]? = w.heap[k]?
    rw [Array.getElem?_append_left hk]
theorem format_int (n : Int) (h0 : -9223372036854775808 ≤ n) (h1 : n ≤ 9223372036854775807) (w : World) (ht : Tab w) : Calls Tryd.prog 21 #[.int .i64 n, .int .i64 10] w (NumR w (Lib.itoa n)) := by
  refine (Tryd.strconv_FormatInt_10 n h0 h1 w ht).mono ?_
  rintro e w' ⟨rfl, k, os, rfl⟩
  exact ⟨rfl, grown_below w k os⟩
theorem builder_keep {B b : Nat} {p : Value} {bs : List Value} {w w' : World} (h : Lib.BuilderAt TB U8 B b p bs w) (hb : Below w.heap.size w w') : Lib.BuilderAt TB U8 B b p bs w' := by
  have lt := h.lt
  obtain ⟨hB, v, hbk, hown, hne⟩ := h
  have ho : v.ownBlock = none ∨ v.ownBlock ≠ some w.heap.size := by
    cases hv : v.ownBlock with
    | none => exact Or.inl rfl
    | some k =>
      have := (hown.lt k hv).2
      exact Or.inr (by simp; omega)
  exact ⟨hB, v, (hb.block b lt).trans hbk, hown.kept (row := some w.heap.size) ⟨hb.os, hb.tape, hb.output, hb.size, fun k hk _ => hb.block k hk⟩ ho, hne⟩
theorem isb_keep {B b : Nat} {bs : List Value} {w w' : World} (h : Lib.IsBuilder TB U8 B b bs w) (hb : Below w.heap.size w w') : Lib.IsBuilder TB U8 B b bs w' := h.elim (fun h => Or.inl (builder_keep h hb)) (fun h => Or.inr (builder_keep h hb))
/-- A text in a builder of the call's own. -/
def Txt (b : Nat) (l : List UInt8) (w : World) : Prop := Lib.IsBuilder TB U8 b b (Lib.byteCells l) w
theorem Txt.more {b : Nat} {l l2 : List UInt8} {w w' : World} (h : Wrote b b (Lib.byteCells l ++ Lib.strCells ⟨l2.toArray⟩) w w') : Txt b (l ++ l2) w' := by
  refine Or.inr ?_
  have := h.1
  rw [Lib.byteCells_append]
  exact this
theorem Txt.byte {b : Nat} {l : List UInt8} (x : UInt8) {w w' : World} (h : Wrote b b (Lib.byteCells l ++ [.int .u8 x.toNat]) w w') : Txt b (l ++ [x]) w' := by
  refine Or.inr ?_
  have := h.1
  rw [Lib.byteCells_append]
  exact this
theorem text_string {b : Nat} {l : List UInt8} {w : World} (l2 : List UInt8) (h : Txt b l w) (hl : l.length + l2.length ≤ 8388608) (hb : b ≤ w.heap.size) :
    Calls Tryd.prog 14 #[.pointer (some ⟨b, 0, none⟩), .string ⟨l2.toArray⟩] w fun e w' => (∃ v, e = .returned v) ∧ Txt b (l ++ l2) w' ∧ Below b w w' :=
  (write_string b b (Lib.byteCells l) ⟨l2.toArray⟩ w h (by rw [Lib.byteCells_length]; exact hl) hb).mono fun _ _ hh => ⟨hh.1, Txt.more hh.2, hh.2.2⟩
theorem wrote_cells (l : List UInt8) : Lib.strCells ⟨l.toArray⟩ = Lib.byteCells l := rfl

end Go.Proofs.YtopbfjhgpgjnnaaDoor
