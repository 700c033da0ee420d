/- A struct's list that grows by append. No condition. -/
import Derived.Test.YtpkjjcfcpmcdiaaLauC
import Derived.Test.YtpkjjcfcpmcdiaaLauM
import Derived.Test.YtpkjjcfcpmcdiaaMatH
namespace Go.Proofs.Ytpkjjcfcpmcdiaa
open Go.RowKit

theorem takeSnoc {l : List Int} {j : Nat} (h : j < l.length) : l.take (j + 1) = l.take j ++ [l.getD j 0] := by
  rw [List.take_add_one, List.getD_eq_getElem?_getD, List.getElem?_eq_getElem h]; rfl

/-- The state of a loop that appends to the list of the struct at block b. -/
def LtAt (B b : Nat) (r : Int) (W0 : World) (l : List Int) (wr : World) : Prop :=
  ∃ A c, BoxG wr b (.int .i64 r) (.slice A l.length c) ∧ Free wr b ∧ Own wr B wr.heap.size A l.length c l ∧ Kept b (b + 1) W0 wr
theorem LtAt.push {B b : Nat} {r z : Int} {W0 w7 : World} {l : List Int} {gg cap : Nat} {x : Value} (hbox : BoxG w7 b (.int .i64 r) x) (hfree : Free w7 b)
    (hown : w7.ownsRow B 2 1 (.slice (some ⟨gg, 0, none⟩) (l.length + 1) cap) (l.length + 1) (l.map (Value.int .i64) ++ [.int .i64 z])) (hg : gg < w7.heap.size) (hb : b < B) (hk : Kept b (b + 1) W0 w7) :
    LtAt B b r W0 (l ++ [z]) (w7.setCell ⟨b, 1, none⟩ (.slice (some ⟨gg, 0, none⟩) (l.length + 1) cap)) := by
  have ho : Own w7 B w7.heap.size (some ⟨gg, 0, none⟩) (l.length + 1) cap (l ++ [z]) := ⟨by simpa using hown, fun a ha => by cases ha; exact hg⟩
  refine ⟨some ⟨gg, 0, none⟩, cap, ⟨?_, ?_⟩, ?_, ?_, ?_⟩
  · rw [World.cell?_setCell_other w7 _ _ _ (by simp)]; exact hbox.1
  · have h2 := hbox.2
    have := World.cell?_setCell_same w7 ⟨b, 1, none⟩ (.slice (some ⟨gg, 0, none⟩) (l.length + 1) cap) h2
    simpa using this
  · intro o
    rw [World.frozen?_setCell]
    exact hfree o
  · have := (ho.far (p := ⟨b, 1, none⟩) (.inl hb) (.slice (some ⟨gg, 0, none⟩) (l.length + 1) cap))
    simpa [World.setCell] using this
  · exact hk.set_ (Nat.le_refl _) (by dsimp only; omega) _

end Go.Proofs.Ytpkjjcfcpmcdiaa
