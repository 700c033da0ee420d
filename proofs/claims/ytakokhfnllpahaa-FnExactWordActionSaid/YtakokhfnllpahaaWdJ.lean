/- Parts of the program's moves: the rotation of a word, the place of a letter, the value of a generator. No condition but those that each theorem names. -/
import Derived.Test.YtakokhfnllpahaaWdP
import Derived.Test.YtakokhfnllpahaaDsA
import Derived.StillTailTactics
import Derived.Deep.DeepCutAuto
namespace Go.Proofs.Ytakokhfnllpahaa
open Go.RowKit

namespace Wd
/-- The first letter at the end. -/
def rot (l : List Int) : List Int := l.drop 1 ++ l.take 1
theorem rot_len (l : List Int) : (rot l).length = l.length := by simp [rot]; omega
/-- A part of a list that reads. -/
theorem ints_part {w : World} {B b off n : Nat} {zs : List Int} (h : Ints w B (some ⟨b, off, none⟩) n zs) {i j : Nat} (hij : i ≤ j) (hj : j ≤ n) : Ints w B (some ⟨b, off + i, none⟩) (j - i) (Lau.cut zs i j) := ⟨Lau.cut_len (by rw [h.1]; exact hj), fun h0 => by
  obtain ⟨b', off', e, hb, hc⟩ := h.2 (by omega)
  cases e
  refine ⟨b, off + i, rfl, hb, fun t ht => ?_⟩
  rw [Lau.cut_at ht, Nat.add_assoc]
  exact hc (i + t) (by omega)⟩
theorem ints_nil {w : World} {B : Nat} (A : Option Addr) : Ints w B A 0 [] := ⟨rfl, fun h => by omega⟩
end Wd
theorem NewS.resLM {w w' : World} {l : List Int} {e : Ending} (h : NewS w l e w') : ResLM w l e w' := by
  obtain ⟨A, c, he, h1, h2, h3, h4⟩ := h
  exact ⟨A, c, he, ⟨h1, h2⟩, h3.mine, h4⟩

end Go.Proofs.Ytakokhfnllpahaa
