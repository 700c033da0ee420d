/- From the cards' condition to the walks' fact on the table. No condition but those that each theorem names. -/
import Derived.Test.YtjendlfophdfeaaDoorPfF
import Derived.Test.YtjendlfophdfeaaDoorLiftW
import Derived.Test.YtjendlfophdfeaaDoorTie
import Derived.Test.YtjendlfophdfeaaDoorCards
import Derived.ProofKit
import Derived.LaidMore
import Derived.OpenShut
import Derived.Stop.Joined
import Derived.Stop.LaidErr
import Derived.Lib.LaidTab
import Derived.SevenTiedAt
import Derived.OpenVars
import Derived.ChangeVars
namespace Go.Proofs.YtjendlfophdfeaaDoor
open Go Go.ChangeShapes Go.WideShapes Go.ChangeAt Go.RowKit

/-- An array of arrays of integers that reads as the rows holds them, cell for cell. -/
theorem cells_of_rows {H : Type} {enc : TypeId × Value → H} {P : Program} {w : World} {base : Nat} {sp : Nat → Bool} {held : Bool} {fuel : Nat} {t e e2 : TypeId} {n m : Nat} {k : IntKind} {cs : List Value} {rows : List (List Int)} {p : List MemPlace}
    (ht : P.underlying t = some (.array n e)) (he : P.underlying e = some (.array m e2)) (he2 : P.underlying e2 = some (.int k)) (hce : P.cellsOf e2 = 1) (hct : P.cellsOf e = m) (hc : P.cellsOf t = n * m)
    (h : DataW.trod enc P w base sp held fuel t cs = some (.agg (rows.map (Lib.tabData k)), p)) :
    ∀ i, i < n → (cs.drop (i * m)).take m = (rows.getD i []).map (Value.int k) := by
  cases fuel with
  | zero => simp [DataW.trod] at h
  | succ fuel =>
    simp only [DataW.trod, ht, hct, hc] at h
    split at h
    · rename_i hl
      obtain ⟨xs, hm, hx⟩ := Option.map_eq_some_iff.1 h
      have hxs : xs.map (·.1) = rows.map (Lib.tabData k) := by
        have := congrArg Prod.fst hx
        simpa using this
      intro i hi
      obtain ⟨b, hb, hf⟩ := Lib.mapM_at hm i i (by simp [hi])
      have h2 : (xs.map (·.1))[i]? = some b.1 := by simp [hb]
      rw [hxs, List.getElem?_map] at h2
      obtain ⟨r, hr, hrb⟩ := Option.map_eq_some_iff.1 h2
      have hrows : rows.getD i [] = r := by simp [List.getD_eq_getElem?_getD, hr]
      obtain ⟨b1, b2⟩ := b
      dsimp only at hrb
      subst hrb
      rw [hrows]
      exact Lib.cells_of_tab he he2 hce hct hf
    · cases h

theorem tabD : (Rows.laid_loop_example_g00870_impl_perm4s : DataW Unit) = .agg (P4.tab.map (Lib.tabData .u8)) := rfl
theorem tb_of_var {H : Type} {enc : TypeId × Value → H} {W : World} {g : Nat} {t : TypeId} {cs : Array Value} {sp : Nat → Bool} {held : Bool} {fuel : Nat} {p : List MemPlace} (hg : Tryd.prog.globalNamed "loop.example/g00870/impl.perm4s" = some g) (ht : (Tryd.prog.globals[g]?).map (·.type) = some t) (hvar : W.var? Tryd.prog "loop.example/g00870/impl.perm4s" = some cs)
    (hd : DataW.trod enc Tryd.prog W 0 sp held fuel t cs.toList = some (.agg (P4.tab.map (Lib.tabData .u8)), p)) : Tb W := by
  obtain rfl := Option.some.inj ((show Tryd.prog.globalNamed "loop.example/g00870/impl.perm4s" = some 1 by kernel_rfl).symm.trans hg)
  obtain rfl := Option.some.inj ((show (Tryd.prog.globals[1]?).map (·.type) = some 133 by kernel_rfl).symm.trans ht)
  have hr := cells_of_rows (n := 24) (m := 4) Tryd.underlying133 Tryd.underlying121 Tryd.underlying5 (by kernel_rfl) (by kernel_rfl) (by kernel_rfl) hd
  intro j v hv
  have e : TC = (P4.tab.flatMap id).map (Value.int .u8) := by rw [List.map_flatMap]; rfl
  have hj : j < 96 := (List.getElem?_eq_some_iff.1 hv).1
  rw [e, List.getElem?_map, show j = j / 4 * 4 + j % 4 from by omega, TC_at (j / 4) (by omega) (j % 4) (by omega)] at hv
  have h2 := congrArg (·[j % 4]?) (hr (j / 4) (by omega))
  try dsimp only at h2
  rw [List.getElem?_take_of_lt (by omega), List.getElem?_drop, List.getElem?_map] at h2
  have h3 := World.var?_cell hg hvar (j / 4 * 4 + j % 4)
  rw [Nat.zero_add, show j = j / 4 * 4 + j % 4 from by omega, h3]
  rw [Array.getElem?_toList] at h2
  exact h2.trans hv
theorem tb_of_laid {W : World} (h : laidMetH Tryd.prog [("loop.example/g00870/impl.perm4s", Rows.laid_loop_example_g00870_impl_perm4s)] W) : Tb W := by
  have h1 : laidMet Tryd.prog [("loop.example/g00870/impl.perm4s", Rows.laid_loop_example_g00870_impl_perm4s)] W := h
  obtain ⟨ps, ⟨g, t, cs, fuel, p, q, hg, ht, hvar, hd, _⟩, _⟩ := h1
  rw [tabD] at hd
  exact tb_of_var hg ht hvar hd
theorem Tb.pos {W : World} (h : Tb W) : 1 < W.heap.size := World.block_lt_of_cell? W ⟨1, 0, none⟩ (h 0 (.int .u8 0) rfl)
end Go.Proofs.YtjendlfophdfeaaDoor
