/- The door of the laws over triangulations. No condition but those that each theorem names. -/
import Derived.Test.YtjendlfophdfeaaDoorFcL
namespace Go.Proofs.YtjendlfophdfeaaDoor
open Go Go.ChangeShapes Go.WideShapes Go.ChangeAt Go.RowKit
namespace Fc

abbrev lawLaid : List (String × DataW Unit) := [("loop.example/g00870/impl.perm4s", Rows.laid_loop_example_g00870_impl_perm4s), ("loop.example/g00870/impl.boundaryFace", Rows.laid_loop_example_g00870_impl_boundaryFace)]
set_option maxRecDepth 100000 in
theorem vs_of_laid {W : World} (h : laidMetH Tryd.prog lawLaid W) : Vs W := by
  have h1 : laidMet Tryd.prog lawLaid W := h
  obtain ⟨ps, ⟨g, t, cs, fuel, p, q, hg, ht, hvar, hd, ⟨g2, t2, cs2, fuel2, p2, q2, hg2, ht2, hvar2, hd2, _⟩, _⟩, _⟩ := h1
  rw [tabD] at hd
  refine ⟨tb_of_var hg ht hvar hd, ?_⟩
  obtain rfl := Option.some.inj ((show Tryd.prog.globalNamed "loop.example/g00870/impl.boundaryFace" = some 0 by kernel_rfl).symm.trans hg2)
  obtain rfl := Option.some.inj ((show (Tryd.prog.globals[0]?).map (·.type) = some 83 by kernel_rfl).symm.trans ht2)
  have k1 : Tryd.prog.cellsOf 2 = 1 := by kernel_rfl
  have k2 : Tryd.prog.cellsOf 83 = 2 := by kernel_rfl
  obtain ⟨y0, y1, n', e, hl, h0, h1⟩ := trod_struct2 Tryd.underlying83 hd2
  rw [k2] at hl
  obtain ⟨l⟩ := cs2
  match l, hl with
  | [v0, v1], _ =>
    simp only [k1] at h0 h1
    obtain ⟨x, e0, ex, _⟩ := DataW.trod_int Tryd.underlying2 (by simpa using h0)
    obtain ⟨y, e1, ey, _⟩ := DataW.trod_int Tryd.underlying2 (by simpa using h1)
    simp at e0 e1
    subst e0
    subst e1
    subst ex
    subst ey
    have hx : x = -1 ∧ y = 0 := by
      have e' := congrArg Prod.fst e
      unfold Rows.laid_loop_example_g00870_impl_boundaryFace at e'
      simp at e'
      omega
    obtain ⟨rfl, rfl⟩ := hx
    exact ⟨by have := World.var?_cell hg2 hvar2 0; simpa using this, by have := World.var?_cell hg2 hvar2 1; simpa using this⟩
/-- How many steps of the door lay both. -/
abbrev doorN : Nat := 97
theorem door_met (os : Os) (args : Array Value) : laidMetH Tryd.prog lawLaid ((World.doorLaid Tryd.prog doorN os).forCall (fun _ _ => 0) ⟨#[], args, []⟩).memory :=
  laidMetH_of_parts3 (fuel := 8) (laidMet_of_run' 8 (by kernel_rfl) (by kernel_rfl)) (by kernel_rfl) (by kernel_rfl)


end Fc
end Go.Proofs.YtjendlfophdfeaaDoor
