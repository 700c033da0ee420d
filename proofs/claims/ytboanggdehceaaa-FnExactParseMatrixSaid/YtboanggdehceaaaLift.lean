/- How a matrix that is passed to a law is read: its two numbers and its list. No condition. -/
import Derived.Test.YtboanggdehceaaaMatC
import Derived.OpenShut
import Derived.ShutString
import Derived.ChangeOld
namespace Go.Proofs.Ytboanggdehceaaa
open Go.ChangeShapes Go.WideShapes Go.ChangeAt Go.RowKit Go.Joins

theorem own : ownKnob Try.prog.godebug = none := by kernel_rfl
theorem laidOut : laidOutB Try.prog = true := by kernel_rfl
theorem cellsM : Try.prog.cellsOf 30 = 3 := by kernel_rfl

set_option maxRecDepth 100000 in
theorem openM {H : Type} {enc : TypeId × Value → H} {W : World} {base : Nat} {v : Value} {d : DataW H} {p : List MemPlace} {b0 : Nat}
    (hv : Value.okWide Try.prog W .any b0 30 v) (h : DataW.Trod enc Try.prog W base (fun _ => true) true 30 v d p) :
    ∃ r q A n c zs, v = .agg #[.int .i64 r, .int .i64 q, .slice A n c] ∧ Ints W W.heap.size A n zs ∧ n ≤ maxLen ∧ (Lit.int .i64 r).wf = true ∧ (Lit.int .i64 q).wf = true := by
  obtain ⟨c0, c1, c2, y0, y1, y2, m, rfl, rfl, rfl, hy0, hy1, hy2⟩ := open_agg3 Try.underlying30 (by kernel_rfl) cellsM hv h
  obtain ⟨r, e0, rfl, wr⟩ := DataW.trod_int Try.underlying2 hy0
  obtain ⟨q, e1, rfl, wq⟩ := DataW.trod_int Try.underlying2 hy1
  simp at e0 e1
  subst e0 e1
  rcases open_ints Try.underlying22 Try.underlying2 (by kernel_rfl) hy2 with ⟨hcs, _⟩ | ⟨x, l, c, zs, hcs, _, hl, hm, hz, _, hcell, hwz⟩
  · simp at hcs
    subst hcs
    exact ⟨r, q, none, 0, 0, [], rfl, ⟨rfl, fun h => absurd h (by omega)⟩, by unfold maxLen; omega, wr, wq⟩
  · simp at hcs
    subst hcs
    refine ⟨r, q, some x, l, c, zs.take l, rfl, ⟨by simp at hz ⊢; omega, fun h0 => ?_⟩, by omega, wr, wq⟩
    obtain ⟨b, off, spot⟩ := x
    have hz' : zs.length = c := by simpa using hz
    have hc := hcell 0 (by omega)
    have hspot : spot = none := by simpa [Addr.add] using World.cell?_spot hc
    subst hspot
    have hlt := World.block_lt_of_cell? W _ hc
    refine ⟨b, off, rfl, by simpa [Addr.add] using hlt, fun j hj => ?_⟩
    have := hcell j (by omega)
    rw [show (⟨b, off, none⟩ : Addr).add j = ⟨b, off + j, none⟩ from by unfold Addr.add; split <;> simp_all] at this
    rw [this]
    simp [hj]

end Go.Proofs.Ytboanggdehceaaa
