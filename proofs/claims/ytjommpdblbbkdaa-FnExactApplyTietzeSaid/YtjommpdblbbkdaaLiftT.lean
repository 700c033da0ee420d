/- How a move that is passed to a law is read. No condition. -/
import Derived.Test.YtjommpdblbbkdaaLiftP
namespace Go.Proofs.Ytjommpdblbbkdaa
open Go.ChangeShapes Go.WideShapes Go.ChangeAt Go.RowKit Go.Joins Go.Deep

set_option maxRecDepth 100000 in
theorem openT {H : Type} {enc : TypeId × Value → H} {W : World} {base : Nat} {v : Value} {d : DataW H} {p : List MemPlace} {b0 : Nat}
    (hv : Value.okWide Try.prog W .any b0 39 v) (h : DataW.Trod enc Try.prog W base (fun _ => true) true 39 v d p) :
    ∃ K I J A n c zs, v = .agg #[.int .i64 K, .int .i64 I, .int .i64 J, .slice A n c] ∧ Ints W W.heap.size A n zs ∧ n ≤ maxLen ∧ (Lit.int .i64 K).wf = true := by
  obtain ⟨c0, c1, c2, c3, y0, y1, y2, y3, m, rfl, rfl, rfl, hy0, hy1, hy2, hy3⟩ := open_agg4 Try.underlying39 (by kernel_rfl) (by kernel_rfl) hv h
  obtain ⟨K, e0, rfl, wK⟩ := DataW.trod_int Try.underlying2 hy0
  simp at e0
  subst e0
  obtain ⟨I, e1, rfl, wI⟩ := DataW.trod_int Try.underlying2 hy1
  simp at e1
  subst e1
  obtain ⟨J, e2, rfl, wJ⟩ := DataW.trod_int Try.underlying2 hy2
  simp at e2
  subst e2
  obtain ⟨A, n, c, zs, rfl, h1, h2⟩ := ints_of hy3
  exact ⟨K, I, J, A, n, c, zs, rfl, h1, h2, wK⟩

end Go.Proofs.Ytjommpdblbbkdaa
