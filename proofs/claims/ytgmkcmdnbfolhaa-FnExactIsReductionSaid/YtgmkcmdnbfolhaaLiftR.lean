/- How a reduction that is passed to a law is read: its five matrices. No condition. -/
import Derived.Test.YtgmkcmdnbfolhaaLift
import Derived.Deep.Strs
namespace Go.Proofs.Ytgmkcmdnbfolhaa
open Go.ChangeShapes Go.WideShapes Go.ChangeAt Go.RowKit Go.Joins

theorem cellsR : Try.prog.cellsOf 36 = 15 := by kernel_rfl
theorem cells_int : Try.prog.cellsOf 2 = 1 := by kernel_rfl
theorem cells_ints : Try.prog.cellsOf 22 = 1 := by kernel_rfl

set_option maxRecDepth 100000 in
theorem openM3 {H : Type} {enc : TypeId × Value → H} {W : World} {base n : Nat} {c0 c1 c2 : Value} {y : DataW H × List MemPlace}
    (h : DataW.trod enc Try.prog W base (fun _ => true) true n 34 [c0, c1, c2] = some y) :
    ∃ r q A n c zs, c0 = .int .i64 r ∧ c1 = .int .i64 q ∧ c2 = .slice A n c ∧ Ints W W.heap.size A n zs ∧ n ≤ maxLen := by
  obtain ⟨y0, y1, y2, m, rfl, _, hy0, hy1, hy2⟩ := Go.Deep.trod_struct3 Try.underlying34 h
  simp [cells_int, cells_ints] at hy0 hy1 hy2
  obtain ⟨r, e0, rfl, _⟩ := DataW.trod_int Try.underlying2 hy0
  obtain ⟨q, e1, rfl, _⟩ := DataW.trod_int Try.underlying2 hy1
  simp at e0 e1
  subst e0 e1
  rcases open_ints Try.underlying22 Try.underlying2 (by kernel_rfl) hy2 with ⟨hcs, _⟩ | ⟨x, l, c, zs, hcs, _, hl, hm, hz, _, hcell, hwz⟩
  · simp at hcs
    subst hcs
    exact ⟨r, q, none, 0, 0, [], rfl, rfl, rfl, ⟨rfl, fun h => absurd h (by omega)⟩, by unfold maxLen; omega⟩
  · simp at hcs
    subst hcs
    refine ⟨r, q, some x, l, c, zs.take l, rfl, rfl, rfl, ⟨by simp at hz ⊢; omega, fun h0 => ?_⟩, by omega⟩
    obtain ⟨b, off, spot⟩ := x
    have hz' : zs.length = c := by simpa using hz
    have hc := hcell 0 (by omega)
    have hspot : spot = none := by simpa [Addr.add] using World.cell?_spot hc
    subst hspot
    have hlt := World.block_lt_of_cell? W _ hc
    refine ⟨b, off, rfl, by simpa [Addr.add] using hlt, fun j hj => ?_⟩
    have := hcell j (by omega)
    rw [show (⟨b, off, none⟩ : Addr).add j = ⟨b, off + j, none⟩ from by unfold Addr.add; split <;> simp_all] at this
    rw [this]
    simp [hj]
theorem array15 {α : Type} {cs : Array α} (h : cs.size = 15) : ∃ v0 v1 v2 v3 v4 v5 v6 v7 v8 v9 v10 v11 v12 v13 v14, cs = #[v0, v1, v2, v3, v4, v5, v6, v7, v8, v9, v10, v11, v12, v13, v14] := by
  obtain ⟨l⟩ := cs
  match l, h with
  | [v0, v1, v2, v3, v4, v5, v6, v7, v8, v9, v10, v11, v12, v13, v14], _ => exact ⟨v0, v1, v2, v3, v4, v5, v6, v7, v8, v9, v10, v11, v12, v13, v14, rfl⟩

set_option maxRecDepth 100000 in
theorem openR {H : Type} {enc : TypeId × Value → H} {W : World} {base : Nat} {v : Value} {d : DataW H} {p : List MemPlace} {b0 : Nat}
    (hv : Value.okWide Try.prog W .any b0 36 v) (h : DataW.Trod enc Try.prog W base (fun _ => true) true 36 v d p) :
    ∃ r0 q0 A0 n0 c0 z0 r1 q1 A1 n1 c1 z1 r2 q2 A2 n2 c2 z2 r3 q3 A3 n3 c3 z3 r4 q4 A4 n4 c4 z4, v = .agg #[.int .i64 r0, .int .i64 q0, .slice A0 n0 c0, .int .i64 r1, .int .i64 q1, .slice A1 n1 c1, .int .i64 r2, .int .i64 q2, .slice A2 n2 c2, .int .i64 r3, .int .i64 q3, .slice A3 n3 c3, .int .i64 r4, .int .i64 q4, .slice A4 n4 c4] ∧ Ints W W.heap.size A0 n0 z0 ∧ n0 ≤ maxLen ∧ Ints W W.heap.size A1 n1 z1 ∧ n1 ≤ maxLen ∧ Ints W W.heap.size A2 n2 z2 ∧ n2 ≤ maxLen ∧ Ints W W.heap.size A3 n3 z3 ∧ n3 ≤ maxLen ∧ Ints W W.heap.size A4 n4 z4 ∧ n4 ≤ maxLen := by
  obtain ⟨cs, rfl, hsz⟩ := okWide_struct Try.underlying36 hv
  obtain ⟨v0, v1, v2, v3, v4, v5, v6, v7, v8, v9, v10, v11, v12, v13, v14, rfl⟩ := array15 (hsz.trans cellsR)
  obtain ⟨fuel, hf⟩ := h
  obtain ⟨xs, n, _, _, _, hlen, hx⟩ := DataW.trod_struct Try.underlying36 hf
  have cM := cellsM
  obtain ⟨y0, hy0⟩ : ∃ y, xs[0]? = some y := ⟨_, List.getElem?_eq_getElem (by simp at hlen; omega)⟩
  have h0 := hx 0 _ rfl
  rw [hy0] at h0
  have hh0 : DataW.trod enc Try.prog W base (fun _ => true) true n 34 ((([v0, v1, v2, v3, v4, v5, v6, v7, v8, v9, v10, v11, v12, v13, v14] : List Value).drop 0).take (Try.prog.cellsOf 34)) = some y0 := h0
  rw [cM] at hh0
  obtain ⟨r0, q0, A0, n0, c0, z0, rfl, rfl, rfl, i0, m0⟩ := openM3 (hh0)
  obtain ⟨y1, hy1⟩ : ∃ y, xs[1]? = some y := ⟨_, List.getElem?_eq_getElem (by simp at hlen; omega)⟩
  have h1 := hx 1 _ rfl
  rw [hy1] at h1
  have hh1 : DataW.trod enc Try.prog W base (fun _ => true) true n 34 ((([.int .i64 r0, .int .i64 q0, .slice A0 n0 c0, v3, v4, v5, v6, v7, v8, v9, v10, v11, v12, v13, v14] : List Value).drop 3).take (Try.prog.cellsOf 34)) = some y1 := h1
  rw [cM] at hh1
  obtain ⟨r1, q1, A1, n1, c1, z1, rfl, rfl, rfl, i1, m1⟩ := openM3 (hh1)
  obtain ⟨y2, hy2⟩ : ∃ y, xs[2]? = some y := ⟨_, List.getElem?_eq_getElem (by simp at hlen; omega)⟩
  have h2 := hx 2 _ rfl
  rw [hy2] at h2
  have hh2 : DataW.trod enc Try.prog W base (fun _ => true) true n 34 ((([.int .i64 r0, .int .i64 q0, .slice A0 n0 c0, .int .i64 r1, .int .i64 q1, .slice A1 n1 c1, v6, v7, v8, v9, v10, v11, v12, v13, v14] : List Value).drop 6).take (Try.prog.cellsOf 34)) = some y2 := h2
  rw [cM] at hh2
  obtain ⟨r2, q2, A2, n2, c2, z2, rfl, rfl, rfl, i2, m2⟩ := openM3 (hh2)
  obtain ⟨y3, hy3⟩ : ∃ y, xs[3]? = some y := ⟨_, List.getElem?_eq_getElem (by simp at hlen; omega)⟩
  have h3 := hx 3 _ rfl
  rw [hy3] at h3
  have hh3 : DataW.trod enc Try.prog W base (fun _ => true) true n 34 ((([.int .i64 r0, .int .i64 q0, .slice A0 n0 c0, .int .i64 r1, .int .i64 q1, .slice A1 n1 c1, .int .i64 r2, .int .i64 q2, .slice A2 n2 c2, v9, v10, v11, v12, v13, v14] : List Value).drop 9).take (Try.prog.cellsOf 34)) = some y3 := h3
  rw [cM] at hh3
  obtain ⟨r3, q3, A3, n3, c3, z3, rfl, rfl, rfl, i3, m3⟩ := openM3 (hh3)
  obtain ⟨y4, hy4⟩ : ∃ y, xs[4]? = some y := ⟨_, List.getElem?_eq_getElem (by simp at hlen; omega)⟩
  have h4 := hx 4 _ rfl
  rw [hy4] at h4
  have hh4 : DataW.trod enc Try.prog W base (fun _ => true) true n 34 ((([.int .i64 r0, .int .i64 q0, .slice A0 n0 c0, .int .i64 r1, .int .i64 q1, .slice A1 n1 c1, .int .i64 r2, .int .i64 q2, .slice A2 n2 c2, .int .i64 r3, .int .i64 q3, .slice A3 n3 c3, v12, v13, v14] : List Value).drop 12).take (Try.prog.cellsOf 34)) = some y4 := h4
  rw [cM] at hh4
  obtain ⟨r4, q4, A4, n4, c4, z4, rfl, rfl, rfl, i4, m4⟩ := openM3 (hh4)
  exact ⟨r0, q0, A0, n0, c0, z0, r1, q1, A1, n1, c1, z1, r2, q2, A2, n2, c2, z2, r3, q3, A3, n3, c3, z3, r4, q4, A4, n4, c4, z4, rfl, i0, m0, i1, m1, i2, m2, i3, m3, i4, m4⟩
end Go.Proofs.Ytgmkcmdnbfolhaa
