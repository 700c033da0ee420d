/- How a triangulation that is passed to a law is read. No condition. -/
import Derived.Test.YtajbahfbldmckaaDoorLiftS
import Derived.Test.YtajbahfbldmckaaDoorFcC
namespace Go.Proofs.YtajbahfbldmckaaDoor
open Go.ChangeShapes Go.WideShapes Go.ChangeAt Go.RowKit Go.Joins Go.Deep
namespace Fc

theorem rows_choice {P : Nat → Rw → Prop} : ∀ n, (∀ i, i < n → ∃ r, P i r) → ∃ rs : List Rw, rs.length = n ∧ ∀ i, i < n → P i (rs.getD i nilRw)
  | 0, _ => ⟨[], rfl, fun i h => by omega⟩
  | n + 1, h => by
    obtain ⟨rs, hl, hr⟩ := rows_choice n (fun i hi => h i (by omega))
    obtain ⟨r, hr'⟩ := h n (by omega)
    refine ⟨rs ++ [r], by simp [hl], fun i hi => ?_⟩
    by_cases e : i = n
    · subst e
      have : (rs ++ [r]).getD i nilRw = r := by rw [List.getD_eq_getElem?_getD, List.getElem?_append_right (by omega), hl]; simp
      rw [this]; exact hr'
    · have : (rs ++ [r]).getD i nilRw = rs.getD i nilRw := by rw [List.getD_eq_getElem?_getD, List.getElem?_append_left (by omega), ← List.getD_eq_getElem?_getD]
      rw [this]; exact hr i (by omega)
theorem pairs_choice {P : Nat → Int → Int → Prop} : ∀ n, (∀ i, i < n → ∃ x y, P i x y) → ∃ zs : List Int, zs.length = n * 2 ∧ ∀ i, i < n → P i (zs.getD (i * 2) 0) (zs.getD (i * 2 + 1) 0)
  | 0, _ => ⟨[], rfl, fun i h => by omega⟩
  | n + 1, h => by
    obtain ⟨zs, hl, hr⟩ := pairs_choice n (fun i hi => h i (by omega))
    obtain ⟨x, y, hxy⟩ := h n (by omega)
    refine ⟨zs ++ [x, y], by simp [hl]; omega, fun i hi => ?_⟩
    by_cases e : i = n
    · subst e
      have e1 : (zs ++ [x, y]).getD (i * 2) 0 = x := by rw [List.getD_eq_getElem?_getD, List.getElem?_append_right (by omega), hl]; simp
      have e2 : (zs ++ [x, y]).getD (i * 2 + 1) 0 = y := by rw [List.getD_eq_getElem?_getD, List.getElem?_append_right (by omega), hl, Nat.add_sub_cancel_left]; rfl
      rw [e1, e2]; exact hxy
    · have e1 : (zs ++ [x, y]).getD (i * 2) 0 = zs.getD (i * 2) 0 := by rw [List.getD_eq_getElem?_getD, List.getElem?_append_left (by omega), ← List.getD_eq_getElem?_getD]
      have e2 : (zs ++ [x, y]).getD (i * 2 + 1) 0 = zs.getD (i * 2 + 1) 0 := by rw [List.getD_eq_getElem?_getD, List.getElem?_append_left (by omega), ← List.getD_eq_getElem?_getD]
      rw [e1, e2]; exact hr i (by omega)

theorem add_add (a : Addr) (i j : Nat) : (a.add i).add j = a.add (i + j) := by
  obtain ⟨b, off, spot⟩ := a
  unfold Addr.add
  repeat' split
  all_goals first | (simp_all; done) | (simp_all; omega) | (simp_all [Nat.add_assoc])

set_option maxRecDepth 100000 in
theorem faces_of {H : Type} {enc : TypeId × Value → H} {W : World} {base k : Nat} {V : Value} {x : DataW H × List MemPlace}
    (h : DataW.trod enc Tryd.prog W base (fun _ => true) true k 122 [V] = some x) :
    ∃ A n c zs, V = .slice A n c ∧ Ints W W.heap.size A (n * 2) zs ∧ n ≤ c ∧ c ≤ maxLen := by
  rcases open_slice (e := 150) Tryd.underlying122 h with ⟨hcs, _⟩ | ⟨a, len, cap, m, n, D, Pl, hcs, _, hl, hm, hmm, _, hi⟩
  · simp at hcs
    subst hcs
    exact ⟨none, 0, 0, [], rfl, ⟨rfl, fun h => by omega⟩, Nat.le_refl _, Nat.zero_le _⟩
  · simp at hcs
    subst hcs
    have hmm' : m = cap := by simpa using hmm
    subst hmm'
    have hC : Tryd.prog.cellsOf 150 = 2 := by kernel_rfl
    rw [hC] at hi
    obtain ⟨zs, hlen, hz⟩ := pairs_choice (P := fun i x y => W.cell? (a.add (i * 2)) = some (.int .i64 x) ∧ W.cell? (a.add (i * 2 + 1)) = some (.int .i64 y)) len (fun i hi' => by
      obtain ⟨cs', hc, ht⟩ := hi i (by omega)
      obtain ⟨y0, y1, n', _, _, h0, h1⟩ := trod_struct2 Tryd.underlying150 ht
      obtain ⟨_, hcl, hce⟩ := World.cells?_some hc
      match cs', hcl with
      | [v0, v1], _ =>
        obtain ⟨x, e0, _, _⟩ := DataW.trod_int Tryd.underlying2 (by simpa using h0)
        obtain ⟨y, e1, _, _⟩ := DataW.trod_int Tryd.underlying2 (by simpa using h1)
        have k0 : Tryd.prog.cellsOf 2 = 1 := by kernel_rfl
        rw [k0] at e0 e1
        simp at e0 e1
        subst e0
        subst e1
        refine ⟨x, y, ?_, ?_⟩
        · have := hce 0 (by omega)
          rw [add_add] at this
          simpa using this
        · have := hce 1 (by omega)
          rw [add_add] at this
          simpa using this)
    refine ⟨some a, len, m, zs, rfl, ⟨hlen, fun h0 => ?_⟩, by omega, by omega⟩
    obtain ⟨b, off, spot⟩ := a
    have hc := (hz 0 (by omega)).1
    have hspot : spot = none := by simpa [Addr.add] using World.cell?_spot hc
    subst hspot
    have hlt := World.block_lt_of_cell? W _ hc
    refine ⟨b, off, rfl, by simpa [Addr.add] using hlt, fun j hj => ?_⟩
    rcases (show j % 2 = 0 ∨ j % 2 = 1 from by omega) with e | e
    · have h1 := (hz (j / 2) (by omega)).1
      rw [addr_add] at h1
      rwa [show j / 2 * 2 = j from by omega] at h1
    · have h1 := (hz (j / 2) (by omega)).2
      rw [addr_add] at h1
      rwa [show j / 2 * 2 + 1 = j from by omega] at h1

set_option maxRecDepth 100000 in
theorem fss_of {H : Type} {enc : TypeId × Value → H} {W : World} {base k : Nat} {V : Value} {x : DataW H × List MemPlace}
    (h : DataW.trod enc Tryd.prog W base (fun _ => true) true k 22 [V] = some x) :
    ∃ A c rs, V = .slice A rs.length c ∧ RdS W W.heap.size A rs ∧ rs.length ≤ maxLen := by
  rcases open_slice1 (e := 122) Tryd.underlying22 (by kernel_rfl) h with ⟨hcs, _⟩ | ⟨a, len, cap, m, n, Vv, D, Pl, hcs, _, hl, hm, hmm, _, hi⟩
  · simp at hcs
    subst hcs
    exact ⟨none, 0, [], rfl, ⟨fun r hr => by simp at hr, fun h => by simp at h⟩, by simp⟩
  · simp at hcs
    subst hcs
    have hmm' : m = cap := by simpa using hmm
    subst hmm'
    obtain ⟨rs, hlen, hrs⟩ := rows_choice (P := fun i r => Vv i = r.sv ∧ r.Rd W W.heap.size) len (fun i hi' => by
      obtain ⟨hc, ht⟩ := hi i (by omega)
      obtain ⟨A, n', c, zs, e, h1, h2, h3⟩ := faces_of ht
      have h0 := h1.1
      refine ⟨⟨A, c, zs⟩, by rw [e]; simp [Rw.sv, h0], ?_, h3, ?_⟩
      · dsimp only; omega
      · dsimp only; rw [h0]; exact h1)
    refine ⟨some a, m, rs, by rw [hlen], ⟨fun r hr => ?_, fun h0 => ?_⟩, by omega⟩
    · obtain ⟨i, hi', rfl⟩ := List.mem_iff_getElem.1 hr
      have := (hrs i (by omega)).2
      rwa [List.getD_eq_getElem?_getD, List.getElem?_eq_getElem hi'] at this
    · obtain ⟨b, off, spot⟩ := a
      have hc := (hi 0 (by omega)).1
      have hspot : spot = none := by simpa [Addr.add] using World.cell?_spot hc
      subst hspot
      have hlt := World.block_lt_of_cell? W _ hc
      refine ⟨b, off, rfl, by simpa [Addr.add] using hlt, fun j hj => ?_⟩
      have h1 := (hi j (by omega)).1
      rw [addr_add] at h1
      rw [h1, (hrs j (by omega)).1]

set_option maxRecDepth 100000 in
theorem openTri {H : Type} {enc : TypeId × Value → H} {W : World} {base : Nat} {v : Value} {d : DataW H} {p : List MemPlace} {b0 : Nat}
    (hv : Value.okWide Tryd.prog W .any b0 24 v) (h : DataW.Trod enc Tryd.prog W base (fun _ => true) true 24 v d p) :
    ∃ A c rs, v = .agg #[.slice A rs.length c] ∧ RdS W W.heap.size A rs ∧ rs.length ≤ maxLen := by
  obtain ⟨cs, rfl, hsz⟩ := okWide_struct Tryd.underlying24 hv
  have hC : Tryd.prog.cellsOf 24 = 1 := by kernel_rfl
  rw [hC] at hsz
  obtain ⟨c0, rfl⟩ : ∃ c0, cs = #[c0] := by
    obtain ⟨l⟩ := cs
    match l, hsz with
    | [c0], _ => exact ⟨c0, rfl⟩
  obtain ⟨fuel, hf⟩ := h
  obtain ⟨y0, n, _, _, h0⟩ := trod_struct1 Tryd.underlying24 hf
  have k0 : Tryd.prog.cellsOf 22 = 1 := by kernel_rfl
  rw [k0] at h0
  obtain ⟨A, c, rs, e, h1, h2⟩ := fss_of (V := c0) (by simpa [Value.cells] using h0)
  subst e
  exact ⟨A, c, rs, rfl, h1, h2⟩

end Fc
end Go.Proofs.YtajbahfbldmckaaDoor
