/- Contract of the specification's function that says whether two matrices are inverse to each other. No condition but those that each theorem names. -/
import Derived.Test.YtgmkcmdnbfolhaaIsrD
namespace Go.Proofs.Ytgmkcmdnbfolhaa
open Go.RowKit

theorem list_eq {xs ys : List Int} (h : xs.length = ys.length) (ha : ∀ i, i < xs.length → xs.getD i 0 = ys.getD i 0) : xs = ys := List.ext_getElem h fun i h1 h2 => by
  have := ha i h1
  simpa [List.getElem?_eq_getElem h1, List.getElem?_eq_getElem h2] using this

set_option maxRecDepth 100000 in
set_option maxHeartbeats 2000000 in
theorem linv_no (r0 q0 r1 q1 a : Int) (A0 A1 : Option Addr) (n0 c0 n1 c1 : Nat) (w : World) (hs : ¬ (r0 = a ∧ q0 = a ∧ r1 = a ∧ q1 = a)) :
    Calls Try.prog 40 #[.agg #[.int .i64 r0, .int .i64 q0, .slice A0 n0 c0], .agg #[.int .i64 r1, .int .i64 q1, .slice A1 n1 c1], .int .i64 a] w (fun e w' => e = .returned (.bool false) ∧ Below w.heap.size w w') := by
  have D0 := Lib.hid (al2 w (Obj.cells #[.int .i64 r0, .int .i64 q0, .slice A0 n0 c0] 40) (Obj.cells #[.int .i64 r1, .int .i64 q1, .slice A1 n1 c1] 40))
  by_cases h1 : r0 = a
  case neg =>
    have t1 : (r0 != a) = true := by simpa using h1
    clear h1 hs
    go_enter Try.func40, Try.ntmps40
    go_wp2
    go_ret
    exact ⟨rfl, D0.out⟩
  by_cases h2 : q0 = a
  case neg =>
    have t1 : (r0 != a) = false := by simpa using h1
    have t2 : (q0 != a) = true := by simpa using h2
    clear h1 h2 hs
    go_enter Try.func40, Try.ntmps40
    go_wp2
    go_ret
    exact ⟨rfl, D0.out⟩
  by_cases h3 : r1 = a
  case neg =>
    have t1 : (r0 != a) = false := by simpa using h1
    have t2 : (q0 != a) = false := by simpa using h2
    have t3 : (r1 != a) = true := by simpa using h3
    clear h1 h2 h3 hs
    go_enter Try.func40, Try.ntmps40
    go_wp2
    go_ret
    exact ⟨rfl, D0.out⟩
  have h4 : ¬ q1 = a := fun h4 => hs ⟨h1, h2, h3, h4⟩
  have t1 : (r0 != a) = false := by simpa using h1
  have t2 : (q0 != a) = false := by simpa using h2
  have t3 : (r1 != a) = false := by simpa using h3
  have t4 : (q1 != a) = true := by simpa using h4
  clear h1 h2 h3 h4 hs
  go_enter Try.func40, Try.ntmps40
  go_wp2
  go_ret
  exact ⟨rfl, D0.out⟩

set_option maxRecDepth 100000 in
set_option maxHeartbeats 8000000 in
theorem linv_yes (N : Nat) (A0 A1 : Option Addr) (n0 c0 n1 c1 : Nat) (z0 z1 : List Int) (w : World) (h0 : Ints w w.heap.size A0 n0 z0) (h1 : Ints w w.heap.size A1 n1 z1)
    (m0 : n0 ≤ 1048576) (m1 : n1 ≤ 1048576) (hN : N ≤ 48) (P0 : MOk N N z0) (P1 : MOk N N z1) :
    Calls Try.prog 40 #[.agg #[.int .i64 N, .int .i64 N, .slice A0 n0 c0], .agg #[.int .i64 N, .int .i64 N, .slice A1 n1 c1], .int .i64 N] w (SaysB (Undo N z1 z0) w.heap.size w) := by
  have D0 := Lib.hid (al2 w (Obj.cells #[.int .i64 N, .int .i64 N, .slice A0 n0 c0] 40) (Obj.cells #[.int .i64 N, .int .i64 N, .slice A1 n1 c1] 40))
  have M := Lib.hid (mul_spec_yes N N N A1 A0 n1 c1 n0 c0 z1 z0 _ (h1.into D0.out) (h0.into D0.out) m1 m0 hN hN hN P1 P0)
  have p1 := sq_le hN
  have PL := Lib.hid (pl_len N N z1 z0 (N * N) (N * N))
  have OL := Lib.hid (ones_len N N)
  clear h0 h1 P0 P1
  by_cases hF : Fits N N z1 z0 (N * N)
  · have HF := Lib.hid hF
    have M1 := Lib.hid (M.out.mono fun _ _ h => h.1 HF.out)
    clear hF M
    obtain ⟨pp, hpp⟩ : ∃ pp, pl N N z1 z0 (N * N) (N * N) = pp := ⟨_, rfl⟩
    have HPP := Lib.hid hpp
    rw [hpp] at M1 PL
    clear hpp
    go_enter Try.func40, Try.ntmps40
    go_wp2_with fail
    refine M1.out.mono ?_
    rintro e w1 ⟨A3, c3, rfl, hown, hb⟩
    have O1 := Lib.hid hown
    have D1 := Lib.hid (on2 _ _ hb)
    clear hown hb D0
    have P3 := Lib.hid (Box3.new w1 40 (.int .i64 N) (.int .i64 N) (.slice A3 pp.length c3))
    have AL := Lib.hid (al1 w1 (Obj.cells #[.int .i64 N, .int .i64 N, .slice A3 pp.length c3] 40))
    have I3 := Lib.hid (O1.out.ints.into AL.out)
    have D3 := Lib.hid (D1.out.trans (AL.out.mono D1.out.size))
    go_wp2_with fail
    obtain ⟨V, hV⟩ : ∃ V, V = w1.alloc (Obj.cells #[.int .i64 N, .int .i64 N, .slice A3 pp.length c3] 40) := ⟨_, rfl⟩
    have v0 : w1.heap.size < V.heap.size := by rw [hV]; simp
    rw [← hV] at P3 AL I3 D3
    rw [← hV]
    clear hV AL O1 D1
    obtain ⟨k0, k1, k2⟩ := P3.out
    go_region_held3 (fun W => (W.cell? ⟨w1.heap.size, 0, none⟩ = some (.int .i64 N) ∧ W.cell? ⟨w1.heap.size, 1, none⟩ = some (.int .i64 N) ∧ W.cell? ⟨w1.heap.size, 2, none⟩ = some (.slice A3 pp.length c3))) (go_keep)
      (first
        | (go_at_call 66; (with_reducible refine (one_spec N _ hN).mono ?_); rintro e w4 ⟨A4, c4, rfl, hown, hb'⟩; have B4 := Lib.hid (undrew hb'); have O4 := Lib.hid hown; have z4 : V.heap.size ≤ w4.heap.size := B4.out.size; obtain ⟨e0, e1, e2⟩ := P3.out.below B4.out (by omega); clear hown hb')
        | (go_at_call 43; (with_reducible refine (same_spec N N A3 A4 pp.length (ones N N).length c3 c4 pp (ones N N) _ (by rw [PL.out, OL.out]) (by exact (I3.out.into B4.out)) (by exact O4.out.ints) (by rw [PL.out]; omega)).mono ?_); rintro e w5 ⟨v, rfl, hv, hb5⟩; have B5 := Lib.hid (B4.out.trans (hb5.mono z4)); have HV := Lib.hid hv; have z5 : V.heap.size ≤ w5.heap.size := B5.out.size; obtain ⟨f0, f1, f2⟩ := P3.out.below B5.out (by omega); clear hv hb5))
    have HE := Lib.hid (show v = true ↔ pp = ones N N from ⟨fun e => list_eq (by rw [PL.out, OL.out]) (HV.out.1 e), fun e => HV.out.2 fun i _ => by rw [e]⟩)
    clear HV k0 k1 k2 e0 e1 e2 f0 f1 f2
    go_wp2
    go_ret
    exact ⟨v, rfl, ⟨fun e => ⟨HF.out, by rw [HPP.out]; exact HE.out.1 e⟩, fun e => HE.out.2 (by rw [← HPP.out]; exact e.2)⟩, D3.out.trans (B5.out.mono D3.out.size)⟩
  · have HF := Lib.hid hF
    have M1 := Lib.hid (M.out.mono fun _ _ h => h.2 HF.out)
    clear hF M
    go_enter Try.func40, Try.ntmps40
    go_wp2_with fail
    refine M1.out.mono ?_
    rintro e w1 ⟨A3, c3, rfl, hown, hb⟩
    have D1 := Lib.hid (on2 _ _ hb)
    clear hown hb D0
    have D3 := Lib.hid (D1.out.alloc D1.out.size (Obj.cells #[.int .i64 0, .int .i64 0, .slice A3 0 c3] 40))
    go_wp2_with fail
    go_quiet (fail)
    all_goals
      go_wp2
      go_ret
      exact SaysB.f (fun h => HF.out h.1) (D3.out.trans (Go.Joins.below_draws _ _ _))
end Go.Proofs.Ytgmkcmdnbfolhaa
