/- The specification's test of a triangulation. No condition but those that each theorem names. -/
import Derived.Test.YtjendlfophdfeaaDoorFcM
namespace Go.Proofs.YtjendlfophdfeaaDoor
open Go.RowKit
namespace Fc

theorem RdS.drew {w : World} {B : Nat} {A : Option Addr} {rs : List Rw} (h : RdS w B A rs) : RdS w.drew B A rs := h.keep fun _ _ => rfl
theorem vals_getD (rs : List Rw) (k : Nat) : (vals rs).getD k [] = (rs.getD k nilRw).zs := by
  rw [List.getD_eq_getElem?_getD, List.getD_eq_getElem?_getD, vals, List.getElem?_map]
  cases rs[k]? <;> rfl
/-- How a triangulation reads: as rows of numbers. -/
structure RdT (w : World) (B : Nat) (A : Option Addr) (n : Nat) (T : List (List Int)) : Prop where
  len : T.length = n
  row : ∀ a, a < n → ∃ b off Aj cj m, A = some ⟨b, off, none⟩ ∧ b < B ∧ w.cell? ⟨b, off + a, none⟩ = some (.slice Aj m cj) ∧ m ≤ cj ∧ cj ≤ maxLen ∧ (T.getD a []).length = m * 2 ∧ Ints w B Aj (m * 2) (T.getD a [])
theorem RdS.rdt {w : World} {B : Nat} {A : Option Addr} {rs : List Rw} (h : RdS w B A rs) : RdT w B A rs.length (vals rs) :=
  ⟨vals_len rs, fun a ha => by
    obtain ⟨b, off, Aj, cj, zj, m, e, hb, hr, hc, h1, h2, h3, h4⟩ := h.at2 ha
    refine ⟨b, off, Aj, cj, m, e, hb, hc, h1, h2, ?_, ?_⟩
    · rw [vals_getD, hr]; exact h3
    · rw [vals_getD, hr]; exact h4⟩
theorem RdT.keep {w w' : World} {B n : Nat} {A : Option Addr} {T : List (List Int)} (h : RdT w B A n T) (hk : ∀ p : Addr, p.block < B → w'.cell? p = w.cell? p) : RdT w' B A n T :=
  ⟨h.len, fun a ha => by
    obtain ⟨b, off, Aj, cj, m, e, hb, hc, h1, h2, h3, h4⟩ := h.row a ha
    exact ⟨b, off, Aj, cj, m, e, hb, (hk ⟨b, off + a, none⟩ hb).trans hc, h1, h2, h3, h4.keep hk⟩⟩
theorem RdT.below {w w' : World} {B n : Nat} {A : Option Addr} {T : List (List Int)} (h : RdT w B A n T) (hb : Below B w w') : RdT w' B A n T := h.keep fun _ hp => hb.cell hp
theorem RdT.more {w : World} {B B' n : Nat} {A : Option Addr} {T : List (List Int)} (h : RdT w B A n T) (hB : B ≤ B') : RdT w B' A n T :=
  ⟨h.len, fun a ha => by
    obtain ⟨b, off, Aj, cj, m, e, hb, hc, h1, h2, h3, h4⟩ := h.row a ha
    exact ⟨b, off, Aj, cj, m, e, by omega, hc, h1, h2, h3, h4.more hB⟩⟩
theorem RdT.into {w W : World} {n : Nat} {A : Option Addr} {T : List (List Int)} (h : RdT w w.heap.size A n T) (hb : Below w.heap.size w W) : RdT W W.heap.size A n T := (h.below hb).more hb.size
/-- A face's two numbers, where each tetrahedron has four faces. -/
theorem RdT.face {w : World} {B n : Nat} {A : Option Addr} {T : List (List Int)} (h : RdT w B A n T) {a f : Nat} (ha : a < n) (hf : f < 4) (h4 : (T.getD a []).length = 8) :
    ∃ b off g o cj, A = some ⟨b, off, none⟩ ∧ b < B ∧ g < B ∧ w.cell? ⟨b, off + a, none⟩ = some (.slice (some ⟨g, o, none⟩) 4 cj) ∧ 4 ≤ cj ∧ cj ≤ maxLen ∧
      w.cell? ⟨g, o + f * 2, none⟩ = some (.int .i64 (Tr.tt T a f)) ∧ w.cell? ⟨g, o + f * 2 + 1, none⟩ = some (.int .i64 (Tr.pp T a f)) := by
  obtain ⟨b, off, Aj, cj, m, e, hb, hc, h1, h2, h3, hi⟩ := h.row a ha
  obtain rfl : m = 4 := by omega
  obtain ⟨g, o, e2, hg, hk⟩ := hi.2 (by omega)
  subst e2
  have k0 := hk (f * 2) (by omega)
  have k1 := hk (f * 2 + 1) (by omega)
  rw [← Nat.add_assoc] at k1
  exact ⟨b, off, g, o, cj, e, hb, hg, hc, h1, h2, k0, k1⟩
/-- A tetrahedron's four faces. -/
theorem RdT.row4 {w : World} {B n : Nat} {A : Option Addr} {T : List (List Int)} (h : RdT w B A n T) {a : Nat} (ha : a < n) (h4 : (T.getD a []).length = 8) :
    ∃ b off g o cj, A = some ⟨b, off, none⟩ ∧ b < B ∧ g < B ∧ w.cell? ⟨b, off + a, none⟩ = some (.slice (some ⟨g, o, none⟩) 4 cj) ∧ 4 ≤ cj ∧ cj ≤ maxLen ∧
      ∀ f, f < 4 → w.cell? ⟨g, o + f * 2, none⟩ = some (.int .i64 (Tr.tt T a f)) ∧ w.cell? ⟨g, o + f * 2 + 1, none⟩ = some (.int .i64 (Tr.pp T a f)) := by
  obtain ⟨b, off, Aj, cj, m, e, hb, hc, h1, h2, h3, hi⟩ := h.row a ha
  obtain rfl : m = 4 := by omega
  obtain ⟨g, o, e2, hg, hk⟩ := hi.2 (by omega)
  subst e2
  refine ⟨b, off, g, o, cj, e, hb, hg, hc, h1, h2, fun f hf => ?_⟩
  have k0 := hk (f * 2) (by omega)
  have k1 := hk (f * 2 + 1) (by omega)
  rw [← Nat.add_assoc] at k1
  exact ⟨k0, k1⟩
theorem RdT.size {w : World} {B n : Nat} {A : Option Addr} {T : List (List Int)} (h : RdT w B A n T) {a : Nat} (ha : a < n) :
    ∃ b off Aj cj m, A = some ⟨b, off, none⟩ ∧ b < B ∧ w.cell? ⟨b, off + a, none⟩ = some (.slice Aj m cj) ∧ m ≤ cj ∧ cj ≤ maxLen ∧ (T.getD a []).length = m * 2 := by
  obtain ⟨b, off, Aj, cj, m, e, hb, hc, h1, h2, h3, hi⟩ := h.row a ha
  exact ⟨b, off, Aj, cj, m, e, hb, hc, h1, h2, h3⟩

set_option maxHeartbeats 1000000 in
theorem tets_spec (A : Option Addr) (n c : Nat) (w : World) :
    Calls Tryd.prog 87 #[.agg #[.slice A n c]] w fun e w' => e = .returned (.int .i64 (n : Int)) ∧ Below w.heap.size w w' := by
  go_enter Tryd.func87, Tryd.ntmps87
  go_wp2
  go_ret
  exact ⟨rfl, by first | exact Below.refl _ _ | exact al1 _ _⟩

set_option maxHeartbeats 1000000 in
theorem in_spec_yes (x lo hi : Int) (w : World) (h0 : lo ≤ x) (h1 : x ≤ hi) :
    Calls Tryd.prog 97 #[.int .i64 x, .int .i64 lo, .int .i64 hi] w fun e w' => e = .returned (.bool true) ∧ w = w' := by
  have t0 : decide (lo ≤ x) = true := by simpa using h0
  have t1 : decide (x ≤ hi) = true := by simpa using h1
  go_enter Tryd.func97, Tryd.ntmps97
  go_wp2
  go_ret
  exact ⟨rfl, rfl⟩
set_option maxHeartbeats 1000000 in
theorem in_spec_no (x lo hi : Int) (w : World) (h : ¬ (lo ≤ x ∧ x ≤ hi)) :
    Calls Tryd.prog 97 #[.int .i64 x, .int .i64 lo, .int .i64 hi] w fun e w' => e = .returned (.bool false) ∧ w = w' := by
  by_cases h0 : lo ≤ x
  · have h1 : ¬ x ≤ hi := fun e => h ⟨h0, e⟩
    have t0 : decide (lo ≤ x) = true := by simpa using h0
    have t1 : decide (x ≤ hi) = false := by simpa using h1
    clear h
    go_enter Tryd.func97, Tryd.ntmps97
    go_wp2
    go_ret
    exact ⟨rfl, rfl⟩
  · have t0 : decide (lo ≤ x) = false := by simpa using h0
    clear h
    go_enter Tryd.func97, Tryd.ntmps97
    go_wp2
    go_ret
    exact ⟨rfl, rfl⟩

end Fc
end Go.Proofs.YtjendlfophdfeaaDoor
