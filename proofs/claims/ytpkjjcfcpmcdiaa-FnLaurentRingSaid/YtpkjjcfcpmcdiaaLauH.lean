/- The product of two polynomials, the program's and the specification's, by its coefficients. No condition but those that each theorem names. -/
import Derived.Test.YtpkjjcfcpmcdiaaLauZ
import Derived.Test.YtpkjjcfcpmcdiaaLauZs
namespace Go.Proofs.Ytpkjjcfcpmcdiaa
open Go.RowKit

/-- The result of a product of two polynomials. -/
def MulOut (r : Int) (zs : List Int) (s : Int) (ys : List Int) (rk : Int) (ll : List Int) (code : Int) : Prop :=
  (¬ (Lau.LOk r zs ∧ Lau.LOk s ys) ∧ rk = 0 ∧ ll = [] ∧ code = 1) ∨
  (Lau.LOk r zs ∧ Lau.LOk s ys ∧ ¬ Lau.szL zs zs.length * Lau.szL ys ys.length ≤ 1000000000000 ∧ rk = 0 ∧ ll = [] ∧ code = 3) ∨
  (Lau.LOk r zs ∧ Lau.LOk s ys ∧ Lau.szL zs zs.length * Lau.szL ys ys.length ≤ 1000000000000 ∧ ∃ a b, Lau.Trimmed (Lau.mulL (zs.length + ys.length) zs ys ys.length (zs.length * ys.length)) a b ∧ LOut (Lau.lowOf (r + s) a b) (Lau.cut (Lau.mulL (zs.length + ys.length) zs ys ys.length (zs.length * ys.length)) a b) rk ll code)
theorem mulOut_exists (r : Int) (zs : List Int) (s : Int) (ys : List Int) : ∃ rk ll code, MulOut r zs s ys rk ll code := by
  by_cases h : Lau.LOk r zs ∧ Lau.LOk s ys
  · by_cases hs : Lau.szL zs zs.length * Lau.szL ys ys.length ≤ 1000000000000
    · obtain ⟨x, y, hxy⟩ := Lau.trim_exists (Lau.mulL (zs.length + ys.length) zs ys ys.length (zs.length * ys.length))
      obtain ⟨rk, ll, code, ho⟩ := lout_exists (Lau.lowOf (r + s) x y) (Lau.cut (Lau.mulL (zs.length + ys.length) zs ys ys.length (zs.length * ys.length)) x y)
      exact ⟨rk, ll, code, .inr (.inr ⟨h.1, h.2, hs, x, y, hxy, ho⟩)⟩
    · exact ⟨0, [], 3, .inr (.inl ⟨h.1, h.2, hs, rfl, rfl, rfl⟩)⟩
  · exact ⟨0, [], 1, .inl ⟨h, rfl, rfl, rfl⟩⟩
theorem MulOut.len {r : Int} {zs : List Int} {s : Int} {ys : List Int} {rk : Int} {ll : List Int} {code : Int} (h : MulOut r zs s ys rk ll code) : ll.length ≤ 160 := by
  rcases h with ⟨_, _, rfl, _⟩ | ⟨_, _, _, _, rfl, _⟩ | ⟨_, _, _, a, b, _, ho⟩
  · simp
  · simp
  · exact ho.len
theorem LOut.codes {r : Int} {l : List Int} {rk : Int} {ll : List Int} {code : Int} (h : LOut r l rk ll code) : code = 0 ∨ (code = 3 ∧ rk = 0 ∧ ll = []) := by
  rcases h with ⟨_, _, _, h⟩ | ⟨_, h1, h2, h3⟩
  · exact .inl h
  · exact .inr ⟨h3, h1, h2⟩

theorem mul_impl_any (r s : Int) (A B : Option Addr) (n ca m cb : Nat) (zs ys : List Int) (w : World) (hA : Ints w w.heap.size A n zs) (hB : Ints w w.heap.size B m ys) (hn : n ≤ 1048576) (hm : m ≤ 1048576)
    (rk : Int) (ll : List Int) (code : Int) (h : MulOut r zs s ys rk ll code) :
    Calls Try.prog 9 #[.agg #[.int .i64 r, .slice A n ca], .agg #[.int .i64 s, .slice B m cb]] w (ResLC w rk ll code) := by
  have e1 := hA.1
  have e2 := hB.1
  subst e1
  subst e2
  refine mul_impl r s A B zs.length ca ys.length cb zs ys w hA hB rk ll code fun W g h1 h2 hg hgw => ?_
  rcases h with ⟨h, rfl, rfl, rfl⟩ | ⟨hP, hQ, hs, rfl, rfl, rfl⟩ | ⟨hP, hQ, hs, a, b, hT, ho⟩
  · by_cases hP : Lau.LOk r zs
    · exact prod_impl_badB r s A B ca ys.length cb g zs ys W h1 hn h2 hm hg hgw hP fun hQ => h ⟨hP, hQ⟩
    · exact prod_impl_badA r A ca zs W h1 hn _ hP
  · exact prod_impl_yes r s A B ca ys.length cb g zs ys W h1 hn h2 hm hg hgw 0 [] 3 hP hQ (.inr ⟨rfl, rfl, rfl⟩) fun W2 R t i1 i2 => times_impl_no r s R B zs.length t ys.length cb zs ys W2 i1 i2 hn hm hP hQ hs
  · exact prod_impl_yes r s A B ca ys.length cb g zs ys W h1 hn h2 hm hg hgw rk ll code hP hQ ho.codes fun W2 R t i1 i2 => times_impl_yes r s R B zs.length t ys.length cb zs ys W2 i1 i2 hn hm (zs.length + ys.length) a b rk ll code hP hQ hs (by omega) hT ho

theorem coef_zeros (low : Int) (N : Nat) (e : Int) : Lau.coef low (List.replicate N 0) e = 0 := by
  unfold Lau.coef
  split
  · rw [List.getD_eq_getElem?_getD, List.getElem?_replicate]
    split <;> rfl
  · rfl

end Go.Proofs.Ytpkjjcfcpmcdiaa
