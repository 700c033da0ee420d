/- The sum of two polynomials, the program's and the specification's, by its coefficients. No condition but those that each theorem names. -/
import Derived.Test.YtpkjjcfcpmcdiaaLauF
namespace Go.Proofs.Ytpkjjcfcpmcdiaa
open Go.RowKit

/-- The result of a sum of two polynomials. -/
def SumOut (r : Int) (zs : List Int) (s : Int) (ys : List Int) (rk : Int) (ll : List Int) (code : Int) : Prop :=
  (¬ (Lau.LOk r zs ∧ Lau.LOk s ys) ∧ rk = 0 ∧ ll = [] ∧ code = 1) ∨
  (Lau.LOk r zs ∧ Lau.LOk s ys ∧ ∃ L Li a b, Lau.Trimmed Li a b ∧ Li.length ≤ 1000 ∧ (∀ e, Lau.coef L Li e = Lau.coef r zs e + Lau.coef s ys e) ∧ LOut (Lau.lowOf L a b) (Lau.cut Li a b) rk ll code)
theorem sumOut_exists (r : Int) (zs : List Int) (s : Int) (ys : List Int) : ∃ rk ll code, SumOut r zs s ys rk ll code := by
  by_cases h : Lau.LOk r zs ∧ Lau.LOk s ys
  · obtain ⟨hP, hQ⟩ := h
    have h1 := hP.low
    have h2 := hQ.low
    have h3 := hP.len
    have h4 := hQ.len
    obtain ⟨L, hL⟩ : ∃ L, L = if s < r then s else r := ⟨_, rfl⟩
    obtain ⟨dp, hdp⟩ : ∃ dp : Nat, r = L + (dp : Int) := ⟨(r - L).toNat, by subst hL; split <;> omega⟩
    obtain ⟨dq, hdq⟩ : ∃ dq : Nat, s = L + (dq : Int) := ⟨(s - L).toNat, by subst hL; split <;> omega⟩
    obtain ⟨N, hN⟩ : ∃ N, N = max (dp + zs.length) (dq + ys.length) := ⟨_, rfl⟩
    obtain ⟨x, y, hxy⟩ := Lau.trim_exists (Lau.addL N dp zs zs.length dq ys ys.length)
    obtain ⟨rk, ll, code, ho⟩ := lout_exists (Lau.lowOf L x y) (Lau.cut (Lau.addL N dp zs zs.length dq ys ys.length) x y)
    refine ⟨rk, ll, code, .inr ⟨hP, hQ, L, _, x, y, hxy, ?_, fun e => ?_, ho⟩⟩
    · rw [Lau.addL_len]
      have : L ≤ r ∧ L ≤ s ∧ (L = r ∨ L = s) := by subst hL; split <;> omega
      omega
    · rw [Lau.addL_coef L rfl rfl (by omega) (by omega), ← hdp, ← hdq]
  · exact ⟨0, [], 1, .inl ⟨h, rfl, rfl, rfl⟩⟩
theorem SumOut.len {r : Int} {zs : List Int} {s : Int} {ys : List Int} {rk : Int} {ll : List Int} {code : Int} (h : SumOut r zs s ys rk ll code) : ll.length ≤ 1048576 := by
  rcases h with ⟨_, _, rfl, _⟩ | ⟨_, _, L, Li, a, b, hT, hl, _, ho⟩
  · simp
  · have h1 := ho.len
    have h2 := Lau.cut_len (l := Li) (a := a) hT.bn
    omega

theorem add_impl_any (r s : Int) (A B : Option Addr) (n ca m cb : Nat) (zs ys : List Int) (w : World) (hA : Ints w w.heap.size A n zs) (hB : Ints w w.heap.size B m ys) (hn : n ≤ 1048576) (hm : m ≤ 1048576)
    (rk : Int) (ll : List Int) (code : Int) (h : SumOut r zs s ys rk ll code) :
    Calls Try.prog 8 #[.agg #[.int .i64 r, .slice A n ca], .agg #[.int .i64 s, .slice B m cb]] w (ResLC w rk ll code) := by
  rcases h with ⟨h, rfl, rfl, rfl⟩ | ⟨hP, hQ, L, Li, a, b, hT, hl, hc, ho⟩
  · by_cases hP : Lau.LOk r zs
    · exact add_impl_badB r s A B n ca m cb zs ys w hA hB hn hm hP fun hQ => h ⟨hP, hQ⟩
    · exact add_impl_badA r s A B n ca m cb zs w hA hn hP
  · rcases Int.lt_or_le s r with hlt | hle
    · obtain ⟨d, hd⟩ : ∃ d : Nat, r = s + (d : Int) := ⟨(r - s).toNat, by omega⟩
      obtain ⟨x, y, hxy⟩ := Lau.trim_exists (Lau.addL (max m (d + n)) 0 ys m d zs n)
      obtain ⟨e1, e2⟩ := Lau.trim_same (low' := s) hT hxy fun e => by rw [hc, Lau.addL_coef s hB.1 hA.1 (by omega) (by omega), ← hd, Int.add_comm]; congr 2; omega
      rw [e1, e2] at ho
      exact add_impl_gt r s A B n ca m cb zs ys w hA hB hn hm d _ x y rk ll code hP hQ hd hlt rfl hxy ho
    · obtain ⟨d, hd⟩ : ∃ d : Nat, s = r + (d : Int) := ⟨(s - r).toNat, by omega⟩
      obtain ⟨x, y, hxy⟩ := Lau.trim_exists (Lau.addL (max n (d + m)) 0 zs n d ys m)
      obtain ⟨e1, e2⟩ := Lau.trim_same (low' := r) hT hxy fun e => by rw [hc, Lau.addL_coef r hA.1 hB.1 (by omega) (by omega), ← hd]; congr 2; omega
      rw [e1, e2] at ho
      exact add_impl_le r s A B n ca m cb zs ys w hA hB hn hm d _ x y rk ll code hP hQ hd rfl hxy ho

end Go.Proofs.Ytpkjjcfcpmcdiaa
