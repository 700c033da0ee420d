/- What sums and products of polynomials have in common: commutativity, values, the inverse variable, products with a sum. No condition but those that each theorem names. -/
import Derived.Test.YtpkjjcfcpmcdiaaRngA
import Derived.Test.YtpkjjcfcpmcdiaaLauG
import Derived.Test.YtpkjjcfcpmcdiaaLauH
import Derived.Test.YtpkjjcfcpmcdiaaLauI
import Derived.Test.YtpkjjcfcpmcdiaaLauE
namespace Go.Proofs.Ytpkjjcfcpmcdiaa
open Go.RowKit
open Lau (Sg lin conv coef LOk)

theorem SumOut.comm {r : Int} {zs : List Int} {s : Int} {ys : List Int} {rk : Int} {ll : List Int} {code : Int} (h : SumOut r zs s ys rk ll code) : SumOut s ys r zs rk ll code := by
  rcases h with ⟨hn, h⟩ | ⟨hP, hQ, L, Li, a, b, hT, hl, hc, ho⟩
  · exact .inl ⟨fun hh => hn ⟨hh.2, hh.1⟩, h⟩
  · exact .inr ⟨hQ, hP, L, Li, a, b, hT, hl, fun e => by rw [hc, Int.add_comm], ho⟩
theorem MulOut.comm {r : Int} {zs : List Int} {s : Int} {ys : List Int} {rk : Int} {ll : List Int} {code : Int} (h : MulOut r zs s ys rk ll code) : MulOut s ys r zs rk ll code := by
  rcases h with ⟨hn, h⟩ | ⟨hP, hQ, hs, h⟩ | ⟨hP, hQ, hs, a, b, hT, ho⟩
  · exact .inl ⟨fun hh => hn ⟨hh.2, hh.1⟩, h⟩
  · exact .inr (.inl ⟨hQ, hP, by rw [Int.mul_comm]; exact hs, h⟩)
  · refine .inr (.inr ⟨hQ, hP, by rw [Int.mul_comm]; exact hs, a, b, ?_, ?_⟩)
    · rw [← Lau.mulL_comm]; exact hT
    · rw [← Lau.mulL_comm, Int.add_comm s]; exact ho
theorem LOut.ok {r : Int} {l : List Int} {rk : Int} {ll : List Int} (h : LOut r l rk ll 0) : LOk rk ll ∧ rk = r ∧ ll = l := by
  rcases h with ⟨h, rfl, rfl, _⟩ | ⟨_, _, _, h⟩
  · exact ⟨h, rfl, rfl⟩
  · cases h
theorem SumOut.ok {r : Int} {zs : List Int} {s : Int} {ys : List Int} {rk : Int} {ll : List Int} (h : SumOut r zs s ys rk ll 0) :
    LOk r zs ∧ LOk s ys ∧ LOk rk ll ∧ ∀ e, coef rk ll e = coef r zs e + coef s ys e := by
  rcases h with ⟨_, _, _, h⟩ | ⟨hP, hQ, L, Li, a, b, hT, _, hc, ho⟩
  · cases h
  · obtain ⟨h1, rfl, rfl⟩ := ho.ok
    exact ⟨hP, hQ, h1, fun e => by rw [(Lau.trim_normal L hT).2, hc]⟩
theorem MulOut.ok {r : Int} {zs : List Int} {s : Int} {ys : List Int} {rk : Int} {ll : List Int} (h : MulOut r zs s ys rk ll 0) :
    LOk r zs ∧ LOk s ys ∧ LOk rk ll ∧ Lau.szL zs zs.length * Lau.szL ys ys.length ≤ 1000000000000 ∧ (∀ e, coef rk ll e = coef (r + s) (Lau.mulL (zs.length + ys.length) zs ys ys.length (zs.length * ys.length)) e) ∧ ∀ e, coef rk ll e = conv r zs (coef s ys) e := by
  rcases h with ⟨_, _, _, h⟩ | ⟨_, _, _, _, _, h⟩ | ⟨hP, hQ, hs, a, b, hT, ho⟩
  · cases h
  · cases h
  · obtain ⟨h1, rfl, rfl⟩ := ho.ok
    have hc := (Lau.trim_normal (r + s) hT).2
    exact ⟨hP, hQ, h1, hs, hc, fun e => by rw [hc, Lau.mulL_conv]⟩

/-- The sign of an exponent. -/
def sgn (s e : Int) : Int := if e.tmod 2 = 0 then 1 else s
theorem even_iff (e : Int) : e.tmod 2 = 0 ↔ e % 2 = 0 := by
  rw [← Int.dvd_iff_tmod_eq_zero, ← Int.dvd_iff_emod_eq_zero]
theorem sgn_add {s : Int} (hs : s = 1 ∨ s = -1) (a b : Int) : sgn s (a + b) = sgn s a * sgn s b := by
  unfold sgn
  simp only [even_iff]
  rcases hs with rfl | rfl <;> split <;> split <;> split <;> omega
theorem sgn_one {s : Int} (hs : s = 1 ∨ s = -1) (e : Int) : sgn s e = 1 ∨ sgn s e = -1 := by
  unfold sgn
  split
  · exact .inl rfl
  · exact hs
theorem evS_lin (s low : Int) (zs : List Int) : evS s low zs zs.length = lin (sgn s) low zs := by
  have : ∀ k : Nat, evS s low zs k = Sg (fun i => sgn s (low + i) * zs.getD i 0) k := by
    intro k
    induction k with
    | zero => rfl
    | succ k ih =>
      rw [evS, ih, Sg]
      unfold sgn
      split
      · rw [Int.one_mul]
      · rfl
  exact this _
theorem SumOut.ev {g : Int} {r : Int} {zs : List Int} {s : Int} {ys : List Int} {rk : Int} {ll : List Int} (h : SumOut r zs s ys rk ll 0) :
    evS g rk ll ll.length = evS g r zs zs.length + evS g s ys ys.length := by
  rw [evS_lin, evS_lin, evS_lin]
  exact Lau.lin_add _ h.ok.2.2.2
theorem MulOut.ev {g : Int} (hg : g = 1 ∨ g = -1) {r : Int} {zs : List Int} {s : Int} {ys : List Int} {rk : Int} {ll : List Int} (h : MulOut r zs s ys rk ll 0) :
    evS g rk ll ll.length = evS g r zs zs.length * evS g s ys ys.length := by
  obtain ⟨_, _, _, _, hc, _⟩ := h.ok
  rw [evS_lin, evS_lin, evS_lin, Lau.lin_same _ hc]
  exact Lau.lin_mul _ (sgn_add hg) _ _ _ _
theorem mul_bound {x y a b : Int} (hx : -a ≤ x ∧ x ≤ a) (hy : -b ≤ y ∧ y ≤ b) : -(a * b) ≤ x * y ∧ x * y ≤ a * b := by
  have h1 : x.natAbs ≤ a.natAbs := by omega
  have h2 : y.natAbs ≤ b.natAbs := by omega
  have h3 := Nat.mul_le_mul h1 h2
  rw [← Int.natAbs_mul, ← Int.natAbs_mul] at h3
  have h4 : 0 ≤ a * b := Int.mul_nonneg (by omega) (by omega)
  omega
theorem MulOut.small {g : Int} (hg : g = 1 ∨ g = -1) {r : Int} {zs : List Int} {s : Int} {ys : List Int} {rk : Int} {ll : List Int} (h : MulOut r zs s ys rk ll 0) :
    -1000000000000 ≤ evS g r zs zs.length * evS g s ys ys.length ∧ evS g r zs zs.length * evS g s ys ys.length ≤ 1000000000000 := by
  obtain ⟨_, _, _, hs, _, _⟩ := h.ok
  rw [evS_lin, evS_lin]
  have h1 := Lau.lin_le (sgn g) (sgn_one hg) r zs
  have h2 := Lau.lin_le (sgn g) (sgn_one hg) s ys
  have := mul_bound h1 h2
  omega
theorem inv_coef {r : Int} {zs : List Int} (e : Int) : coef (invLow r zs.length) zs.reverse e = coef r zs (-e) := by
  unfold invLow
  split
  · rename_i h
    have : zs = [] := List.length_eq_zero_iff.1 h
    subst this
    rw [List.reverse_nil, Lau.coef_nil, Lau.coef_nil]
  · exact Lau.coef_rev r zs (by omega) e
/-- The product of two polynomials in the inverse variable. -/
theorem MulOut.inv {r : Int} {zs : List Int} {s : Int} {ys : List Int} {rk : Int} {ll : List Int} (h : MulOut r zs s ys rk ll 0) :
    MulOut (invLow r zs.length) zs.reverse (invLow s ys.length) ys.reverse (invLow rk ll.length) ll.reverse 0 := by
  obtain ⟨hP, hQ, hR, hs, _, hc⟩ := h.ok
  have iR := inv_ok hR
  obtain ⟨a, b, hT⟩ := Lau.trim_exists (Lau.mulL (zs.reverse.length + ys.reverse.length) zs.reverse ys.reverse ys.reverse.length (zs.reverse.length * ys.reverse.length))
  refine .inr (.inr ⟨inv_ok hP, inv_ok hQ, by rw [Lau.szL_rev, Lau.szL_rev]; exact hs, a, b, hT, ?_⟩)
  obtain ⟨N, C⟩ := Lau.trim_normal (invLow r zs.length + invLow s ys.length) hT
  obtain ⟨e1, e2⟩ := Lau.normal_unique N iR.normal fun e => by
    rw [C, Lau.mulL_conv, inv_coef, hc]
    by_cases h0 : zs.length = 0
    · have : zs = [] := List.length_eq_zero_iff.1 h0
      subst this
      rfl
    · unfold invLow
      rw [if_neg h0]
      exact Lau.conv_rev r zs _ _ (fun e => inv_coef e) e
  exact .inl ⟨by rw [e1, e2]; exact iR, e1.symm, e2.symm, rfl⟩
/-- A product with a sum is the sum of the products. -/
theorem MulOut.dist {t : Int} {xs : List Int} {r : Int} {zs : List Int} {s : Int} {ys : List Int} {sk xk yk zk kk : Int} {sl xl yl zl kl : List Int}
    (hs : SumOut r zs s ys sk sl 0) (hx : MulOut t xs sk sl xk xl 0) (hy : MulOut t xs r zs yk yl 0) (hz : MulOut t xs s ys zk zl 0) (hk : SumOut yk yl zk zl kk kl 0) : xk = kk ∧ xl = kl := by
  obtain ⟨_, _, _, cs⟩ := hs.ok
  obtain ⟨_, _, nx, _, _, cx⟩ := hx.ok
  obtain ⟨_, _, _, _, _, cy⟩ := hy.ok
  obtain ⟨_, _, _, _, _, cz⟩ := hz.ok
  obtain ⟨_, _, nk, ck⟩ := hk.ok
  exact Lau.normal_unique nx.normal nk.normal fun e => by rw [cx, ck, cy, cz, Lau.conv_add t xs _ _ _ cs]
/-- What each result says of its code. -/
theorem SumOut.codes {r : Int} {zs : List Int} {s : Int} {ys : List Int} {rk : Int} {ll : List Int} {code : Int} (h : SumOut r zs s ys rk ll code) : code = 0 ∨ code = 1 ∨ code = 3 := by
  rcases h with ⟨_, _, _, h⟩ | ⟨_, _, _, _, _, _, _, _, _, ho⟩
  · exact .inr (.inl h)
  · rcases ho with ⟨_, _, _, h⟩ | ⟨_, _, _, h⟩
    · exact .inl h
    · exact .inr (.inr h)
theorem MulOut.codes {r : Int} {zs : List Int} {s : Int} {ys : List Int} {rk : Int} {ll : List Int} {code : Int} (h : MulOut r zs s ys rk ll code) : code = 0 ∨ code = 1 ∨ code = 3 := by
  rcases h with ⟨_, _, _, h⟩ | ⟨_, _, _, _, _, h⟩ | ⟨_, _, _, _, _, _, ho⟩
  · exact .inr (.inl h)
  · exact .inr (.inr h)
  · rcases ho with ⟨_, _, _, h⟩ | ⟨_, _, _, h⟩
    · exact .inl h
    · exact .inr (.inr h)
end Go.Proofs.Ytpkjjcfcpmcdiaa
