/- Contracts of the functions that make a monomial, the program's and the specification's. No condition but those that each theorem names. -/
import Derived.Test.YtpkjjcfcpmcdiaaLauW
namespace Go.Proofs.Ytpkjjcfcpmcdiaa
open Go.RowKit

theorem ResLC.fin {w w' : World} {b lo hi : Nat} {r : Int} {zs : List Int} {code : Int} {A : Option Addr} {c : Nat} {x y : Value} (hM : Mine w' lo hi A zs.length zs) (hb : Below w.heap.size w w') (h0 : w.heap.size ≤ b) (h1 : b < lo ∨ hi ≤ b) (h2 : w.heap.size ≤ lo) (h3 : hi ≤ w'.heap.size) :
    ResLC w r zs code (.returned (.tuple #[.agg #[.int .i64 r, .slice A zs.length c], .int .i64 code])) ((w'.setCell ⟨b, 0, none⟩ x).setCell ⟨b, 1, none⟩ y) :=
  ⟨A, c, rfl, ((hM.far (p := ⟨b, 0, none⟩) h1 _).far (p := ⟨b, 1, none⟩) h1 _).wide h2 (by simpa [World.setCell] using h3), (hb.setCell h0 _).setCell h0 _⟩
theorem ResL1.fin {w w' : World} {b lo hi : Nat} {r : Int} {zs : List Int} {A : Option Addr} {c : Nat} {x y : Value} (hM : Mine w' lo hi A zs.length zs) (hb : Below w.heap.size w w') (h0 : w.heap.size ≤ b) (h1 : b < lo ∨ hi ≤ b) (h2 : w.heap.size ≤ lo) (h3 : hi ≤ w'.heap.size) :
    ResL1 w r zs (.returned (.agg #[.int .i64 r, .slice A zs.length c])) ((w'.setCell ⟨b, 0, none⟩ x).setCell ⟨b, 1, none⟩ y) :=
  ⟨A, c, rfl, ((hM.far (p := ⟨b, 0, none⟩) h1 _).far (p := ⟨b, 1, none⟩) h1 _).wide h2 (by simpa [World.setCell] using h3), (hb.setCell h0 _).setCell h0 _⟩

def MonoIn (c e : Int) : Prop := -1000000000000 ≤ c ∧ c ≤ 1000000000000 ∧ -240 ≤ e ∧ e ≤ 240
theorem mono_trim (c : Int) : Lau.Trimmed [c] (if c = 0 then 1 else 0) 1 := by
  by_cases h : c = 0
  · subst h
    exact ⟨by simp, by simp, fun i hi => by have : i = 0 := (by simp at hi; omega); subst this; rfl, fun i h1 h2 => by simp at h2; omega, fun h => by simp at h, fun h => by simp at h, fun _ => by simp⟩
  · rw [if_neg h]
    exact ⟨by simp, by simp, fun i hi => by omega, fun i h1 h2 => by simp at h2; omega, fun _ => h, fun _ => h, fun h => by simp at h⟩
theorem mono_ok {c e : Int} (h : MonoIn c e) (hc : c ≠ 0) : Lau.LOk e [c] := by
  obtain ⟨h1, h2, h3, h4⟩ := h
  exact .inr ⟨by simp, by simp, hc, hc, h3, by simp; omega, fun i hi => by have : i = 0 := (by simp at hi; omega); subst this; exact ⟨h1, h2⟩⟩

theorem ResV.of_form {w w' : World} {low : Int} {l : List Int} {a b lo hi : Nat} {e : Ending} (h : (a = b → ResV w lo hi 0 [] 0 e w') ∧ (a < b → Lau.LOk (low + a) (Lau.cut l a b) → ResV w lo hi (low + a) (Lau.cut l a b) 0 e w') ∧ (a < b → ¬ Lau.LOk (low + a) (Lau.cut l a b) → ResV w lo hi 0 [] 3 e w')) (hab : a ≤ b)
    (hok : a < b → Lau.LOk (low + a) (Lau.cut l a b)) : ResV w lo hi (Lau.lowOf low a b) (Lau.cut l a b) 0 e w' := by
  by_cases e0 : a = b
  · subst e0
    rw [Lau.lowOf, if_pos rfl, Lau.cut_none]
    exact h.1 rfl
  · rw [Lau.lowOf, if_neg e0]
    exact h.2.1 (by omega) (hok (by omega))
theorem FormS.one {w w' : World} {low : Int} {l : List Int} {a b : Nat} {e : Ending} (h : FormS w low l a b e w') (hab : a ≤ b) : ResL1 w (Lau.lowOf low a b) (Lau.cut l a b) e w' := by
  by_cases e0 : a = b
  · subst e0
    rw [Lau.lowOf, if_pos rfl, Lau.cut_none]
    exact h.1 rfl
  · rw [Lau.lowOf, if_neg e0]
    exact h.2 (by omega)

end Go.Proofs.Ytpkjjcfcpmcdiaa
