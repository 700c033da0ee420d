/- Contracts of the functions that multiply a polynomial by a power of t, the program's and the specification's. No condition but those that each theorem names. -/
import Derived.Test.YtpkjjcfcpmcdiaaLauC
import Derived.Test.YtpkjjcfcpmcdiaaLauM
import Derived.Deep.RegionHeld3
namespace Go.Proofs.Ytpkjjcfcpmcdiaa
open Go.RowKit

/-- What is handed back for a polynomial that may be too large: itself, or the limit's code. -/
def LOut (r : Int) (l : List Int) (rk : Int) (ll : List Int) (code : Int) : Prop := (Lau.LOk r l ∧ rk = r ∧ ll = l ∧ code = 0) ∨ (¬ Lau.LOk r l ∧ rk = 0 ∧ ll = [] ∧ code = 3)
theorem lout_exists (r : Int) (l : List Int) : ∃ rk ll code, LOut r l rk ll code := by
  by_cases h : Lau.LOk r l
  · exact ⟨_, _, _, .inl ⟨h, rfl, rfl, rfl⟩⟩
  · exact ⟨_, _, _, .inr ⟨h, rfl, rfl, rfl⟩⟩
theorem LOut.len {r : Int} {l : List Int} {rk : Int} {ll : List Int} {code : Int} (h : LOut r l rk ll code) : ll.length ≤ 160 := by
  rcases h with ⟨h, _, rfl, _⟩ | ⟨_, _, rfl, _⟩
  · exact h.len
  · simp
theorem ResV.of_out {w w' : World} {low : Int} {l : List Int} {a b lo hi : Nat} {e : Ending} {rk : Int} {ll : List Int} {code : Int} (h : (a = b → ResV w lo hi 0 [] 0 e w') ∧ (a < b → Lau.LOk (low + a) (Lau.cut l a b) → ResV w lo hi (low + a) (Lau.cut l a b) 0 e w') ∧ (a < b → ¬ Lau.LOk (low + a) (Lau.cut l a b) → ResV w lo hi 0 [] 3 e w')) (hab : a ≤ b)
    (ho : LOut (Lau.lowOf low a b) (Lau.cut l a b) rk ll code) : ResV w lo hi rk ll code e w' := by
  by_cases e0 : a = b
  · subst e0
    rw [Lau.lowOf, if_pos rfl, Lau.cut_none] at ho
    rcases ho with ⟨_, rfl, rfl, rfl⟩ | ⟨hn, _⟩
    · exact h.1 rfl
    · exact absurd Lau.LOk.nil hn
  · rw [Lau.lowOf, if_neg e0] at ho
    rcases ho with ⟨h1, rfl, rfl, rfl⟩ | ⟨h1, rfl, rfl, rfl⟩
    · exact h.2.1 (by omega) h1
    · exact h.2.2 (by omega) h1

/-- The program's valid form, in one word. -/
theorem valid_any (low : Int) (A : Option Addr) (n c : Nat) (l : List Int) (a b lo hi : Nat) (rk : Int) (ll : List Int) (code : Int) (w : World) (h : Mine w lo hi A n l) (hhi : hi ≤ w.heap.size) (hnc : n ≤ c) (hn : n ≤ 1048576) (hc : c ≤ maxLen) (l0 : -1000000 ≤ low) (l1 : low ≤ 1000000) (hT : Lau.Trimmed l a b) (ho : LOut (Lau.lowOf low a b) (Lau.cut l a b) rk ll code) :
    Calls Try.prog 16 #[.int .i64 low, .slice A n c] w (ResV w lo hi rk ll code) := (form_impl low A n c l a b lo hi w h hhi hnc hn hc l0 l1 hT).mono fun _ _ hh => ResV.of_out hh hT.ab ho
theorem sform_any (low : Int) (A : Option Addr) (n c : Nat) (l : List Int) (a b : Nat) (w : World) (h : Ints w w.heap.size A n l) (hnc : n ≤ c) (hn : n ≤ 1048576) (hc : c ≤ maxLen) (l0 : -1000000 ≤ low) (l1 : low ≤ 1000000) (hT : Lau.Trimmed l a b) :
    Calls Try.prog 23 #[.int .i64 low, .slice A n c] w (ResL1 w (Lau.lowOf low a b) (Lau.cut l a b)) := (form_spec low A n c l a b w h hnc hn hc l0 l1 hT).mono fun _ _ hh => hh.one hT.ab
section
variable (r e : Int) (A : Option Addr) (n c : Nat) (zs : List Int) (w : World) (h : Ints w w.heap.size A n zs) (hn : n ≤ 1048576)
include h hn

end

end Go.Proofs.Ytpkjjcfcpmcdiaa
