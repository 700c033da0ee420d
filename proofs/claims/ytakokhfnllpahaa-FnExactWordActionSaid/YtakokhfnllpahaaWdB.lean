/- Which lists are words: the program's isWordUpTo and IsWord, and the specification's IsWord. No condition but those that each theorem names. -/
import Derived.Test.YtakokhfnllpahaaWdA
import Derived.Test.YtakokhfnllpahaaGrpL
import Derived.Laws.AppendOwn
import Derived.Laws.OwnMore
namespace Go.Proofs.Ytakokhfnllpahaa
open Go.RowKit

namespace Wd
/-- The first k letters are fit. -/
def Fit (most : Int) (l : List Int) (k : Nat) : Prop := ∀ j, j < k → l.getD j 0 ≠ 0 ∧ -most ≤ l.getD j 0 ∧ l.getD j 0 ≤ most
theorem Fit.zero (most : Int) (l : List Int) : Fit most l 0 := fun j h => by omega
theorem Fit.next {most : Int} {l : List Int} {k : Nat} (h : Fit most l k) (h0 : l.getD k 0 ≠ 0) (h1 : -most ≤ l.getD k 0) (h2 : l.getD k 0 ≤ most) : Fit most l (k + 1) := fun j hj => by
  by_cases e : j = k
  · subst e; exact ⟨h0, h1, h2⟩
  · exact h j (by omega)
theorem Fit.iff (most : Int) (l : List Int) : Fit most l l.length ↔ ∀ x ∈ l, x ≠ 0 ∧ -most ≤ x ∧ x ≤ most := by
  constructor
  · intro h x hx
    obtain ⟨i, hi, rfl⟩ := List.mem_iff_getElem.1 hx
    have := h i hi
    rwa [List.getD_eq_getElem?_getD, List.getElem?_eq_getElem hi] at this
  · intro h j hj
    rw [List.getD_eq_getElem?_getD, List.getElem?_eq_getElem hj]
    exact h _ (List.getElem_mem hj)
theorem isW_yes {most : Int} {l : List Int} (h : l.length ≤ 120) (hf : Fit most l l.length) : isW most l = true := by
  simp only [isW, decide_eq_true_eq]
  exact ⟨h, (Fit.iff most l).1 hf⟩
theorem isW_long {most : Int} {l : List Int} (h : ¬ l.length ≤ 120) : isW most l = false := by
  simp only [isW, decide_eq_false_iff_not]
  exact fun h' => h h'.1
theorem isW_bad {most : Int} {l : List Int} {k : Nat} (hk : k < l.length) (h : ¬ (l.getD k 0 ≠ 0 ∧ -most ≤ l.getD k 0 ∧ l.getD k 0 ≤ most)) : isW most l = false := by
  simp only [isW, decide_eq_false_iff_not]
  exact fun h' => h ((Fit.iff most l).2 h'.2 k hk)
theorem isW_fit {most : Int} {l : List Int} (h : isW most l = true) : l.length ≤ 120 ∧ Fit most l l.length := by
  simp only [isW, decide_eq_true_eq] at h
  exact ⟨h.1, (Fit.iff most l).2 h.2⟩
end Wd

/-- A truth value; nothing that was there has changed. -/
def ResB (w : World) (b : Bool) (e : Ending) (w' : World) : Prop := e = .returned (.bool b) ∧ Below w.heap.size w w'
/-- A truth value; the world is the same. -/
def ResW (w : World) (b : Bool) (e : Ending) (w' : World) : Prop := e = .returned (.bool b) ∧ w = w'
/-- A list in memory of its own. -/
def ResLM (w : World) (l : List Int) (e : Ending) (w' : World) : Prop := ∃ A c, e = .returned (.slice A l.length c) ∧ (l.length ≤ c ∧ c ≤ maxLen) ∧ Mine w' w.heap.size w'.heap.size A l.length l ∧ Below w.heap.size w w'
theorem ret_b {a b : Bool} (h : b = a) : Ending.returned (.bool a) = .returned (.bool b) := by rw [h]

set_option maxHeartbeats 1000000 in
theorem wordUpTo_impl (A : Option Addr) (n c : Nat) (zs : List Int) (most : Int) (B : Nat) (w : World) (h : Ints w B A n zs) (hn : n ≤ 1048576) (hm : 0 ≤ most) (hm' : most ≤ 1000) :
    Calls Try.prog 68 #[.slice A n c, .int .i64 most] w (ResW w (Wd.isW most zs)) := by
  have hl := Lib.hid h.1
  have H := Lib.hid h
  clear h
  by_cases h120 : n ≤ 120
  case neg =>
    have F := Lib.hid (Wd.isW_long (most := most) (l := zs) (by rw [hl.out]; exact h120))
    have t0 : decide ((120 : Int) < (n : Int)) = true := by simp; omega
    go_enter Try.func68, Try.ntmps68
    go_wp2
    go_ret
    exact ⟨ret_b F.out, rfl⟩
  have t0 : decide ((120 : Int) < (n : Int)) = false := by simp; omega
  go_enter Try.func68, Try.ntmps68
  go_wp2
  go_loop [12] (fun i => ∃ k : Nat, k ≤ n ∧ i = .int .i64 k ∧ Wd.Fit most zs k) (fun i => n - (intOf i).toNat)
  case atStart => exact ⟨0, Nat.zero_le _, rfl, Wd.Fit.zero _ _⟩
  case round =>
    obtain ⟨k, hk, rfl, hfit⟩ := hrel
    have F := Lib.hid hfit
    clear hfit
    by_cases hlt : k < n
    · obtain ⟨b, off, z, rfl, hb, hz, hc⟩ := H.out.at_z hlt
      have Z := Lib.hid hz
      clear hz
      by_cases h0 : z = 0
      · have BAD := Lib.hid (Wd.isW_bad (most := most) (l := zs) (k := k) (by rw [hl.out]; exact hlt) (by rw [Z.out]; omega))
        subst h0
        go_wp2
        go_ret
        exact ⟨ret_b BAD.out, rfl⟩
      have t1 : (z == (0 : Int)) = false := by simpa using h0
      by_cases h1 : z < -most
      · have BAD := Lib.hid (Wd.isW_bad (most := most) (l := zs) (k := k) (by rw [hl.out]; exact hlt) (by rw [Z.out]; omega))
        clear h0
        go_wp2
        go_ret
        exact ⟨ret_b BAD.out, rfl⟩
      by_cases h2 : most < z
      · have BAD := Lib.hid (Wd.isW_bad (most := most) (l := zs) (k := k) (by rw [hl.out]; exact hlt) (by rw [Z.out]; omega))
        clear h0
        go_wp2
        go_ret
        exact ⟨ret_b BAD.out, rfl⟩
      have G := Lib.hid (F.out.next (by rw [Z.out]; exact h0) (by rw [Z.out]; omega) (by rw [Z.out]; omega))
      clear h0
      go_wp2
      go_round
      case rel => exact ⟨k + 1, by omega, by go_num, G.out⟩
      case measure => simp [intOf]; omega
    · obtain rfl : k = n := by omega
      have Y := Lib.hid (Wd.isW_yes (most := most) (l := zs) (by rw [hl.out]; exact h120) (by rw [hl.out]; exact F.out))
      go_wp2
      go_ret
      exact ⟨ret_b Y.out, rfl⟩

set_option maxHeartbeats 1000000 in
theorem isWord_spec (A : Option Addr) (n c : Nat) (zs : List Int) (B : Nat) (w : World) (h : Ints w B A n zs) (hn : n ≤ 1048576) :
    Calls Try.prog 65 #[.slice A n c] w (ResW w (Wd.isW 24 zs)) := by
  have hl := Lib.hid h.1
  have H := Lib.hid h
  clear h
  go_enter Try.func65, Try.ntmps65
  go_wp2
  go_loop [3] (fun i => ∃ k : Nat, k ≤ n ∧ i = .int .i64 k ∧ Wd.Fit 24 zs k) (fun i => n - (intOf i).toNat)
  case atStart => exact ⟨0, Nat.zero_le _, rfl, Wd.Fit.zero _ _⟩
  case round =>
    obtain ⟨k, hk, rfl, hfit⟩ := hrel
    have F := Lib.hid hfit
    clear hfit
    by_cases hlt : k < n
    · obtain ⟨b, off, z, rfl, hb, hz, hc⟩ := H.out.at_z hlt
      have Z := Lib.hid hz
      clear hz
      by_cases h0 : z = 0
      · have BAD := Lib.hid (Wd.isW_bad (most := 24) (l := zs) (k := k) (by rw [hl.out]; exact hlt) (by rw [Z.out]; omega))
        subst h0
        go_wp2
        go_ret
        exact ⟨ret_b BAD.out, rfl⟩
      have t1 : (z == (0 : Int)) = false := by simpa using h0
      by_cases h1 : -24 ≤ z ∧ z ≤ 24
      · have G := Lib.hid (F.out.next (by rw [Z.out]; exact h0) (by rw [Z.out]; omega) (by rw [Z.out]; omega))
        obtain ⟨g1, g2⟩ := h1
        clear h0
        go_wp2_with fail
        refine (in_yes z (-24) 24 _ g1 g2).mono ?_
        rintro e w' ⟨rfl, rfl⟩
        go_wp2
        go_round
        case rel => exact ⟨k + 1, by omega, by go_num, G.out⟩
        case measure => simp [intOf]; omega
      · have BAD := Lib.hid (Wd.isW_bad (most := 24) (l := zs) (k := k) (by rw [hl.out]; exact hlt) (by rw [Z.out]; omega))
        have h1' := Lib.hid h1
        clear h0 h1
        go_wp2_with fail
        refine (in_no z (-24) 24 _ h1'.out).mono ?_
        rintro e w' ⟨rfl, rfl⟩
        go_wp2
        go_ret
        exact ⟨ret_b BAD.out, rfl⟩
    · obtain rfl : k = n := by omega
      by_cases h120 : k ≤ 120
      · have Y := Lib.hid (Wd.isW_yes (most := 24) (l := zs) (by rw [hl.out]; exact h120) (by rw [hl.out]; exact F.out))
        have t0 : decide ((k : Int) ≤ (120 : Int)) = true := by simp; omega
        go_wp2
        go_ret
        exact ⟨ret_b Y.out, rfl⟩
      · have Y := Lib.hid (Wd.isW_long (most := 24) (l := zs) (by rw [hl.out]; exact h120))
        have t0 : decide ((k : Int) ≤ (120 : Int)) = false := by simp; omega
        go_wp2
        go_ret
        exact ⟨ret_b Y.out, rfl⟩

theorem isWord_specB (A : Option Addr) (n c : Nat) (zs : List Int) (w : World) (h : Ints w w.heap.size A n zs) (hn : n ≤ 1048576) :
    Calls Try.prog 65 #[.slice A n c] w (ResB w (Wd.isW 24 zs)) := (isWord_spec A n c zs _ w h hn).mono fun _ _ ⟨he, hw⟩ => ⟨he, hw ▸ Below.refl _ _⟩

end Go.Proofs.Ytakokhfnllpahaa
