/- Contracts of the program's functions below IsReduction: sizes, equality, the form of a diagonal, an inverse. No condition but those that each theorem names. -/
import Derived.Test.YtgmkcmdnbfolhaaInvB
import Derived.Test.YtgmkcmdnbfolhaaGrpB
import Derived.Test.YtgmkcmdnbfolhaaMatN
namespace Go.Proofs.Ytgmkcmdnbfolhaa
open Go.RowKit

theorem SaysB.t {P : Prop} {B : Nat} {w w' : World} (h : P) (hb : Below B w w') : SaysB P B w (.returned (.bool true)) w' := ⟨_, rfl, ⟨fun _ => h, fun _ => rfl⟩, hb⟩
theorem SaysB.f {P : Prop} {B : Nat} {w w' : World} (h : ¬ P) (hb : Below B w w') : SaysB P B w (.returned (.bool false)) w' := ⟨_, rfl, ⟨fun e => (by simp at e), fun e => absurd e h⟩, hb⟩
/-- A valid matrix with these sides. -/
def SizedAs (r q a b : Int) (zs : List Int) : Prop := MOk r q zs ∧ r = a ∧ q = b

set_option maxHeartbeats 1000000 in
theorem sized_impl (r q a b : Int) (A : Option Addr) (n c : Nat) (zs : List Int) (w : World) (h : Ints w w.heap.size A n zs) (hn : n ≤ 1048576) :
    Calls Try.prog 69 #[.agg #[.int .i64 r, .int .i64 q, .slice A n c], .int .i64 a, .int .i64 b] w (SaysB (SizedAs r q a b zs) w.heap.size w) := by
  have K0 := Lib.hid (Box3.new w 40 (.int .i64 r) (.int .i64 q) (.slice A n c))
  have H := Lib.hid (h.into (al1 w (Obj.cells #[.int .i64 r, .int .i64 q, .slice A n c] 40)))
  clear h
  by_cases hP : MOk r q zs
  · have IM := Lib.hid ((isM_impl r q A n c zs _ H.out hn).mono fun _ _ h => h.yes hP)
    have HP := Lib.hid hP
    clear hP
    go_enter Try.func69, Try.ntmps69
    go_wp2_with fail
    refine IM.out.mono ?_
    rintro e w1 ⟨rfl, hb⟩
    obtain ⟨k0, k1, k2⟩ := K0.out.below hb (by simp)
    have HB := Lib.hid (on1 _ hb)
    clear hb
    by_cases h1 : r = a
    · have t1 : (r == a) = true := by simpa using h1
      have H1 := Lib.hid h1
      clear h1
      by_cases h2 : q = b
      · have t2 : (q == b) = true := by simpa using h2
        have H2 := Lib.hid h2
        clear h2
        go_wp2
        go_ret
        exact SaysB.t ⟨HP.out, H1.out, H2.out⟩ HB.out
      · have t2 : (q == b) = false := by simpa using h2
        have H2 := Lib.hid h2
        clear h2
        go_wp2
        go_ret
        exact SaysB.f (fun h => H2.out h.2.2) HB.out
    · have t1 : (r == a) = false := by simpa using h1
      have H1 := Lib.hid h1
      clear h1
      go_wp2
      go_ret
      exact SaysB.f (fun h => H1.out h.2.1) HB.out
  · have IM := Lib.hid ((isM_impl r q A n c zs _ H.out hn).mono fun _ _ h => h.no hP)
    have HP := Lib.hid hP
    clear hP
    go_enter Try.func69, Try.ntmps69
    go_wp2_with fail
    refine IM.out.mono ?_
    rintro e w1 ⟨rfl, hb⟩
    have HB := Lib.hid (on1 _ hb)
    clear hb
    go_wp2
    go_ret
    exact SaysB.f (fun h => HP.out h.1) HB.out

set_option maxHeartbeats 2000000 in
theorem eql_impl (A A' : Option Addr) (n n' c c' B B' : Nat) (xs ys : List Int) (w : World) (h : Ints w B A n xs) (h' : Ints w B' A' n' ys) (hn : n ≤ 1048576) (hn' : n' ≤ 1048576) (hB : B ≤ w.heap.size) (hB' : B' ≤ w.heap.size) :
    Calls Try.prog 73 #[.slice A n c, .slice A' n' c'] w (SaysB (xs = ys) w.heap.size w) := by
  have H := Lib.hid (h.more hB)
  have H' := Lib.hid (h'.more hB')
  clear h h'
  by_cases hl : n = n'
  · subst hl
    go_enter Try.func73, Try.ntmps73
    go_wp2
    go_loopw [13] (fun x wr => ∃ k : Nat, k ≤ n ∧ x = .int .i64 k ∧ (∀ i, i < k → xs.getD i 0 = ys.getD i 0) ∧ Below w.heap.size w wr) (fun x _ => n - (intOf x).toNat)
    case atStart => exact ⟨0, Nat.zero_le _, rfl, fun i hi => by omega, Below.refl _ _⟩
    case round =>
      obtain ⟨k, hk, rfl, hin, hbel⟩ := hrel
      have HI := Lib.hid hin
      have HL := Lib.hid hbel
      have R1 := Lib.hid (H.out.below hbel)
      have R2 := Lib.hid (H'.out.below hbel)
      clear hin hbel
      by_cases hlt : k < n
      · obtain ⟨b, off, x, rfl, hb, hx, hc⟩ := R1.out.at_z hlt
        obtain ⟨b', off', y, rfl, hb', hy, hc'⟩ := R2.out.at_z hlt
        have i0 : (0 : Int) ≤ (k : Int) := by omega
        have i1 : (k : Int) < (n : Int) := by omega
        have HX := Lib.hid hx
        have HY := Lib.hid hy
        clear hx hy
        by_cases hxy : x = y
        · have t1 : (x != y) = false := by simpa using hxy
          have HXY := Lib.hid hxy
          clear hxy
          go_wp2
          go_quiet (fail)
          all_goals
            go_wp2
            go_roundw
            case rel => exact ⟨k + 1, by omega, by go_num, fun i hi => (if e : i = k then (by rw [e, HX.out, HY.out]; exact HXY.out) else HI.out i (by omega)), HL.out.trans (Go.Joins.below_draws _ _ _)⟩
            case measure => simp [intOf]; omega
        · have t1 : (x != y) = true := by simpa using hxy
          have HXY := Lib.hid hxy
          clear hxy
          go_wp2
          go_quiet (fail)
          all_goals
            go_wp2
            go_ret
            exact SaysB.f (fun h => HXY.out (by rw [← HX.out, ← HY.out, h])) (HL.out.trans (Go.Joins.below_draws _ _ _))
      · obtain rfl : n = k := by omega
        have i1 : ¬ (n : Int) < (n : Int) := by omega
        have e1 := H.out.1
        have e2 := H'.out.1
        have HE := Lib.hid (show xs = ys from List.ext_getElem (by omega) fun i h1 h2 => by
          have := HI.out i (by omega)
          simpa [List.getElem?_eq_getElem h1, List.getElem?_eq_getElem h2] using this)
        clear e1 e2
        go_wp2
        go_ret
        exact SaysB.t HE.out HL.out
  · have t1 : ((n : Int) != (n' : Int)) = true := by simp; omega
    have e1 := H.out.1
    have e2 := H'.out.1
    have HE := Lib.hid (show ¬ xs = ys from fun h => hl (by rw [← e1, ← e2, h]))
    clear e1 e2 hl
    go_enter Try.func73, Try.ntmps73
    go_wp2
    go_ret
    exact SaysB.f HE.out (Below.refl _ _)

set_option maxHeartbeats 1000000 in
theorem equals_impl (r q r' q' : Int) (A A' : Option Addr) (n n' c c' B B' : Nat) (xs ys : List Int) (w : World) (h : Ints w B A n xs) (h' : Ints w B' A' n' ys) (hn : n ≤ 1048576) (hn' : n' ≤ 1048576) (hB : B ≤ w.heap.size) (hB' : B' ≤ w.heap.size) :
    Calls Try.prog 49 #[.agg #[.int .i64 r, .int .i64 q, .slice A n c], .agg #[.int .i64 r', .int .i64 q', .slice A' n' c']] w (SaysB (r = r' ∧ q = q' ∧ xs = ys) w.heap.size w) := by
  have D0 := Lib.hid (al2 w (Obj.cells #[.int .i64 r, .int .i64 q, .slice A n c] 40) (Obj.cells #[.int .i64 r', .int .i64 q', .slice A' n' c'] 40))
  have EQ := Lib.hid (eql_impl A A' n n' c c' B B' xs ys _ (h.below (D0.out.mono hB)) (h'.below (D0.out.mono hB')) hn hn' (by simp; omega) (by simp; omega))
  clear h h'
  by_cases h1 : r = r'
  · have t1 : (r == r') = true := by simpa using h1
    have H1 := Lib.hid h1
    clear h1
    by_cases h2 : q = q'
    · have t2 : (q == q') = true := by simpa using h2
      have H2 := Lib.hid h2
      clear h2
      go_enter Try.func49, Try.ntmps49
      go_wp2_with fail
      refine EQ.out.mono ?_
      rintro e w1 ⟨v, rfl, hv, hb⟩
      have HB := Lib.hid (on2 _ _ hb)
      have HV := Lib.hid hv
      clear hb hv
      go_wp2
      go_ret
      exact ⟨v, rfl, ⟨fun e => ⟨H1.out, H2.out, HV.out.1 e⟩, fun e => HV.out.2 e.2.2⟩, HB.out⟩
    · have t2 : (q == q') = false := by simpa using h2
      have H2 := Lib.hid h2
      clear h2
      go_enter Try.func49, Try.ntmps49
      go_wp2
      go_ret
      exact SaysB.f (fun h => H2.out h.2.1) D0.out
  · have t1 : (r == r') = false := by simpa using h1
    have H1 := Lib.hid h1
    clear h1
    go_enter Try.func49, Try.ntmps49
    go_wp2
    go_ret
    exact SaysB.f (fun h => H1.out h.1) D0.out

/-- No entry is negative, and none but those of the diagonal is another than 0. -/
def OkAt (C : Nat) (d : List Int) (a b : Nat) : Prop := 0 ≤ d.getD (a * C + b) 0 ∧ (a ≠ b → d.getD (a * C + b) 0 = 0)
/-- The form of a reduction's diagonal. -/
def SDiag (R C : Nat) (d : List Int) : Prop := (∀ a b, a < R → b < C → OkAt C d a b) ∧ Chain (diag C d (min R C)) (min R C)
theorem diag_within {R C : Nat} {d : List Int} (P : MOk R C d) : ∀ i, i < min R C → -1000000000000 ≤ (diag C d (min R C)).getD i 0 ∧ (diag C d (min R C)).getD i 0 ≤ 1000000000000 := by
  have key : ∀ k, k ≤ min R C → ∀ i, i < k → -1000000000000 ≤ (diag C d k).getD i 0 ∧ (diag C d k).getD i 0 ≤ 1000000000000 := by
    intro k
    induction k with
    | zero => intro _ i hi; omega
    | succ k ih =>
      intro hk i hi
      rw [diag, List.getD_eq_getElem?_getD]
      by_cases e : i < k
      · rw [List.getElem?_append_left (by rw [diag_len]; exact e), ← List.getD_eq_getElem?_getD]
        exact ih (by omega) i e
      · obtain rfl : i = k := by omega
        rw [List.getElem?_append_right (by rw [diag_len]; omega), diag_len]
        simp only [Nat.sub_self, List.getElem?_cons_zero, Option.getD_some]
        have h1 := P.2.2.2.2.1
        rw [castM] at h1
        have h2 : i * C + i < R * C := ij_lt (by omega) (by omega)
        exact P.2.2.2.2.2 _ (by omega)
  exact key _ (Nat.le_refl _)
end Go.Proofs.Ytgmkcmdnbfolhaa
