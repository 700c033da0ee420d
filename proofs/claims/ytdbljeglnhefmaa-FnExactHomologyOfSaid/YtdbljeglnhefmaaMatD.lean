/- Contracts of the functions that read one entry of a matrix, the program's and the specification's. No condition but those that each theorem names. -/
import Derived.Test.YtdbljeglnhefmaaMatC
namespace Go.Proofs.Ytdbljeglnhefmaa
open Go.RowKit

def Box3 (w : World) (g : Nat) (x y z : Value) : Prop := w.cell? ⟨g, 0, none⟩ = some x ∧ w.cell? ⟨g, 1, none⟩ = some y ∧ w.cell? ⟨g, 2, none⟩ = some z
theorem Box3.below {w w' : World} {g : Nat} {x y z : Value} {B : Nat} (h : Box3 w g x y z) (hb : Below B w w') (hg : g < B) : Box3 w' g x y z :=
  ⟨(hb.cell (p := ⟨g, 0, none⟩) hg).trans h.1, (hb.cell (p := ⟨g, 1, none⟩) hg).trans h.2.1, (hb.cell (p := ⟨g, 2, none⟩) hg).trans h.2.2⟩
theorem Box3.new (w : World) (t : TypeId) (x y z : Value) : Box3 (w.alloc (.cells #[x, y, z] t)) w.heap.size x y z := by
  refine ⟨?_, ?_, ?_⟩ <;> simp [go_sem]
theorem undrew {w w' : World} (h : Below w.drew.heap.size w.drew w') : Below w.heap.size w w' := ((Below.refl _ _).drew).trans h

section
variable (r q : Int) (A : Option Addr) (n c : Nat) (zs : List Int) (w : World) (h : Ints w w.heap.size A n zs) (hn : n ≤ 1048576)
include h hn
theorem isMi_yes (hP : MOk r q zs) : Calls Try.prog 17 #[.agg #[.int .i64 r, .int .i64 q, .slice A n c]] w fun e w' => e = .returned (.bool true) ∧ Below w.heap.size w w' := (isM_impl r q A n c zs w h hn).mono fun _ _ h => h.yes hP
theorem isMi_no (hP : ¬ MOk r q zs) : Calls Try.prog 17 #[.agg #[.int .i64 r, .int .i64 q, .slice A n c]] w fun e w' => e = .returned (.bool false) ∧ Below w.heap.size w w' := (isM_impl r q A n c zs w h hn).mono fun _ _ h => h.no hP
theorem isMs_yes (hP : MOk r q zs) : Calls Try.prog 15 #[.agg #[.int .i64 r, .int .i64 q, .slice A n c]] w fun e w' => e = .returned (.bool true) ∧ Below w.heap.size w w' := (isM_spec r q A n c zs w h hn).mono fun _ _ h => h.yes hP
theorem isMs_no (hP : ¬ MOk r q zs) : Calls Try.prog 15 #[.agg #[.int .i64 r, .int .i64 q, .slice A n c]] w fun e w' => e = .returned (.bool false) ∧ Below w.heap.size w w' := (isM_spec r q A n c zs w h hn).mono fun _ _ h => h.no hP

set_option maxHeartbeats 400000 in
theorem at_impl (i j : Int) (k : Nat) (h0 : 0 ≤ i * q) (h1 : i * q ≤ 2304) (he : i * q + j = k) (hk : k < n) :
    Calls Try.prog 57 #[.agg #[.int .i64 r, .int .i64 q, .slice A n c], .int .i64 i, .int .i64 j] w fun e w' => e = .returned (.int .i64 (zs.getD k 0)) ∧ Below w.heap.size w w' := by
  obtain ⟨b, off, z, rfl, hb, hz, hc⟩ := h.at_z hk
  have hc' : w.cell? ⟨b, off + (i * q + j).toNat, none⟩ = some (.int .i64 z) := by rw [he]; exact hc
  have b0 : 0 ≤ i * q + j := by omega
  have b1 : i * q + j < (n : Int) := by omega
  rw [hz]
  clear hc he h hz hk
  go_enter Try.func57, Try.ntmps57
  go_wp2
  go_ret
  exact ⟨rfl, al1 _ _⟩
set_option maxHeartbeats 400000 in
theorem at_spec (i j : Int) (k : Nat) (h0 : 0 ≤ i * q) (h1 : i * q ≤ 2304) (he : i * q + j = k) (hk : k < n) :
    Calls Try.prog 55 #[.agg #[.int .i64 r, .int .i64 q, .slice A n c], .int .i64 i, .int .i64 j] w fun e w' => e = .returned (.int .i64 (zs.getD k 0)) ∧ Below w.heap.size w w' := by
  obtain ⟨b, off, z, rfl, hb, hz, hc⟩ := h.at_z hk
  have hc' : w.cell? ⟨b, off + (i * q + j).toNat, none⟩ = some (.int .i64 z) := by rw [he]; exact hc
  have b0 : 0 ≤ i * q + j := by omega
  have b1 : i * q + j < (n : Int) := by omega
  rw [hz]
  clear hc he h hz hk
  go_enter Try.func55, Try.ntmps55
  go_wp2
  go_ret
  exact ⟨rfl, al1 _ _⟩
end

set_option maxHeartbeats 400000 in
theorem has_yes (r q i j : Int) (A : Option Addr) (n c : Nat) (w : World) (h0 : 0 ≤ i) (h1 : i < r) (h2 : 0 ≤ j) (h3 : j < q) :
    Calls Try.prog 56 #[.agg #[.int .i64 r, .int .i64 q, .slice A n c], .int .i64 i, .int .i64 j] w fun e w' => e = .returned (.bool true) ∧ Below w.heap.size w w' := by
  have d1 : decide (i < r) = true := by simpa using h1
  have d2 : decide (j < q) = true := by simpa using h3
  have d3 : decide (0 ≤ j) = true := by simpa using h2
  go_enter Try.func56, Try.ntmps56
  go_wp2
  go_ret
  exact ⟨rfl, al1 _ _⟩
set_option maxHeartbeats 400000 in
theorem has_no (r q i j : Int) (A : Option Addr) (n c : Nat) (w : World) (h : ¬ (0 ≤ i ∧ i < r ∧ 0 ≤ j ∧ j < q)) :
    Calls Try.prog 56 #[.agg #[.int .i64 r, .int .i64 q, .slice A n c], .int .i64 i, .int .i64 j] w fun e w' => e = .returned (.bool false) ∧ Below w.heap.size w w' := by
  by_cases h0 : 0 ≤ i
  case neg =>
    clear h
    go_enter Try.func56, Try.ntmps56
    go_wp2
    go_ret
    exact ⟨rfl, al1 _ _⟩
  by_cases h1 : i < r
  case neg =>
    clear h
    have d1 : decide (i < r) = false := by simpa using h1
    go_enter Try.func56, Try.ntmps56
    go_wp2
    go_ret
    exact ⟨rfl, al1 _ _⟩
  have d1 : decide (i < r) = true := by simpa using h1
  by_cases h2 : 0 ≤ j
  case neg =>
    clear h
    have d3 : decide (0 ≤ j) = false := by simpa using h2
    go_enter Try.func56, Try.ntmps56
    go_wp2
    go_ret
    exact ⟨rfl, al1 _ _⟩
  have d3 : decide (0 ≤ j) = true := by simpa using h2
  have h3 : ¬ j < q := by omega
  have d2 : decide (j < q) = false := by simpa using h3
  clear h
  go_enter Try.func56, Try.ntmps56
  go_wp2
  go_ret
  exact ⟨rfl, al1 _ _⟩

/-- What 'EntryAt' answers. -/
def EntryIs (r q : Int) (zs : List Int) (i j : Int) (x : Int) (b : Bool) : Prop :=
  ((MOk r q zs ∧ 0 ≤ i ∧ i < r ∧ 0 ≤ j ∧ j < q) → x = zs.getD (i * q + j).toNat 0 ∧ b = true) ∧ (¬ (MOk r q zs ∧ 0 ≤ i ∧ i < r ∧ 0 ≤ j ∧ j < q) → x = 0 ∧ b = false)
theorem EntryIs.same {r q : Int} {zs : List Int} {i j x y : Int} {b d : Bool} (h : EntryIs r q zs i j x b) (h' : EntryIs r q zs i j y d) : x = y ∧ b = d := by
  by_cases c : MOk r q zs ∧ 0 ≤ i ∧ i < r ∧ 0 ≤ j ∧ j < q
  · exact ⟨(h.1 c).1.trans (h'.1 c).1.symm, (h.1 c).2.trans (h'.1 c).2.symm⟩
  · exact ⟨(h.2 c).1.trans (h'.2 c).1.symm, (h.2 c).2.trans (h'.2 c).2.symm⟩
def SaysE (r q : Int) (zs : List Int) (i j : Int) (w : World) (e : Ending) (w' : World) : Prop :=
  ∃ x b, e = .returned (.tuple #[.int .i64 x, .bool b]) ∧ EntryIs r q zs i j x b ∧ Below w.heap.size w w'

theorem iq_le {i q r : Int} (_h : 0 ≤ i) (h1 : i < r) (h2 : 0 ≤ q) : i * q + q ≤ r * q := by
  have : (i + 1) * q ≤ r * q := Int.mul_le_mul_of_nonneg_right (by omega) h2
  rw [Int.add_mul] at this
  omega

set_option maxHeartbeats 1000000 in
theorem entry_impl (r q i j : Int) (A : Option Addr) (n c : Nat) (zs : List Int) (w : World) (h : Ints w w.heap.size A n zs) (hn : n ≤ 1048576) :
    Calls Try.prog 20 #[.agg #[.int .i64 r, .int .i64 q, .slice A n c], .int .i64 i, .int .i64 j] w (SaysE r q zs i j w) := by
  have H := Lib.hid h
  clear h
  have K0 := Lib.hid (Box3.new w 27 (.int .i64 r) (.int .i64 q) (.slice A n c))
  by_cases hP : MOk r q zs
  case neg =>
    have HP := Lib.hid hP
    clear hP
    go_enter Try.func20, Try.ntmps20
    go_wp2_with fail
    refine (isMi_no r q A n c zs _ (H.out.into (al1 _ _)) hn HP.out).mono ?_
    rintro e w1 ⟨rfl, hb⟩
    go_wp2
    go_ret2
    exact ⟨_, _, rfl, ⟨fun h => absurd h.1 HP.out, fun _ => ⟨rfl, rfl⟩⟩, on1 _ hb⟩
  have HP := Lib.hid hP
  clear hP
  by_cases hi : 0 ≤ i ∧ i < r ∧ 0 ≤ j ∧ j < q
  case neg =>
    have HI := Lib.hid hi
    clear hi
    go_enter Try.func20, Try.ntmps20
    go_wp2_with fail
    refine (isMi_yes r q A n c zs _ (H.out.into (al1 _ _)) hn HP.out).mono ?_
    rintro e w1 ⟨rfl, hb⟩
    have K1 := Lib.hid (K0.out.below hb (by simp))
    have HB1 := Lib.hid (on1 _ hb)
    clear hb K0
    obtain ⟨c0, c1, c2⟩ := K1.out
    go_wp2_with fail
    refine (has_no r q i j A n c _ HI.out).mono ?_
    rintro e w2 ⟨rfl, hb2⟩
    go_wp2
    go_ret2
    exact ⟨_, _, rfl, ⟨fun h => absurd h.2 HI.out, fun _ => ⟨rfl, rfl⟩⟩, HB1.out.trans (hb2.mono HB1.out.size)⟩
  obtain ⟨i0, i1, j0, j1⟩ := hi
  have bq := iq_le (q := q) i0 i1 (by omega)
  have b0 := rq_lo i0 (by omega : 0 ≤ q)
  have b1 := rq_hi HP.out.1 HP.out.2.1 HP.out.2.2.1 HP.out.2.2.2.1
  have hlen : (n : Int) = r * q := by rw [← H.out.1]; exact HP.out.2.2.2.2.1
  have hk : (i * q + j).toNat < n := by omega
  have he : i * q + j = ((i * q + j).toNat : Int) := by omega
  have HE := Lib.hid he
  clear he hlen
  go_enter Try.func20, Try.ntmps20
  go_wp2_with fail
  refine (isMi_yes r q A n c zs _ (H.out.into (al1 _ _)) hn HP.out).mono ?_
  rintro e w1 ⟨rfl, hb⟩
  have K1 := Lib.hid (K0.out.below hb (by simp))
  have z1 : w.heap.size < w1.heap.size := by have := hb.size; simp at this; omega
  have HB1 := Lib.hid (on1 _ hb)
  clear hb K0
  obtain ⟨c0, c1, c2⟩ := K1.out
  go_wp2_with fail
  refine (has_yes r q i j A n c _ i0 i1 j0 j1).mono ?_
  rintro e w2 ⟨rfl, hb2⟩
  clear c0 c1 c2
  obtain ⟨c0, c1, c2⟩ := K1.out.below hb2 z1
  have HB2 := Lib.hid (HB1.out.trans (hb2.mono HB1.out.size))
  clear hb2
  go_wp2_with fail
  refine (at_impl r q A n c zs _ (H.out.into HB2.out) hn i j _ b0 (by omega) HE.out hk).mono ?_
  rintro e w3 ⟨rfl, hb3⟩
  go_wp2
  go_ret2
  exact ⟨_, _, rfl, ⟨fun _ => ⟨rfl, rfl⟩, fun h => absurd ⟨HP.out, i0, i1, j0, j1⟩ h⟩, HB2.out.trans (hb3.mono HB2.out.size)⟩

set_option maxHeartbeats 1000000 in
theorem entry_spec (r q i j : Int) (A : Option Addr) (n c : Nat) (zs : List Int) (w : World) (h : Ints w w.heap.size A n zs) (hn : n ≤ 1048576) :
    Calls Try.prog 19 #[.agg #[.int .i64 r, .int .i64 q, .slice A n c], .int .i64 i, .int .i64 j] w (SaysE r q zs i j w) := by
  have H := Lib.hid h
  clear h
  have K0 := Lib.hid (Box3.new w 27 (.int .i64 r) (.int .i64 q) (.slice A n c))
  by_cases hP : MOk r q zs
  case neg =>
    have HP := Lib.hid hP
    clear hP
    go_enter Try.func19, Try.ntmps19
    go_wp2_with fail
    refine (isMs_no r q A n c zs _ (H.out.into (al1 _ _)) hn HP.out).mono ?_
    rintro e w1 ⟨rfl, hb⟩
    go_wp2
    go_ret2
    exact ⟨_, _, rfl, ⟨fun h => absurd h.1 HP.out, fun _ => ⟨rfl, rfl⟩⟩, on1 _ hb⟩
  have HP := Lib.hid hP
  clear hP
  by_cases hi : 0 ≤ i ∧ i < r ∧ 0 ≤ j ∧ j < q
  case neg =>
    have HI := Lib.hid hi
    clear hi
    obtain ⟨r0, r1, q0, q1, _⟩ := HP.out
    go_enter Try.func19, Try.ntmps19
    go_wp2_with fail
    refine (isMs_yes r q A n c zs _ (H.out.into (al1 _ _)) hn HP.out).mono ?_
    rintro e w1 ⟨rfl, hb⟩
    have K1 := Lib.hid (K0.out.below hb (by simp))
    have HB1 := Lib.hid (on1 _ hb)
    clear hb K0
    obtain ⟨c0, c1, c2⟩ := K1.out
    go_wp2_with fail
    by_cases hi : 0 ≤ i ∧ i ≤ r - 1
    · have hj : ¬ (0 ≤ j ∧ j < q) := fun g => HI.out ⟨hi.1, by omega, g⟩
      have HJ := Lib.hid hj
      have HI' := Lib.hid hi
      clear hi hj
      with_reducible refine (in_yes _ _ _ _ HI'.out.1 HI'.out.2).mono ?_
      rintro e w2 ⟨rfl, rfl⟩
      go_wp2_with fail
      with_reducible refine (in_no _ _ _ _ (by have := HJ.out; omega)).mono ?_
      rintro e w2 ⟨rfl, rfl⟩
      go_wp2
      go_ret2
      exact ⟨_, _, rfl, ⟨fun h => absurd h.2 HI.out, fun _ => ⟨rfl, rfl⟩⟩, HB1.out⟩
    · have HJ := Lib.hid hi
      clear hi
      with_reducible refine (in_no _ _ _ _ HJ.out).mono ?_
      rintro e w2 ⟨rfl, rfl⟩
      go_wp2
      go_ret2
      exact ⟨_, _, rfl, ⟨fun h => absurd h.2 HI.out, fun _ => ⟨rfl, rfl⟩⟩, HB1.out⟩
  obtain ⟨i0, i1, j0, j1⟩ := hi
  have bq := iq_le (q := q) i0 i1 (by omega)
  have b0 := rq_lo i0 (by omega : 0 ≤ q)
  have b1 := rq_hi HP.out.1 HP.out.2.1 HP.out.2.2.1 HP.out.2.2.2.1
  have hlen : (n : Int) = r * q := by rw [← H.out.1]; exact HP.out.2.2.2.2.1
  have hk : (i * q + j).toNat < n := by omega
  have he : i * q + j = ((i * q + j).toNat : Int) := by omega
  have HE := Lib.hid he
  clear he hlen
  obtain ⟨r0, r1, q0, q1, _⟩ := HP.out
  go_enter Try.func19, Try.ntmps19
  go_wp2_with fail
  refine (isMs_yes r q A n c zs _ (H.out.into (al1 _ _)) hn HP.out).mono ?_
  rintro e w1 ⟨rfl, hb⟩
  have K1 := Lib.hid (K0.out.below hb (by simp))
  have z1 : w.heap.size < w1.heap.size := by have := hb.size; simp at this; omega
  have HB1 := Lib.hid (on1 _ hb)
  clear hb K0
  obtain ⟨c0, c1, c2⟩ := K1.out
  go_wp2_with fail
  with_reducible refine (in_yes _ _ _ _ i0 (by omega)).mono ?_
  rintro e w2 ⟨rfl, rfl⟩
  go_wp2_with fail
  with_reducible refine (in_yes _ _ _ _ j0 (by omega)).mono ?_
  rintro e w2 ⟨rfl, rfl⟩
  go_wp2_with fail
  refine (at_spec r q A n c zs _ (H.out.into HB1.out) hn i j _ b0 (by omega) HE.out hk).mono ?_
  rintro e w3 ⟨rfl, hb3⟩
  go_wp2
  go_ret2
  exact ⟨_, _, rfl, ⟨fun _ => ⟨rfl, rfl⟩, fun h => absurd ⟨HP.out, i0, i1, j0, j1⟩ h⟩, HB1.out.trans (hb3.mono HB1.out.size)⟩

end Go.Proofs.Ytdbljeglnhefmaa
