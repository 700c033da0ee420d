/- The text of a group, by the specification. No condition but those that each theorem names. -/
import Derived.Test.YtgmkcmdnbfolhaaDoorGrpB
import Derived.Test.YtgmkcmdnbfolhaaDoorNumA
namespace Go.Proofs.YtgmkcmdnbfolhaaDoor
open Go.RowKit

/-- The text of the free part. -/
def freeText (r : Int) : List UInt8 := if r = 1 then [90] else if 1 < r then 90 :: 94 :: Lib.itoa r else []
/-- .. and of the first k torsion numbers behind it. -/
def groupUpTo (h : List UInt8) (ts : List Int) : Nat → List UInt8
  | 0 => h
  | k + 1 => (if groupUpTo h ts k = [] then [] else groupUpTo h ts k ++ [32, 43, 32]) ++ 90 :: 95 :: Lib.itoa (ts.getD k 0)
/-- The text of a group. -/
def groupText (r : Int) (ts : List Int) : List UInt8 := if groupUpTo (freeText r) ts ts.length = [] then [48] else groupUpTo (freeText r) ts ts.length
theorem freeText_len (r : Int) (h0 : 0 ≤ r) (h1 : r ≤ 48) : (freeText r).length ≤ 30 := by
  have := itoa_len r (by omega) (by omega)
  unfold freeText
  split
  · simp
  · split
    · simp only [List.length_cons]; omega
    · simp
theorem groupUpTo_len (h : List UInt8) (ts : List Int) (hz : ∀ i, i < ts.length → 2 ≤ ts.getD i 0 ∧ ts.getD i 0 ≤ 1000000000000) (k : Nat) (hk : k ≤ ts.length) : (groupUpTo h ts k).length ≤ h.length + 26 * k := by
  induction k with
  | zero => simp [groupUpTo]
  | succ k ih =>
    have := ih (by omega)
    have ⟨z0, z1⟩ := hz k (by omega)
    have := itoa_len (ts.getD k 0) (by omega) (by omega)
    rw [groupUpTo, List.length_append, List.length_cons, List.length_cons]
    split
    · simp only [List.length_nil]; omega
    · simp only [List.length_append, List.length_cons, List.length_nil]; omega
theorem groupUpTo_ne (h : List UInt8) (ts : List Int) (k : Nat) : groupUpTo h ts (k + 1) ≠ [] := by
  rw [groupUpTo]; simp

set_option maxRecDepth 100000 in
set_option maxHeartbeats 4000000 in
theorem formatG_spec (r : Int) (A : Option Addr) (n c : Nat) (ts : List Int) (w : World) (h : Ints w w.heap.size A n ts) (hn : n ≤ 1048576) (hP : AOk r ts) :
    Calls Tryd.prog 6 #[.agg #[.int .i64 r, .slice A n c]] w (NumR w (groupText r ts)) := by
  obtain ⟨r0, r1, hlen, hz, _⟩ := id hP
  have BL := groupUpTo_len (freeText r) ts hz
  have FL := freeText_len r r0 r1
  have HZ := Lib.hid hz
  have HL := Lib.hid h.1
  have H := Lib.hid h
  have IM := Lib.hid ((isA_spec r A n c ts (w.alloc (Obj.cells #[.int .i64 r, .slice A n c] 27)) (h.into (al1 _ _)) hn).mono fun _ _ h => h.yes hP)
  have K0 := Lib.hid (BoxG.new w 27 (.int .i64 r) (.slice A n c))
  have QR := Lib.hid (fun w => number_spec r w (by omega) (by omega))
  have lr := itoa_len r (by omega) (by omega)
  obtain ⟨s0, hs0⟩ : ∃ s0, freeText r = s0 := ⟨_, rfl⟩
  obtain ⟨g, hg⟩ : ∃ g, groupText r ts = g := ⟨_, rfl⟩
  have HG := Lib.hid (show g = if groupUpTo s0 ts ts.length = [] then [48] else groupUpTo s0 ts ts.length by rw [← hg, groupText, hs0])
  rw [hs0] at BL FL
  rw [hg]
  have HS := Lib.hid hs0
  clear hz h hP hs0 hg
  rcases (show r = 0 ∨ r = 1 ∨ 1 < r by omega) with hr | hr | hr
  case' inl =>
    subst hr
    have HF := Lib.hid (show s0 = [] by rw [← HS.out]; rfl)
  case' inr.inl =>
    subst hr
    have HF := Lib.hid (show s0 = [90] by rw [← HS.out]; rfl)
  case' inr.inr =>
    have e1 : (r == 1) = false := by simp; omega
    have HF := Lib.hid (show s0 = 90 :: 94 :: Lib.itoa r by rw [← HS.out, freeText, if_neg (by omega), if_pos hr])
    obtain ⟨a, ha⟩ : ∃ a, Lib.itoa r = a := ⟨_, rfl⟩
    rw [ha] at QR HF lr
    have A0 := fun w => add_run w [90, 94] a (by simp) (by omega)
    clear ha
  all_goals
    clear HS
    go_enter Tryd.func6, Tryd.ntmps6
    go_wp2_with fail
    refine IM.out.mono ?_
    rintro e w1 ⟨rfl, hb⟩
    have z1 : w.heap.size < w1.heap.size := by have := hb.size; simp at this; omega
    have K1 := Lib.hid (K0.out.below hb (by simp))
    have HB := Lib.hid (on1 _ hb)
    clear hb K0
    obtain ⟨k0, k1⟩ := K1.out
    have CB := Lib.hid (Below.refl w1.heap.size w1)
    go_wp2_with fail
  all_goals try ((with_reducible refine (QR.out _).mono ?_); rintro e w2 ⟨rfl, hb⟩; replace CB := Lib.hid hb; clear hb QR k0 k1; go_wp2_with fail)
  all_goals
    go_loopw [4, 3] (fun x out wr => ∃ (k : Nat), k ≤ n ∧ x = .int .i64 k ∧ out = .string ⟨(groupUpTo s0 ts k).toArray⟩ ∧ Below w1.heap.size w1 wr) (fun x _ _ => n - (intOf x).toNat)
    case atStart => exact ⟨0, Nat.zero_le _, rfl, by rw [groupUpTo, HF.out], CB.out⟩
    case round =>
      obtain ⟨k, hk, rfl, rfl, hbel⟩ := hrel
      have lk := BL k (by have := HL.out; omega)
      obtain ⟨l, hl⟩ : ∃ l, groupUpTo s0 ts k = l := ⟨_, rfl⟩
      rw [hl] at lk
      rw [hl]
      have HLL := Lib.hid hl
      have L := Lib.hid hbel
      have nL := HL.out
      have l50 : l.length ≤ 60000 := by omega
      have HBr := Lib.hid (HB.out.trans (L.out.mono HB.out.size))
      obtain ⟨c0, c1⟩ := K1.out.below L.out z1
      clear hl hbel
      by_cases hlt : k < n
      · have t0 : (k : Int) < (n : Int) := by omega
        obtain ⟨b, off, z, rfl, hblt, hzk, cz⟩ := (H.out.below HBr.out).at_z hlt
        obtain ⟨z0, z2⟩ := HZ.out k (by omega)
        rw [hzk] at z0 z2
        have lz := itoa_len z (by omega) (by omega)
        have N := Lib.hid (fun w => number_spec z w (by omega) (by omega))
        have Q := Lib.hid (show groupUpTo s0 ts (k + 1) = (if l = [] then [] else l ++ [32, 43, 32]) ++ 90 :: 95 :: Lib.itoa z by rw [groupUpTo, HLL.out, hzk])
        obtain ⟨t, ht⟩ : ∃ t, Lib.itoa z = t := ⟨_, rfl⟩
        rw [ht] at Q N lz
        clear ht hzk nL
        by_cases hne : l = []
        · subst hne
          have A0 := fun w => add_run w [] [90, 95] (by simp) (by simp)
          have A1 := fun w => add_run w [90, 95] t (by simp) (by omega)
          go_wp2_with fail
          refine (N.out _).mono ?_
          rintro e w6 ⟨rfl, hb⟩
          go_wp2_with fail
          go_roundw
          case rel => exact ⟨k + 1, by omega, by go_num, by rw [Q.out]; simp, L.out.trans (hb.mono L.out.size)⟩
          case measure => simp [intOf]; omega
        · have F : (l == []) = false := by simpa using hne
          have A1 := fun w => add_run w l [32, 43, 32] (by omega) (by simp)
          have A2 := fun w => add_run w (l ++ [32, 43, 32]) [90, 95] (by simp; omega) (by simp)
          have A3 := fun w => add_run w (l ++ 32 :: 43 :: 32 :: [90, 95]) t (by simp; omega) (by omega)
          go_wp2_with fail
          refine (N.out _).mono ?_
          rintro e w6 ⟨rfl, hb⟩
          go_wp2_with fail
          go_roundw
          case rel => exact ⟨k + 1, by omega, by go_num, by rw [Q.out, if_neg hne]; simp, L.out.trans (hb.mono L.out.size)⟩
          case measure => simp [intOf]; omega
      · have t0 : ¬ (k : Int) < (n : Int) := by omega
        obtain rfl : k = n := by omega
        have HG2 := Lib.hid (show g = if l = [] then [48] else l by rw [HG.out, HL.out, HLL.out])
        clear hlt nL
        by_cases hne : l = []
        · subst hne
          go_wp2_with fail
          go_ret
          refine ⟨?_, HBr.out⟩
          have hg : g = [48] := by rw [HG2.out]; simp
          rw [hg]
          rfl
        · have F : (l == []) = false := by simpa using hne
          go_wp2_with fail
          go_ret
          refine ⟨?_, HBr.out⟩
          rw [HG2.out, if_neg hne]
          rfl

set_option maxRecDepth 100000 in
theorem formatG_spec_no (r : Int) (A : Option Addr) (n c : Nat) (ts : List Int) (w : World) (h : Ints w w.heap.size A n ts) (hn : n ≤ 1048576) (hP : ¬ AOk r ts) :
    Calls Tryd.prog 6 #[.agg #[.int .i64 r, .slice A n c]] w (NumR w []) := by
  have IM := Lib.hid ((isA_spec r A n c ts (w.alloc (Obj.cells #[.int .i64 r, .slice A n c] 27)) (h.into (al1 _ _)) hn).mono fun _ _ h => h.no hP)
  clear h hP
  go_enter Tryd.func6, Tryd.ntmps6
  go_wp2_with fail
  refine IM.out.mono ?_
  rintro e w1 ⟨rfl, hb⟩
  go_wp2_with fail
  go_ret
  exact ⟨rfl, on1 _ hb⟩
#print axioms formatG_spec
end Go.Proofs.YtgmkcmdnbfolhaaDoor
