/- The text of a polynomial, by the specification. No condition but those that each theorem names. -/
import Derived.Test.YtopbfjhgpgjnnaaDoorLauB
import Derived.Test.YtopbfjhgpgjnnaaDoorNumA
import Derived.Deep.RegionHeld3
namespace Go.Proofs.YtopbfjhgpgjnnaaDoor
open Go.RowKit

/-- The text of a term other than 0: its sign, its absolute value, and the exponent if it is not 0. -/
def termText (x e : Int) : List UInt8 := (if 0 < x then 43 :: Lib.itoa x else Lib.itoa x) ++ (if e = 0 then [] else 116 :: 94 :: Lib.itoa e)
/-- The text of the first k terms. -/
def lauText (low : Int) (zs : List Int) : Nat → List UInt8
  | 0 => []
  | k + 1 => if zs.getD k 0 = 0 then lauText low zs k else lauText low zs k ++ termText (zs.getD k 0) (low + k)
/-- The text of a valid polynomial. -/
def lauOut (low : Int) (zs : List Int) : List UInt8 := if zs = [] then [48] else lauText low zs zs.length
theorem termText_len (x e : Int) (h0 : -1000000000000 ≤ x ∧ x ≤ 1000000000000) (h1 : -1000 ≤ e ∧ e ≤ 1000) : (termText x e).length ≤ 50 := by
  have a := itoa_len x (by omega) (by omega)
  have b := itoa_len e (by omega) (by omega)
  unfold termText
  rw [List.length_append]
  split <;> split <;> simp only [List.length_cons, List.length_nil] <;> omega
theorem lauText_len (low : Int) (zs : List Int) (hz : ∀ i, -1000000000000 ≤ zs.getD i 0 ∧ zs.getD i 0 ≤ 1000000000000) (hl : -240 ≤ low ∧ low ≤ 240) : ∀ k : Nat, k ≤ 160 → (lauText low zs k).length ≤ 50 * k
  | 0, _ => by simp [lauText]
  | k + 1, hk => by
    have ih := lauText_len low zs hz hl k (by omega)
    rw [lauText]
    split
    · omega
    · have := termText_len (zs.getD k 0) (low + k) (hz k) (by omega)
      rw [List.length_append]
      omega
theorem lauText_ne (low : Int) (zs : List Int) (h : zs.getD 0 0 ≠ 0) : ∀ k : Nat, 0 < k → lauText low zs k ≠ []
  | 0, hk => by omega
  | k + 1, _ => by
    rw [lauText]
    rcases Nat.eq_zero_or_pos k with h0 | h0
    · subst h0
      rw [if_neg h]
      unfold termText lauText
      split
      · simp
      · intro e
        have e2 := congrArg List.length e
        rw [List.nil_append, List.length_append, List.length_nil] at e2
        have : 0 < (Lib.itoa (zs.getD 0 0)).length := by
          unfold Lib.itoa
          split
          · simp
          · rw [Lib.decDigits_length]; exact Lib.nDigits_pos _
        omega
    · have ih := lauText_ne low zs h k h0
      split
      · exact ih
      · intro e
        exact ih (List.append_eq_nil_iff.1 e).1

set_option maxRecDepth 100000 in
theorem formatL_spec_no (r : Int) (A : Option Addr) (n c : Nat) (zs : List Int) (w : World) (h : Ints w w.heap.size A n zs) (hn : n ≤ 1048576) (hP : ¬ Lau.LOk r zs) :
    Calls Tryd.prog 5 #[.agg #[.int .i64 r, .slice A n c]] w (NumR w []) := by
  have IM := Lib.hid (isLs_no r A n c zs (w.alloc (Obj.cells #[.int .i64 r, .slice A n c] 27)) (h.into (al1 _ _)) hn hP)
  clear h hP
  go_enter Tryd.func5, Tryd.ntmps5
  go_wp2_with fail
  refine IM.out.mono ?_
  rintro e w1 ⟨rfl, hb⟩
  go_wp2_with fail
  go_ret
  exact ⟨rfl, on1 _ hb⟩

set_option maxRecDepth 100000 in
set_option maxHeartbeats 8000000 in
theorem formatL_spec (r : Int) (A : Option Addr) (n c : Nat) (zs : List Int) (w : World) (h : Ints w w.heap.size A n zs) (hn : n ≤ 1048576) (hP : Lau.LOk r zs) :
    Calls Tryd.prog 5 #[.agg #[.int .i64 r, .slice A n c]] w (NumR w (lauOut r zs)) := by
  have IM := Lib.hid (isLs_yes r A n c zs (w.alloc (Obj.cells #[.int .i64 r, .slice A n c] 27)) (h.into (al1 _ _)) hn hP)
  have K0 := Lib.hid (BoxG.new w 27 (.int .i64 r) (.slice A n c))
  have n160 : n ≤ 160 := by have := hP.len; have := h.1; omega
  have hlow := hP.low
  have HL := Lib.hid h.1
  have H := Lib.hid h
  have HZ := Lib.hid hP.ent'
  have BL := Lib.hid (fun k hk => lauText_len r zs hP.ent' (by omega) k hk)
  have OUT := Lib.hid (show (lauText r zs n = [] → lauOut r zs = [48]) ∧ (lauText r zs n ≠ [] → lauOut r zs = lauText r zs n) from by
    rcases hP with ⟨e, _⟩ | ⟨hne, _, h0, _⟩
    · rw [show n = 0 from by rw [← h.1, e]; rfl, lauOut, if_pos e]
      exact ⟨fun _ => rfl, fun h => absurd rfl h⟩
    · rw [lauOut, if_neg hne, h.1]
      exact ⟨fun e => absurd e (lauText_ne r zs h0 n (by have := List.length_pos_iff.2 hne; have := h.1; omega)), fun _ => rfl⟩)
  clear h hP
  go_enter Tryd.func5, Tryd.ntmps5
  go_wp2_with fail
  refine IM.out.mono ?_
  rintro e w1 ⟨rfl, hb⟩
  have z1 : w.heap.size < w1.heap.size := by have := hb.size; simp at this; omega
  have K1 := Lib.hid (K0.out.below hb (by simp))
  have HB := Lib.hid (on1 _ hb)
  clear hb K0 IM
  go_wp2
  go_loopw [4, 3] (fun x out wr => ∃ (k : Nat), k ≤ n ∧ x = .int .i64 k ∧ out = .string ⟨(lauText r zs k).toArray⟩ ∧ Below w1.heap.size w1 wr) (fun x _ _ => n - (intOf x).toNat)
  case atStart => exact ⟨0, Nat.zero_le _, rfl, rfl, Below.refl _ _⟩
  case round =>
    obtain ⟨k, hk, rfl, rfl, hbel⟩ := hrel
    have sz : w1.heap.size ≤ wr.heap.size := hbel.size
    have lk := BL.out k (by omega)
    obtain ⟨l, hl⟩ : ∃ l, lauText r zs k = l := ⟨_, rfl⟩
    rw [hl] at lk
    rw [hl]
    have HLL := Lib.hid hl
    have L := Lib.hid hbel
    obtain ⟨c0, c1⟩ := K1.out.below L.out z1
    clear hl hbel
    by_cases hlt : k < n
    · have t0 : (k : Int) < (n : Int) := by omega
      have t1 : (0 : Int) ≤ (k : Int) := by omega
      obtain ⟨b, off, z, rfl, hblt, hzk, cz⟩ := (H.out.below (HB.out.trans (L.out.mono HB.out.size))).at_z hlt
      obtain ⟨z0, z2⟩ := HZ.out k
      rw [hzk] at z0 z2
      have we : IntKind.i64.wrap (r + (k : Int)) = r + (k : Int) := IntWalk.i64_in _ (by omega)
      have lz := itoa_len z (by omega) (by omega)
      have le := itoa_len (r + (k : Int)) (by omega) (by omega)
      have QZ := Lib.hid (fun w => number_spec z w (by omega) (by omega))
      have QE := Lib.hid (fun w => number_spec (r + (k : Int)) w (by omega) (by omega))
      by_cases hz0 : z = 0
      · have Q := Lib.hid (show lauText r zs (k + 1) = l by rw [lauText, hzk, if_pos hz0, HLL.out])
        have u1 : (z == 0) = true := by simpa using hz0
        clear hzk hz0
        go_wp2_with fail
        go_roundw
        case rel => exact ⟨k + 1, by omega, by go_num, by rw [Q.out], L.out⟩
        case measure => simp [intOf]; omega
      · have Q := Lib.hid (show lauText r zs (k + 1) = l ++ termText z (r + k) by rw [lauText, hzk, if_neg hz0, HLL.out])
        have u1 : (z == 0) = false := by simpa using hz0
        obtain ⟨t, ht⟩ : ∃ t, Lib.itoa z = t := ⟨_, rfl⟩
        obtain ⟨u, hu⟩ : ∃ u, Lib.itoa (r + (k : Int)) = u := ⟨_, rfl⟩
        unfold termText at Q
        rw [ht] at QZ Q lz
        rw [hu] at QE Q le
        clear hzk hz0 ht hu
        by_cases hp : 0 < z
        · have u2 : decide (0 < z) = true := by simpa using hp
          rw [if_pos hp] at Q
          have A1 := fun w => add_run w l [43] (by omega) (by simp)
          have A2 := fun w => add_run w (l ++ [43]) t (by simp; omega) (by omega)
          have A3 := fun w => add_run w (l ++ 43 :: t) [116, 94] (by simp; omega) (by simp)
          have A4 := fun w => add_run w (l ++ 43 :: (t ++ [116, 94])) u (by simp; omega) (by omega)
          by_cases he : r + (k : Int) = 0
          · have u3 : (r + (k : Int) != 0) = false := by simpa using he
            rw [if_pos he] at Q
            clear A3 A4 he QE
            go_wp2_with fail
            refine (QZ.out _).mono ?_
            rintro e w6 ⟨rfl, hb⟩
            go_wp2_with fail
            go_roundw
            case rel =>
              refine ⟨k + 1, by omega, by go_num, ?_, L.out.trans (hb.mono sz)⟩
              rw [Q.out, List.append_nil]
            case measure => simp [intOf]; omega
          · have u3 : (r + (k : Int) != 0) = true := by simpa using he
            rw [if_neg he] at Q
            clear he
            go_wp2_with fail
            refine (QZ.out _).mono ?_
            rintro e w6 ⟨rfl, hb⟩
            have L6 := Lib.hid (L.out.trans (hb.mono sz))
            have sz6 : w1.heap.size ≤ w6.heap.size := L6.out.size
            clear hb
            go_wp2_with fail
            refine (QE.out _).mono ?_
            rintro e w7 ⟨rfl, hb⟩
            go_wp2_with fail
            go_roundw
            case rel =>
              refine ⟨k + 1, by omega, by go_num, ?_, L6.out.trans (hb.mono sz6)⟩
              simp [Q.out]
            case measure => simp [intOf]; omega
        · have u2 : decide (0 < z) = false := by simpa using hp
          rw [if_neg hp] at Q
          have A2 := fun w => add_run w l t (by omega) (by omega)
          have A3 := fun w => add_run w (l ++ t) [116, 94] (by simp; omega) (by simp)
          have A4 := fun w => add_run w (l ++ (t ++ [116, 94])) u (by simp; omega) (by omega)
          by_cases he : r + (k : Int) = 0
          · have u3 : (r + (k : Int) != 0) = false := by simpa using he
            rw [if_pos he] at Q
            clear A3 A4 he QE
            go_wp2_with fail
            refine (QZ.out _).mono ?_
            rintro e w6 ⟨rfl, hb⟩
            go_wp2_with fail
            go_roundw
            case rel =>
              refine ⟨k + 1, by omega, by go_num, ?_, L.out.trans (hb.mono sz)⟩
              rw [Q.out, List.append_nil]
            case measure => simp [intOf]; omega
          · have u3 : (r + (k : Int) != 0) = true := by simpa using he
            rw [if_neg he] at Q
            clear he
            go_wp2_with fail
            refine (QZ.out _).mono ?_
            rintro e w6 ⟨rfl, hb⟩
            have L6 := Lib.hid (L.out.trans (hb.mono sz))
            have sz6 : w1.heap.size ≤ w6.heap.size := L6.out.size
            clear hb
            go_wp2_with fail
            refine (QE.out _).mono ?_
            rintro e w7 ⟨rfl, hb⟩
            go_wp2_with fail
            go_roundw
            case rel =>
              refine ⟨k + 1, by omega, by go_num, ?_, L6.out.trans (hb.mono sz6)⟩
              simp [Q.out]
            case measure => simp [intOf]; omega
    · have t0 : ¬ (k : Int) < (n : Int) := by omega
      obtain rfl : n = k := by omega
      clear hlt
      have O1 := OUT.out
      rw [HLL.out] at O1
      by_cases hl0 : l = []
      · have O2 := Lib.hid (O1.1 hl0)
        subst hl0
        clear O1
        go_wp2_with fail
        go_ret
        exact ⟨by rw [O2.out]; rfl, HB.out.trans (L.out.mono HB.out.size)⟩
      · have O2 := Lib.hid (O1.2 hl0)
        have hle : l.isEmpty = false := by simpa using hl0
        clear O1 hl0
        go_wp2_with fail
        go_ret
        exact ⟨by rw [O2.out]; rfl, HB.out.trans (L.out.mono HB.out.size)⟩
end Go.Proofs.YtopbfjhgpgjnnaaDoor
