/- The text of a matrix, by the specification. No condition but those that each theorem names. -/
import Derived.Test.YtboanggdehceaaaDoorMatD
import Derived.Test.YtboanggdehceaaaDoorNumA
import Derived.Deep.RegionHeld3
namespace Go.Proofs.YtboanggdehceaaaDoor
open Go.RowKit

/-- A text and, for each of the first k numbers, a blank and the number. -/
def blanked (h : List UInt8) (zs : List Int) : Nat → List UInt8
  | 0 => h
  | k + 1 => blanked h zs k ++ 32 :: Lib.itoa (zs.getD k 0)
/-- The text of the sides. -/
def sides (r q : Int) : List UInt8 := Lib.itoa r ++ 120 :: (Lib.itoa q ++ [58])
theorem blanked_len (h : List UInt8) (zs : List Int) (hz : ∀ i, i < zs.length → -1000000000000 ≤ zs.getD i 0 ∧ zs.getD i 0 ≤ 1000000000000) (k : Nat) (hk : k ≤ zs.length) : (blanked h zs k).length ≤ h.length + 22 * k := by
  induction k with
  | zero => simp [blanked]
  | succ k ih =>
    have := ih (by omega)
    have ⟨z0, z1⟩ := hz k (by omega)
    have := itoa_len (zs.getD k 0) (by omega) (by omega)
    rw [blanked, List.length_append, List.length_cons]
    omega

set_option maxRecDepth 100000 in
set_option maxHeartbeats 4000000 in
theorem formatM_spec (r q : Int) (A : Option Addr) (n c : Nat) (zs : List Int) (w : World) (h : Ints w w.heap.size A n zs) (hn : n ≤ 1048576) (hP : MOk r q zs) :
    Calls Tryd.prog 28 #[.agg #[.int .i64 r, .int .i64 q, .slice A n c]] w (NumR w (blanked (sides r q) zs zs.length)) := by
  obtain ⟨r0, r1, q0, q1, hl, hz⟩ := id hP
  have hlen : zs.length ≤ 2304 := by
    have : r * q ≤ 48 * 48 := Int.mul_le_mul r1 q1 q0 (by omega)
    omega
  have BL := blanked_len (sides r q) zs hz
  have HZ := Lib.hid hz
  have HL := Lib.hid h.1
  have H := Lib.hid h
  have IM := Lib.hid (isMs_yes r q A n c zs (w.alloc (Obj.cells #[.int .i64 r, .int .i64 q, .slice A n c] 26)) (h.into (al1 _ _)) hn hP)
  have K0 := Lib.hid (Box3.new w 26 (.int .i64 r) (.int .i64 q) (.slice A n c))
  have D0 := Lib.hid (al1 w (Obj.cells #[.int .i64 r, .int .i64 q, .slice A n c] 26))
  have QR := Lib.hid (fun w => number_spec r w (by omega) (by omega))
  have QQ := Lib.hid (fun w => number_spec q w (by omega) (by omega))
  have lr := itoa_len r (by omega) (by omega)
  have lq := itoa_len q (by omega) (by omega)
  obtain ⟨a, ha⟩ : ∃ a, Lib.itoa r = a := ⟨_, rfl⟩
  obtain ⟨b, hb⟩ : ∃ b, Lib.itoa q = b := ⟨_, rfl⟩
  have HS := Lib.hid (show sides r q = a ++ 120 :: (b ++ [58]) by rw [sides, ha, hb])
  rw [ha] at QR lr
  rw [hb] at QQ lq
  have A1 := fun w => add_run w a [120] (by omega) (by simp)
  have A2 := fun w => add_run w (a ++ [120]) b (by simp; omega) (by omega)
  have A3 := fun w => add_run w (a ++ 120 :: b) [58] (by simp; omega) (by simp)
  clear hl hz h hP ha hb
  go_enter Tryd.func28, Tryd.ntmps28
  go_wp2_with fail
  refine IM.out.mono ?_
  rintro e w1 ⟨rfl, hb⟩
  have z1 : w.heap.size < w1.heap.size := by have := hb.size; simp at this; omega
  have K1 := Lib.hid (K0.out.below hb (by simp))
  have HB := Lib.hid (on1 _ hb)
  clear hb D0
  obtain ⟨k0, k1, k2⟩ := K1.out
  go_wp2_with fail
  go_region_held3 (fun W => W.cell? ⟨w.heap.size, 0, none⟩ = some (.int .i64 r) ∧ W.cell? ⟨w.heap.size, 1, none⟩ = some (.int .i64 q)) (first | exact ⟨e0, e1⟩ | exact ⟨k0, k1⟩)
    ((go_at_call 33; (first | (with_reducible refine (QR.out _).mono ?_) | (with_reducible refine (QQ.out _).mono ?_)); rintro e w5 ⟨rfl, hb⟩; (first | have CB := Lib.hid (undrew hb) | replace CB := Lib.hid (CB.out.trans (hb.mono CB.out.size))); clear hb; obtain ⟨e0, e1, e2⟩ := K1.out.below CB.out z1))
  have ls : (sides r q).length ≤ 44 := by rw [HS.out, List.length_append, List.length_cons, List.length_append]; simp only [List.length_cons, List.length_nil]; omega
  have A4 : a ++ 120 :: (b ++ [58]) = sides r q := HS.out.symm
  rw [A4]
  obtain ⟨s0, hs0⟩ : ∃ s0, sides r q = s0 := ⟨_, rfl⟩
  rw [hs0] at BL ls
  rw [hs0]
  have HS0 := Lib.hid hs0
  have HB5 := Lib.hid (HB.out.trans (CB.out.mono HB.out.size))
  have z5 : w.heap.size < w5.heap.size := by have := CB.out.size; omega
  have K5 := Lib.hid (K1.out.below CB.out z1)
  clear A1 A2 A3 A4 HS QR QQ hs0 IM K0 K1 HB CB k0 k1 k2 e0 e1 e2
  go_wp2_with fail
  go_loopw [4, 3] (fun x out wr => ∃ (k : Nat), k ≤ n ∧ x = .int .i64 k ∧ out = .string ⟨(blanked s0 zs k).toArray⟩ ∧ Below w5.heap.size w5 wr) (fun x _ _ => n - (intOf x).toNat)
  case atStart => exact ⟨0, Nat.zero_le _, rfl, rfl, Below.refl _ _⟩
  case round =>
    obtain ⟨k, hk, rfl, rfl, hbel⟩ := hrel
    have sz : w5.heap.size ≤ wr.heap.size := hbel.size
    have lk := BL k (by have := HL.out; omega)
    obtain ⟨l, hl⟩ : ∃ l, blanked s0 zs k = l := ⟨_, rfl⟩
    rw [hl] at lk
    rw [hl]
    have HLL := Lib.hid hl
    have L := Lib.hid hbel
    have nL := HL.out
    obtain ⟨c0, c1, c2⟩ := K5.out.below L.out z5
    clear hl hbel
    by_cases hlt : k < n
    · have t0 : (k : Int) < (n : Int) := by omega
      obtain ⟨b, off, z, rfl, hblt, hzk, cz⟩ := (H.out.below (HB5.out.trans (L.out.mono HB5.out.size))).at_z hlt
      obtain ⟨z0, z1⟩ := HZ.out k (by omega)
      rw [hzk] at z0 z1
      have Q := Lib.hid (show blanked s0 zs (k + 1) = l ++ 32 :: Lib.itoa z by rw [blanked, HLL.out, hzk])
      have lz := itoa_len z (by omega) (by omega)
      have N := Lib.hid (fun w => number_spec z w (by omega) (by omega))
      obtain ⟨t, ht⟩ : ∃ t, Lib.itoa z = t := ⟨_, rfl⟩
      rw [ht] at Q N lz
      have A1 := fun w => add_run w l [32] (by omega) (by simp)
      have A2 := fun w => add_run w (l ++ [32]) t (by simp; omega) (by omega)
      clear ht hzk nL
      go_wp2_with fail
      refine (N.out _).mono ?_
      rintro e w6 ⟨rfl, hb⟩
      go_wp2_with fail
      go_roundw
      case rel =>
        refine ⟨k + 1, by omega, by go_num, ?_, L.out.trans (hb.mono sz)⟩
        rw [Q.out]
      case measure => simp [intOf]; omega
    · have t0 : ¬ (k : Int) < (n : Int) := by omega
      obtain rfl : k = n := by omega
      clear hlt
      go_wp2
      go_ret
      refine ⟨?_, HB5.out.trans (L.out.mono HB5.out.size)⟩
      rw [HS0.out, HLL.out]
      rfl

set_option maxRecDepth 100000 in
theorem formatM_spec_no (r q : Int) (A : Option Addr) (n c : Nat) (zs : List Int) (w : World) (h : Ints w w.heap.size A n zs) (hn : n ≤ 1048576) (hP : ¬ MOk r q zs) :
    Calls Tryd.prog 28 #[.agg #[.int .i64 r, .int .i64 q, .slice A n c]] w (NumR w []) := by
  have IM := Lib.hid (isMs_no r q A n c zs (w.alloc (Obj.cells #[.int .i64 r, .int .i64 q, .slice A n c] 26)) (h.into (al1 _ _)) hn hP)
  clear h hP
  go_enter Tryd.func28, Tryd.ntmps28
  go_wp2_with fail
  refine IM.out.mono ?_
  rintro e w1 ⟨rfl, hb⟩
  go_wp2_with fail
  go_ret
  exact ⟨rfl, on1 _ hb⟩
#print axioms formatM_spec
end Go.Proofs.YtboanggdehceaaaDoor
