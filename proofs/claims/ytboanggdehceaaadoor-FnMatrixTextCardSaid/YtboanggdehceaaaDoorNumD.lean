/- The program's FormatMatrix. No condition but those that each theorem names (the table of powers of ten reads as the program lays it). -/
import Derived.Test.YtboanggdehceaaaDoorNumB
import Derived.Test.YtboanggdehceaaaDoorNumC
import Derived.Test.YtboanggdehceaaaDoorShelf
namespace Go.Proofs.YtboanggdehceaaaDoor
open Go.RowKit

/-- The table of powers of ten reads as the library lays it. -/
abbrev Tab (w : World) : Prop := Lib.TabIs Tryd.prog w "internal/strconv.uint64pow10" .u64 Lib.pow10Tab
theorem Tab.keep {w w' : World} (h : Tab w) (hb : Below w.heap.size w w') : Tab w' := by
  unfold Tab Lib.TabIs World.var? at *
  cases hg : Tryd.prog.globalNamed "internal/strconv.uint64pow10" with
  | none => rw [hg] at h; simp at h
  | some g =>
    rw [hg] at h
    simp only [Option.bind_some] at h ⊢
    have hlt : g < w.heap.size := by
      rcases Nat.lt_or_ge g w.heap.size with h' | h'
      · exact h'
      · simp [Array.getElem?_eq_none h'] at h
    rw [hb.block g hlt]
    exact h
theorem grown_below (w : World) (k : Nat) (os : Array Obj) : Below w.heap.size w (Sort.grow (w.drewN k) os) := by
  refine ⟨rfl, rfl, rfl, ?_, fun k hk => ?_⟩
  · show w.heap.size ≤ (w.heap ++ os).size
    simp
  · show (w.heap ++ os)[k]? = w.heap[k]?
    rw [Array.getElem?_append_left hk]
theorem format_int (n : Int) (h0 : -9223372036854775808 ≤ n) (h1 : n ≤ 9223372036854775807) (w : World) (ht : Tab w) : Calls Tryd.prog 22 #[.int .i64 n, .int .i64 10] w (NumR w (Lib.itoa n)) := by
  refine (Tryd.strconv_FormatInt_10 n h0 h1 w ht).mono ?_
  rintro e w' ⟨rfl, k, os, rfl⟩
  exact ⟨rfl, grown_below w k os⟩
theorem builder_keep {B b : Nat} {p : Value} {bs : List Value} {w w' : World} (h : Lib.BuilderAt TB U8 B b p bs w) (hb : Below w.heap.size w w') : Lib.BuilderAt TB U8 B b p bs w' := by
  have lt := h.lt
  obtain ⟨hB, v, hbk, hown, hne⟩ := h
  have ho : v.ownBlock = none ∨ v.ownBlock ≠ some w.heap.size := by
    cases hv : v.ownBlock with
    | none => exact Or.inl rfl
    | some k =>
      have := (hown.lt k hv).2
      exact Or.inr (by simp; omega)
  exact ⟨hB, v, (hb.block b lt).trans hbk, hown.kept (row := some w.heap.size) ⟨hb.os, hb.tape, hb.output, hb.size, fun k hk _ => hb.block k hk⟩ ho, hne⟩
theorem isb_keep {B b : Nat} {bs : List Value} {w w' : World} (h : Lib.IsBuilder TB U8 B b bs w) (hb : Below w.heap.size w w') : Lib.IsBuilder TB U8 B b bs w' := h.elim (fun h => Or.inl (builder_keep h hb)) (fun h => Or.inr (builder_keep h hb))
/-- A text in a builder of the call's own. -/
def Txt (b : Nat) (l : List UInt8) (w : World) : Prop := Lib.IsBuilder TB U8 b b (Lib.byteCells l) w
theorem Txt.more {b : Nat} {l l2 : List UInt8} {w w' : World} (h : Wrote b b (Lib.byteCells l ++ Lib.strCells ⟨l2.toArray⟩) w w') : Txt b (l ++ l2) w' := by
  refine Or.inr ?_
  have := h.1
  rw [Lib.byteCells_append]
  exact this
theorem Txt.byte {b : Nat} {l : List UInt8} (x : UInt8) {w w' : World} (h : Wrote b b (Lib.byteCells l ++ [.int .u8 x.toNat]) w w') : Txt b (l ++ [x]) w' := by
  refine Or.inr ?_
  have := h.1
  rw [Lib.byteCells_append]
  exact this
theorem text_string {b : Nat} {l : List UInt8} {w : World} (l2 : List UInt8) (h : Txt b l w) (hl : l.length + l2.length ≤ 8388608) (hb : b ≤ w.heap.size) :
    Calls Tryd.prog 21 #[.pointer (some ⟨b, 0, none⟩), .string ⟨l2.toArray⟩] w fun e w' => (∃ v, e = .returned v) ∧ Txt b (l ++ l2) w' ∧ Below b w w' :=
  (write_string b b (Lib.byteCells l) ⟨l2.toArray⟩ w h (by rw [Lib.byteCells_length]; exact hl) hb).mono fun _ _ hh => ⟨hh.1, Txt.more hh.2, hh.2.2⟩
theorem text_byte {b : Nat} {l : List UInt8} {w : World} (x : UInt8) (z : Int) (hz : z = x.toNat) (h : Txt b l w) (hl : l.length + 1 ≤ 8388608) (hb : b ≤ w.heap.size) :
    Calls Tryd.prog 23 #[.pointer (some ⟨b, 0, none⟩), .int .u8 z] w fun e w' => e = .returned .nilIface ∧ Txt b (l ++ [x]) w' ∧ Below b w w' := by
  subst hz
  exact (write_byte b b (Lib.byteCells l) x.toNat w h (by rw [Lib.byteCells_length]; exact hl) hb).mono fun _ _ hh => ⟨hh.1, Txt.byte x hh.2, hh.2.2⟩
theorem wrote_cells (l : List UInt8) : Lib.strCells ⟨l.toArray⟩ = Lib.byteCells l := rfl

set_option maxRecDepth 100000 in
set_option maxHeartbeats 4000000 in
theorem formatM_impl (r q : Int) (A : Option Addr) (n c : Nat) (zs : List Int) (w : World) (h : Ints w w.heap.size A n zs) (hn : n ≤ 1048576) (hP : MOk r q zs) (ht : Tab w) :
    Calls Tryd.prog 7 #[.agg #[.int .i64 r, .int .i64 q, .slice A n c]] w (NumR w (blanked (sides r q) zs zs.length)) := by
  obtain ⟨r0, r1, q0, q1, hl, hz⟩ := id hP
  have hlen : zs.length ≤ 2304 := by
    have : r * q ≤ 48 * 48 := Int.mul_le_mul r1 q1 q0 (by omega)
    omega
  have BL := blanked_len (sides r q) zs hz
  have HZ := Lib.hid hz
  have HL := Lib.hid h.1
  have H := Lib.hid h
  have T := Lib.hid ht
  have IM := Lib.hid (isMi_yes r q A n c zs (w.alloc (Obj.cells #[.int .i64 r, .int .i64 q, .slice A n c] 26)) (h.into (al1 _ _)) hn hP)
  have K0 := Lib.hid (Box3.new w 26 (.int .i64 r) (.int .i64 q) (.slice A n c))
  have QR := Lib.hid (fun w => format_int r (by omega) (by omega) w)
  have QQ := Lib.hid (fun w => format_int q (by omega) (by omega) w)
  have lr := itoa_len r (by omega) (by omega)
  have lq := itoa_len q (by omega) (by omega)
  obtain ⟨a, ha⟩ : ∃ a, Lib.itoa r = a := ⟨_, rfl⟩
  obtain ⟨d, hd⟩ : ∃ d, Lib.itoa q = d := ⟨_, rfl⟩
  have HS := Lib.hid (show sides r q = a ++ 120 :: (d ++ [58]) by rw [sides, ha, hd])
  rw [ha] at QR lr
  rw [hd] at QQ lq
  clear hl hz h hP ha hd ht
  go_enter Tryd.func7, Tryd.ntmps7
  go_wp2_with fail
  refine IM.out.mono ?_
  rintro e w1 ⟨rfl, hb⟩
  have z1 : w.heap.size < w1.heap.size := by have := hb.size; simp at this; omega
  have K1 := Lib.hid (K0.out.below hb (by simp))
  have HB := Lib.hid (on1 _ hb)
  clear hb K0
  obtain ⟨k0, k1, k2⟩ := K1.out
  have F0 := Lib.hid (Lib.fresh_isBuilder TB U8 w1)
  have C0 := Lib.hid (al1 w1 (Obj.cells #[.pointer none, .slice none 0 0] TB))
  go_wp2_with fail
  refine (QR.out _ (T.out.keep (HB.out.trans (C0.out.mono HB.out.size)))).mono ?_
  rintro e w2 ⟨rfl, hb⟩
  have I2 := Lib.hid (show Txt w1.heap.size [] w2 from isb_keep F0.out hb)
  have C2 := Lib.hid (on1 _ hb)
  clear hb F0 C0
  obtain ⟨k0, k1, k2⟩ := K1.out.below C2.out z1
  go_wp2_with fail
  refine (text_string a I2.out (by simp; omega) C2.out.size).mono ?_
  rintro e w3 ⟨⟨v3, rfl⟩, I3, hb⟩
  replace I3 := Lib.hid I3
  have C3 := Lib.hid (C2.out.trans hb)
  clear hb I2 C2
  go_wp2_with fail
  refine (text_byte 120 _ rfl I3.out (by simp; omega) C3.out.size).mono ?_
  rintro e w4 ⟨rfl, I4, hb⟩
  replace I4 := Lib.hid I4
  have C4 := Lib.hid (C3.out.trans hb)
  clear hb I3 C3
  obtain ⟨k0, k1, k2⟩ := K1.out.below C4.out z1
  go_wp2_with fail
  refine (QQ.out _ (T.out.keep (HB.out.trans (C4.out.mono HB.out.size)))).mono ?_
  rintro e w5 ⟨rfl, hb⟩
  have I5 := Lib.hid (show Txt w1.heap.size ([] ++ a ++ [120]) w5 from isb_keep I4.out hb)
  have C5 := Lib.hid (C4.out.trans (hb.mono C4.out.size))
  clear hb I4 C4
  go_wp2_with fail
  refine (text_string d I5.out (by simp; omega) C5.out.size).mono ?_
  rintro e w6 ⟨⟨v6, rfl⟩, I6, hb⟩
  replace I6 := Lib.hid I6
  have C6 := Lib.hid (C5.out.trans hb)
  clear hb I5 C5
  go_wp2_with fail
  refine (text_byte 58 _ rfl I6.out (by simp; omega) C6.out.size).mono ?_
  rintro e w7 ⟨rfl, I7, hb⟩
  have I8 := Lib.hid (show Txt w1.heap.size (sides r q) w7 by rw [HS.out]; simpa using I7)
  have C7 := Lib.hid (C6.out.trans hb)
  clear hb I6 C6 I7
  have ls : (sides r q).length ≤ 44 := by rw [HS.out, List.length_append, List.length_cons, List.length_append]; simp only [List.length_cons, List.length_nil]; omega
  obtain ⟨s0, hs0⟩ : ∃ s0, sides r q = s0 := ⟨_, rfl⟩
  rw [hs0] at BL ls I8
  have HS0 := Lib.hid hs0
  have HB7 := Lib.hid (HB.out.trans (C7.out.mono HB.out.size))
  obtain ⟨k0, k1, k2⟩ := K1.out.below C7.out z1
  have BK := Lib.hid (show Box3 w7 w.heap.size (.int .i64 r) (.int .i64 q) (.slice A n c) from ⟨k0, k1, k2⟩)
  clear HS QR QQ hs0 IM
  go_wp2_with fail
  go_loopw [22, 5] (fun x _ wr => ∃ (k : Nat), k ≤ n ∧ x = .int .i64 k ∧ Txt w1.heap.size (blanked s0 zs k) wr ∧ Below w1.heap.size w1 wr) (fun x _ _ => n - (intOf x).toNat)
  case atStart => exact ⟨0, Nat.zero_le _, rfl, I8.out, C7.out⟩
  case round =>
    obtain ⟨k, hk, rfl, hI, hbel⟩ := hrel
    have lk := BL k (by have := HL.out; omega)
    obtain ⟨l, hl⟩ : ∃ l, blanked s0 zs k = l := ⟨_, rfl⟩
    rw [hl] at lk hI
    have HLL := Lib.hid hl
    have L := Lib.hid hbel
    have I := Lib.hid hI
    have nL := HL.out
    have l50 : l.length ≤ 60000 := by omega
    have HBr := Lib.hid (HB.out.trans (L.out.mono HB.out.size))
    clear hl hbel hI k0 k1 k2
    by_cases hlt : k < n
    · have t0 : (k : Int) < (n : Int) := by omega
      have t1 : (0 : Int) ≤ (k : Int) := by omega
      obtain ⟨b, off, z, rfl, hblt, hzk, cz⟩ := (H.out.below HBr.out).at_z hlt
      obtain ⟨z0, z2⟩ := HZ.out k (by omega)
      rw [hzk] at z0 z2
      have Q := Lib.hid (show blanked s0 zs (k + 1) = l ++ 32 :: Lib.itoa z by rw [blanked, HLL.out, hzk])
      have lz := itoa_len z (by omega) (by omega)
      have N := Lib.hid (fun w => format_int z (by omega) (by omega) w)
      obtain ⟨t, ht⟩ : ∃ t, Lib.itoa z = t := ⟨_, rfl⟩
      rw [ht] at Q N lz
      clear ht hzk nL
      go_wp2_with fail
      refine (text_byte 32 _ rfl I.out (by omega) L.out.size).mono ?_
      rintro e wa ⟨rfl, Ia, hb⟩
      replace Ia := Lib.hid Ia
      have La := Lib.hid (L.out.trans hb)
      clear hb
      go_wp2_with fail
      refine (N.out _ (T.out.keep (HB.out.trans (La.out.mono HB.out.size)))).mono ?_
      rintro e wb ⟨rfl, hb⟩
      have Ib := Lib.hid (show Txt w1.heap.size (l ++ [32]) wb from isb_keep Ia.out hb)
      have Lb := Lib.hid (La.out.trans (hb.mono La.out.size))
      clear hb
      go_wp2_with fail
      refine (text_string t Ib.out (by simp; omega) Lb.out.size).mono ?_
      rintro e wc ⟨⟨vc, rfl⟩, Ic, hb⟩
      replace Ic := Lib.hid (show Txt w1.heap.size (blanked s0 zs (k + 1)) wc by rw [Q.out]; simpa using Ic)
      have Lc := Lib.hid (Lb.out.trans hb)
      clear hb
      go_wp2_with fail
      go_roundw
      case rel => exact ⟨k + 1, by omega, by go_num, Ic.out, Lc.out⟩
      case measure => simp [intOf]; omega
    · have t0 : ¬ (k : Int) < (n : Int) := by omega
      obtain rfl : k = n := by omega
      clear hlt
      go_wp2_with fail
      refine (Tryd.Builder_String_any _ _ l _ I.out L.out.size).mono ?_
      rintro e we ⟨rfl, hb⟩
      go_wp2_with fail
      go_ret
      refine ⟨?_, HB.out.trans ((L.out.trans hb).mono HB.out.size)⟩
      rw [HS0.out, HL.out, HLL.out]
      rfl

set_option maxRecDepth 100000 in
theorem formatM_impl_no (r q : Int) (A : Option Addr) (n c : Nat) (zs : List Int) (w : World) (h : Ints w w.heap.size A n zs) (hn : n ≤ 1048576) (hP : ¬ MOk r q zs) :
    Calls Tryd.prog 7 #[.agg #[.int .i64 r, .int .i64 q, .slice A n c]] w (NumR w []) := by
  have IM := Lib.hid (isMi_no r q A n c zs (w.alloc (Obj.cells #[.int .i64 r, .int .i64 q, .slice A n c] 26)) (h.into (al1 _ _)) hn hP)
  clear h hP
  go_enter Tryd.func7, Tryd.ntmps7
  go_wp2_with fail
  refine IM.out.mono ?_
  rintro e w1 ⟨rfl, hb⟩
  go_wp2_with fail
  go_ret
  exact ⟨rfl, on1 _ hb⟩
#print axioms formatM_impl
end Go.Proofs.YtboanggdehceaaaDoor
