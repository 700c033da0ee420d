/- The program's FormatLaurent. No condition but those that each theorem names (the table of powers of ten reads as the program lays it). -/
import Derived.Test.YtopbfjhgpgjnnaaDoorNumF
import Derived.Test.YtopbfjhgpgjnnaaDoorNumD
namespace Go.Proofs.YtopbfjhgpgjnnaaDoor
open Go.RowKit

set_option maxRecDepth 100000 in
set_option maxHeartbeats 4000000 in
theorem term_impl (x e : Int) (w : World) (h0 : -1000000000000 ≤ x ∧ x ≤ 1000000000000) (h1 : -1000 ≤ e ∧ e ≤ 1000) (ht : Tab w) : Calls Tryd.prog 15 #[.int .i64 x, .int .i64 e] w (NumR w (termText x e)) := by
  have T := Lib.hid ht
  have lx := itoa_len x (by omega) (by omega)
  have le := itoa_len e (by omega) (by omega)
  have QX := Lib.hid (fun w => format_int x (by omega) (by omega) w)
  have QE := Lib.hid (fun w => format_int e (by omega) (by omega) w)
  have Q := Lib.hid (show termText x e = (if 0 < x then 43 :: Lib.itoa x else Lib.itoa x) ++ (if e = 0 then [] else 116 :: 94 :: Lib.itoa e) from rfl)
  obtain ⟨tx, htx⟩ : ∃ tx, termText x e = tx := ⟨_, rfl⟩
  rw [htx] at Q
  rw [htx]
  obtain ⟨t, ht'⟩ : ∃ t, Lib.itoa x = t := ⟨_, rfl⟩
  obtain ⟨u, hu⟩ : ∃ u, Lib.itoa e = u := ⟨_, rfl⟩
  rw [ht'] at QX Q lx
  rw [hu] at QE Q le
  clear ht ht' hu htx h0 h1
  have A0 := fun w => add_run w [43] t (by simp) (by omega)
  have A1 := fun w => add_run w [116, 94] u (by simp) (by omega)
  have A2 := fun w => add_run w (43 :: t) (116 :: 94 :: u) (by simp; omega) (by simp; omega)
  have A3 := fun w => add_run w t (116 :: 94 :: u) (by omega) (by simp; omega)
  by_cases hp : 0 < x
  · have u2 : decide (0 < x) = true := by simpa using hp
    rw [if_pos hp] at Q
    by_cases he : e = 0
    · have u3 : (e != 0) = false := by simpa using he
      rw [if_pos he] at Q
      clear he A1 A2 A3 QE
      go_enter Tryd.func15, Tryd.ntmps15
      go_wp2_with fail
      refine (QX.out _ T.out).mono ?_
      rintro e1 w1 ⟨rfl, hb⟩
      go_wp2_with fail
      go_ret
      exact ⟨by rw [Q.out]; simp, hb⟩
    · have u3 : (e != 0) = true := by simpa using he
      rw [if_neg he] at Q
      clear he A3
      go_enter Tryd.func15, Tryd.ntmps15
      go_wp2_with fail
      refine (QX.out _ T.out).mono ?_
      rintro e1 w1 ⟨rfl, hb⟩
      have HB := Lib.hid hb
      clear hb
      go_wp2_with fail
      refine (QE.out _ (T.out.keep HB.out)).mono ?_
      rintro e1 w2 ⟨rfl, hb⟩
      go_wp2_with fail
      go_ret
      exact ⟨by rw [Q.out]; simp, HB.out.trans (hb.mono HB.out.size)⟩
  · have u2 : decide (0 < x) = false := by simpa using hp
    rw [if_neg hp] at Q
    by_cases he : e = 0
    · have u3 : (e != 0) = false := by simpa using he
      rw [if_pos he] at Q
      clear he A1 A2 A3 QE
      go_enter Tryd.func15, Tryd.ntmps15
      go_wp2_with fail
      refine (QX.out _ T.out).mono ?_
      rintro e1 w1 ⟨rfl, hb⟩
      go_wp2_with fail
      go_ret
      exact ⟨by rw [Q.out]; simp, hb⟩
    · have u3 : (e != 0) = true := by simpa using he
      rw [if_neg he] at Q
      clear he A2
      go_enter Tryd.func15, Tryd.ntmps15
      go_wp2_with fail
      refine (QX.out _ T.out).mono ?_
      rintro e1 w1 ⟨rfl, hb⟩
      have HB := Lib.hid hb
      clear hb
      go_wp2_with fail
      refine (QE.out _ (T.out.keep HB.out)).mono ?_
      rintro e1 w2 ⟨rfl, hb⟩
      go_wp2_with fail
      go_ret
      exact ⟨by rw [Q.out]; simp, HB.out.trans (hb.mono HB.out.size)⟩

set_option maxRecDepth 100000 in
theorem formatL_impl_no (r : Int) (A : Option Addr) (n c : Nat) (zs : List Int) (w : World) (h : Ints w w.heap.size A n zs) (hn : n ≤ 1048576) (hP : ¬ Lau.LOk r zs) :
    Calls Tryd.prog 7 #[.agg #[.int .i64 r, .slice A n c]] w (NumR w []) := by
  have IM := Lib.hid (isLi_no r A n c zs (w.alloc (Obj.cells #[.int .i64 r, .slice A n c] 27)) (h.into (al1 _ _)) hn hP)
  clear h hP
  go_enter Tryd.func7, Tryd.ntmps7
  go_wp2_with fail
  refine IM.out.mono ?_
  rintro e w1 ⟨rfl, hb⟩
  go_wp2_with fail
  go_ret
  exact ⟨rfl, on1 _ hb⟩

set_option maxRecDepth 100000 in
set_option maxHeartbeats 4000000 in
theorem formatL_impl_nil (r : Int) (A : Option Addr) (c : Nat) (w : World) (hP : Lau.LOk r []) :
    Calls Tryd.prog 7 #[.agg #[.int .i64 r, .slice A 0 c]] w (NumR w (lauOut r [])) := by
  have IM := Lib.hid (isLi_yes r A 0 c [] (w.alloc (Obj.cells #[.int .i64 r, .slice A 0 c] 27)) ⟨rfl, fun h => absurd h (by omega)⟩ (by omega) hP)
  have K0 := Lib.hid (BoxG.new w 27 (.int .i64 r) (.slice A 0 c))
  clear hP
  go_enter Tryd.func7, Tryd.ntmps7
  go_wp2_with fail
  refine IM.out.mono ?_
  rintro e w1 ⟨rfl, hb⟩
  obtain ⟨k0, k1⟩ := K0.out.below hb (by simp)
  go_wp2_with fail
  go_ret
  exact ⟨rfl, on1 _ hb⟩

set_option maxRecDepth 100000 in
set_option maxHeartbeats 8000000 in
theorem formatL_impl (r : Int) (A : Option Addr) (n c : Nat) (zs : List Int) (w : World) (h : Ints w w.heap.size A n zs) (hn : n ≤ 1048576) (hn0 : 0 < n) (hP : Lau.LOk r zs) (ht : Tab w) :
    Calls Tryd.prog 7 #[.agg #[.int .i64 r, .slice A n c]] w (NumR w (lauOut r zs)) := by
  have IM := Lib.hid (isLi_yes r A n c zs (w.alloc (Obj.cells #[.int .i64 r, .slice A n c] 27)) (h.into (al1 _ _)) hn hP)
  have K0 := Lib.hid (BoxG.new w 27 (.int .i64 r) (.slice A n c))
  have n160 : n ≤ 160 := by have := hP.len; have := h.1; omega
  have hlow := hP.low
  have HL := Lib.hid h.1
  have H := Lib.hid h
  have T := Lib.hid ht
  have HZ := Lib.hid hP.ent'
  have BL := Lib.hid (fun k hk => lauText_len r zs hP.ent' (by omega) k hk)
  have OUT := Lib.hid (show lauOut r zs = lauText r zs n from by
    rw [lauOut, if_neg (fun e => by have := h.1; rw [e] at this; simp at this; omega), h.1])
  have e0 : ((n : Int) == 0) = false := by simp; omega
  clear h hP ht
  go_enter Tryd.func7, Tryd.ntmps7
  go_wp2_with fail
  refine IM.out.mono ?_
  rintro e w1 ⟨rfl, hb⟩
  have z1 : w.heap.size < w1.heap.size := by have := hb.size; simp at this; omega
  have K1 := Lib.hid (K0.out.below hb (by simp))
  have HB := Lib.hid (on1 _ hb)
  clear hb K0 IM
  obtain ⟨k0, k1⟩ := K1.out
  have F0 := Lib.hid (Lib.fresh_isBuilder TB U8 w1)
  have C0 := Lib.hid (al1 w1 (Obj.cells #[.pointer none, .slice none 0 0] TB))
  have I0 := Lib.hid (show Txt w1.heap.size (lauText r zs 0) (w1.alloc (Obj.cells #[.pointer none, .slice none 0 0] TB)) from F0.out)
  go_wp2_with fail
  go_loopw [16] (fun x wr => ∃ (k : Nat), k ≤ n ∧ x = .int .i64 k ∧ Txt w1.heap.size (lauText r zs k) wr ∧ Below w1.heap.size w1 wr) (fun x _ => n - (intOf x).toNat)
  case atStart => exact ⟨0, Nat.zero_le _, rfl, I0.out, C0.out⟩
  case round =>
    obtain ⟨k, hk, rfl, hI, hbel⟩ := hrel
    have lk := BL.out k (by omega)
    obtain ⟨l, hl⟩ : ∃ l, lauText r zs k = l := ⟨_, rfl⟩
    rw [hl] at lk hI
    have HLL := Lib.hid hl
    have L := Lib.hid hbel
    have I := Lib.hid hI
    have HBr := Lib.hid (HB.out.trans (L.out.mono HB.out.size))
    have zr : w1.heap.size ≤ wr.heap.size := hbel.size
    clear hl hbel hI k0 k1
    obtain ⟨k0, k1⟩ := K1.out.below L.out z1
    by_cases hlt : k < n
    · have t0 : (k : Int) < (n : Int) := by omega
      have t1 : (0 : Int) ≤ (k : Int) := by omega
      obtain ⟨b, off, z, rfl, hblt, hzk, cz⟩ := (H.out.below HBr.out).at_z hlt
      obtain ⟨z0, z2⟩ := HZ.out k
      rw [hzk] at z0 z2
      have we : IntKind.i64.wrap (r + (k : Int)) = r + (k : Int) := IntWalk.i64_in _ (by omega)
      by_cases hz0 : z = 0
      · have Q := Lib.hid (show lauText r zs (k + 1) = l by rw [lauText, hzk, if_pos hz0, HLL.out])
        have u1 : (z != 0) = false := by simpa using hz0
        clear hzk hz0
        go_wp2_with fail
        go_roundw
        case rel => exact ⟨k + 1, by omega, by go_num, by rw [Q.out]; exact I.out, L.out⟩
        case measure => simp [intOf]; omega
      · have Q := Lib.hid (show lauText r zs (k + 1) = l ++ termText z (r + k) by rw [lauText, hzk, if_neg hz0, HLL.out])
        have u1 : (z != 0) = true := by simpa using hz0
        have TT := Lib.hid (fun W => term_impl z (r + (k : Int)) W ⟨z0, z2⟩ (by omega))
        have lt := termText_len z (r + (k : Int)) ⟨z0, z2⟩ (by omega)
        obtain ⟨t, ht⟩ : ∃ t, termText z (r + (k : Int)) = t := ⟨_, rfl⟩
        rw [ht] at Q TT lt
        clear hzk hz0 ht
        go_wp2_with fail
        refine (TT.out _ (T.out.keep HBr.out)).mono ?_
        rintro e wb ⟨rfl, hb⟩
        have Ib := Lib.hid (show Txt w1.heap.size l wb from isb_keep I.out hb)
        have Lb := Lib.hid (L.out.trans (hb.mono L.out.size))
        clear hb
        go_wp2_with fail
        refine (text_string t Ib.out (by omega) Lb.out.size).mono ?_
        rintro e wc ⟨⟨vc, rfl⟩, Ic, hb⟩
        replace Ic := Lib.hid (show Txt w1.heap.size (lauText r zs (k + 1)) wc by rw [Q.out]; exact Ic)
        have Lc := Lib.hid (Lb.out.trans hb)
        clear hb
        go_wp2_with fail
        go_roundw
        case rel => exact ⟨k + 1, by omega, by go_num, Ic.out, Lc.out⟩
        case measure => simp [intOf]; omega
    · have t0 : ¬ (k : Int) < (n : Int) := by omega
      obtain rfl : n = k := by omega
      clear hlt
      go_wp2_with fail
      refine (Tryd.Builder_String_any _ _ l _ I.out L.out.size).mono ?_
      rintro e we ⟨rfl, hb⟩
      go_wp2_with fail
      go_ret
      refine ⟨?_, HB.out.trans ((L.out.trans hb).mono HB.out.size)⟩
      rw [OUT.out, HLL.out]
      rfl
end Go.Proofs.YtopbfjhgpgjnnaaDoor
