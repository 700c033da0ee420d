/- The law FnMatrixText returns true for every code that is passed in and changes no memory that was there. The table of powers of ten reads as the program lays it. -/
import Derived.Test.YtboanggdehceaaaDoorDrmD
import Derived.Test.YtboanggdehceaaaDoorNumD
namespace Go.Proofs.YtboanggdehceaaaDoor
open Go.RowKit

/-- What the law's second half returns, and the memory behind it. -/
def EndT (w : World) (e : Ending) (w' : World) : Prop := e = .returned (.bool true) ∧ Below w.heap.size w w'
set_option maxRecDepth 100000 in
set_option maxHeartbeats 16000000 in
theorem matrixText_law (A : Option Addr) (n c : Nat) (bs : List Int) (w : World) (h : Bys w w.heap.size A n bs) (ht : Tab w) :
    Calls Tryd.prog 3 #[.slice A n c] w (EndT w) := by
  by_cases hn : n ≤ 4096
  case neg =>
    go_enter Tryd.func3, Tryd.ntmps3
    go_wp2_with fail
    refine (big_yes A n c _ hn).mono ?_
    rintro e w1 ⟨rfl, rfl⟩
    go_wp2
    go_ret
    exact ⟨rfl, Below.refl _ _⟩
  have H0 := Lib.hid h
  have T0 := Lib.hid ht
  clear h ht
  go_enter Tryd.func3, Tryd.ntmps3
  go_wp2_with fail
  refine (big_no A n c _ hn).mono ?_
  rintro e w1 ⟨rfl, rfl⟩
  go_wp2_with fail
  refine (drawF_spec A n c bs _ H0.out (by omega)).mono ?_
  rintro e w1 ⟨r, q, R, t, zs, hP, rfl, hown, hb⟩
  have zl : zs.length ≤ 100 := hP.1
  have D1 := Lib.hid (hb.alloc hb.size (Obj.cells #[.int .i64 r, .int .i64 q, .slice R zs.length t] 26))
  have O1 := Lib.hid ((hown.al (Nat.le_refl _) (al1 w1 (Obj.cells #[.int .i64 r, .int .i64 q, .slice R zs.length t] 26))))
  have K1 := Lib.hid (Box3.new w1 26 (.int .i64 r) (.int .i64 q) (.slice R zs.length t))
  have s1 : w1.heap.size < (w1.alloc (Obj.cells #[.int .i64 r, .int .i64 q, .slice R zs.length t] 26)).heap.size := by simp
  have s1' : w.heap.size ≤ w1.heap.size := hb.size
  have T1 := Lib.hid (T0.out.keep D1.out)
  obtain ⟨pb, hpb⟩ : ∃ pb, w1.heap.size = pb := ⟨_, rfl⟩
  rw [hpb] at O1 K1 s1 s1'
  clear hown hb hP
  by_cases hM : MOk r q zs
  · have TE : (mText r q zs).isEmpty = false := mText_ne
    have TL := mText_len hM zl
    have PT := Lib.hid (show PO (mText r q zs) r q zs 0 from .inl ⟨mText_txt hM, hM, rfl⟩)
    have HM := Lib.hid hM
    have FM := Lib.hid (fun w h ht => (show Calls Tryd.prog 7 _ w (NumR w (mText r q zs)) from formatM_impl r q R zs.length t zs w h (by omega) HM.out ht))
    obtain ⟨l, hl⟩ : ∃ l, mText r q zs = l := ⟨_, rfl⟩
    rw [hl] at TE TL FM PT
    have TE2 : (!l.isEmpty) = true := by rw [TE]; rfl
    clear hM hl
    obtain ⟨k0, k1, k2⟩ := K1.out
    go_wp2_with fail
    (try rw [hpb])
    refine (FM.out _ (O1.out.ints.more (by omega)) T1.out).mono ?_
    rintro e w2 ⟨rfl, hb⟩
    clear k0 k1 k2
    have s2 : pb < w2.heap.size := by have := hb.size; omega
    have D2 := Lib.hid (D1.out.trans (hb.mono D1.out.size))
    have O2 := Lib.hid (O1.out.below hb (by omega))
    have K2 := Lib.hid (K1.out.below hb s1)
    have T2 := Lib.hid (T1.out.keep hb)
    clear hb O1 K1 T1 D1 s1
    obtain ⟨k0, k1, k2⟩ := K2.out
    go_wp2_with fail
    refine (isMs_yes r q R zs.length t zs _ (O2.out.ints.more (by omega)) (by omega) HM.out).mono ?_
    rintro e w3 ⟨rfl, hb⟩
    clear k0 k1 k2
    have s3 : pb < w3.heap.size := by have := hb.size; omega
    have D3 := Lib.hid (D2.out.trans (hb.mono D2.out.size))
    have O3 := Lib.hid (O2.out.below hb (by omega))
    have K3 := Lib.hid (K2.out.below hb s2)
    have T3 := Lib.hid (T2.out.keep hb)
    clear hb O2 K2 T2 D2 s2
    go_wp2_with fail
    refine (parse_impl l _ (by omega)).mono ?_
    rintro e w4 hres
    obtain ⟨R4, t4, rfl, hown, hb⟩ := hres.fix PT.out
    have s4 : pb < w4.heap.size := by have := hb.size; omega
    have D4 := Lib.hid ((D3.out.trans (hb.mono D3.out.size)).alloc (by omega) (Obj.cells #[.int .i64 r, .int .i64 q, .slice R4 zs.length t4] 26))
    have O4 := Lib.hid ((O3.out.below hb (by omega)).al (by omega) (al1 w4 (Obj.cells #[.int .i64 r, .int .i64 q, .slice R4 zs.length t4] 26)))
    have P4 := Lib.hid (hown.al (Nat.le_refl _) (al1 w4 (Obj.cells #[.int .i64 r, .int .i64 q, .slice R4 zs.length t4] 26)))
    have K4 := Lib.hid ((K3.out.below hb s3).below (al1 w4 (Obj.cells #[.int .i64 r, .int .i64 q, .slice R4 zs.length t4] 26)) s4)
    have L4 := Lib.hid (Box3.new w4 26 (.int .i64 r) (.int .i64 q) (.slice R4 zs.length t4))
    have T4 := Lib.hid ((T3.out.keep hb).keep (al1 w4 (Obj.cells #[.int .i64 r, .int .i64 q, .slice R4 zs.length t4] 26)))
    have z4 : w4.heap.size < (w4.alloc (Obj.cells #[.int .i64 r, .int .i64 q, .slice R4 zs.length t4] 26)).heap.size := by simp
    clear hb hown hres O3 K3 T3 D3 s3
    obtain ⟨k0, k1, k2⟩ := K4.out
    obtain ⟨l0, l1, l2⟩ := L4.out
    go_wp2_with fail
    refine (likeM_any r q R4 R zs.length t4 t zs w4.heap.size pb _ P4.out.ints O4.out.ints (by omega) (by omega) (by omega)).mono ?_
    rintro e w5 ⟨rfl, hb⟩
    clear k0 k1 k2 l0 l1 l2
    have D5 := Lib.hid (D4.out.trans (hb.mono D4.out.size))
    have T5 := Lib.hid (T4.out.keep hb)
    have H5 := Lib.hid (H0.out.into D5.out)
    clear hb O4 P4 K4 L4 T4 D4 s4 z4
    go_wp2_with fail
    refine (other_any A n c bs _ H5.out (by omega)).mono ?_
    rintro e w6 ⟨A6, c6, bs6, rfl, h6, hb⟩
    have D6 := Lib.hid (D5.out.trans (hb.mono D5.out.size))
    have T6 := Lib.hid (T5.out.keep hb)
    have H6 := Lib.hid h6
    clear hb h6 D5 T5 H5
    go_wp2_with fail
    refine (drawP_spec A6 (3 + n) c6 bs6 _ H6.out (by omega)).mono ?_
    rintro e w7 ⟨l7, hl7, rfl, hb⟩
    have D7 := Lib.hid (D6.out.trans (hb.mono D6.out.size))
    have T7 := Lib.hid (T6.out.keep hb)
    clear hb D6 T6 H6
    go_wp2_with fail
    refine (parse_impl l7 _ (by omega)).mono ?_
    rintro e w8 ⟨r8, q8, z8, x8, hpo, R8, t8, rfl, hown, hb⟩
    have D8 := Lib.hid ((D7.out.trans (hb.mono D7.out.size)).alloc (by have := hb.size; have := D7.out.size; omega) (Obj.cells #[.int .i64 r8, .int .i64 q8, .slice R8 z8.length t8] 26))
    have T8 := Lib.hid ((T7.out.keep hb).keep (al1 w8 (Obj.cells #[.int .i64 r8, .int .i64 q8, .slice R8 z8.length t8] 26)))
    have O8 := Lib.hid (hown.al (Nat.le_refl _) (al1 w8 (Obj.cells #[.int .i64 r8, .int .i64 q8, .slice R8 z8.length t8] 26)))
    have K8 := Lib.hid (Box3.new w8 26 (.int .i64 r8) (.int .i64 q8) (.slice R8 z8.length t8))
    have z8l := hpo.len
    clear hb hown D7 T7
    obtain ⟨k0, k1, k2⟩ := K8.out
    rcases hpo with ⟨hx, hM8, rfl⟩ | ⟨-, rfl, rfl, rfl, rfl⟩ | ⟨-, rfl, rfl, rfl, rfl⟩
    · have HM8 := Lib.hid hM8
      have E8 := Lib.hid (txt_mText hx)
      have FM8 := Lib.hid (fun w h ht => (show Calls Tryd.prog 7 _ w (NumR w (mText r8 q8 z8)) from formatM_impl r8 q8 R8 z8.length t8 z8 w h (by omega) HM8.out ht))
      rw [← E8.out] at FM8
      clear hx hM8
      go_wp2_with fail
      refine (FM8.out _ (O8.out.ints.more (by simp)) T8.out).mono ?_
      rintro e w9 ⟨rfl, hb⟩
      have D9 := Lib.hid (D8.out.trans (hb.mono D8.out.size))
      clear hb
      go_wp2
      go_ret
      exact ⟨rfl, D9.out⟩
    · go_wp2
      go_ret
      exact ⟨rfl, D8.out⟩
    · go_wp2
      go_ret
      exact ⟨rfl, D8.out⟩

  · have HM := Lib.hid hM
    have FM := Lib.hid (fun w h => formatM_impl_no r q R zs.length t zs w h (by omega) HM.out)
    clear hM
    obtain ⟨k0, k1, k2⟩ := K1.out
    go_wp2_with fail
    (try rw [hpb])
    refine (FM.out _ (O1.out.ints.more (by omega))).mono ?_
    rintro e w2 ⟨rfl, hb⟩
    clear k0 k1 k2
    have s2 : pb < w2.heap.size := by have := hb.size; omega
    have D2 := Lib.hid (D1.out.trans (hb.mono D1.out.size))
    have O2 := Lib.hid (O1.out.below hb (by omega))
    have K2 := Lib.hid (K1.out.below hb s1)
    have T2 := Lib.hid (T1.out.keep hb)
    clear hb O1 K1 T1 D1 s1
    obtain ⟨k0, k1, k2⟩ := K2.out
    go_wp2_with fail
    refine (isMs_no r q R zs.length t zs _ (O2.out.ints.more (by omega)) (by omega) HM.out).mono ?_
    rintro e w3 ⟨rfl, hb⟩
    clear k0 k1 k2
    have D3 := Lib.hid (D2.out.trans (hb.mono D2.out.size))
    have T3 := Lib.hid (T2.out.keep hb)
    have H3 := Lib.hid (H0.out.into D3.out)
    clear hb O2 K2 T2 D2 s2
    go_wp2_with fail
    refine (other_any A n c bs _ H3.out (by omega)).mono ?_
    rintro e w6 ⟨A6, c6, bs6, rfl, h6, hb⟩
    have D6 := Lib.hid (D3.out.trans (hb.mono D3.out.size))
    have T6 := Lib.hid (T3.out.keep hb)
    have H6 := Lib.hid h6
    clear hb h6 D3 T3 H3
    go_wp2_with fail
    refine (drawP_spec A6 (3 + n) c6 bs6 _ H6.out (by omega)).mono ?_
    rintro e w7 ⟨l7, hl7, rfl, hb⟩
    have D7 := Lib.hid (D6.out.trans (hb.mono D6.out.size))
    have T7 := Lib.hid (T6.out.keep hb)
    clear hb D6 T6 H6
    go_wp2_with fail
    refine (parse_impl l7 _ (by omega)).mono ?_
    rintro e w8 ⟨r8, q8, z8, x8, hpo, R8, t8, rfl, hown, hb⟩
    have D8 := Lib.hid ((D7.out.trans (hb.mono D7.out.size)).alloc (by have := hb.size; have := D7.out.size; omega) (Obj.cells #[.int .i64 r8, .int .i64 q8, .slice R8 z8.length t8] 26))
    have T8 := Lib.hid ((T7.out.keep hb).keep (al1 w8 (Obj.cells #[.int .i64 r8, .int .i64 q8, .slice R8 z8.length t8] 26)))
    have O8 := Lib.hid (hown.al (Nat.le_refl _) (al1 w8 (Obj.cells #[.int .i64 r8, .int .i64 q8, .slice R8 z8.length t8] 26)))
    have K8 := Lib.hid (Box3.new w8 26 (.int .i64 r8) (.int .i64 q8) (.slice R8 z8.length t8))
    have z8l := hpo.len
    clear hb hown D7 T7
    obtain ⟨k0, k1, k2⟩ := K8.out
    rcases hpo with ⟨hx, hM8, rfl⟩ | ⟨-, rfl, rfl, rfl, rfl⟩ | ⟨-, rfl, rfl, rfl, rfl⟩
    · have HM8 := Lib.hid hM8
      have E8 := Lib.hid (txt_mText hx)
      have FM8 := Lib.hid (fun w h ht => (show Calls Tryd.prog 7 _ w (NumR w (mText r8 q8 z8)) from formatM_impl r8 q8 R8 z8.length t8 z8 w h (by omega) HM8.out ht))
      rw [← E8.out] at FM8
      clear hx hM8
      go_wp2_with fail
      refine (FM8.out _ (O8.out.ints.more (by simp)) T8.out).mono ?_
      rintro e w9 ⟨rfl, hb⟩
      have D9 := Lib.hid (D8.out.trans (hb.mono D8.out.size))
      clear hb
      go_wp2
      go_ret
      exact ⟨rfl, D9.out⟩
    · go_wp2
      go_ret
      exact ⟨rfl, D8.out⟩
    · go_wp2
      go_ret
      exact ⟨rfl, D8.out⟩

end Go.Proofs.YtboanggdehceaaaDoor
