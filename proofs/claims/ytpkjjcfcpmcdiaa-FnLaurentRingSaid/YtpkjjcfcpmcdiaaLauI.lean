/- Contracts of the functions that replace t by its inverse, the program's and the specification's. No condition but those that each theorem names. -/
import Derived.Test.YtpkjjcfcpmcdiaaLauT
import Derived.Test.YtpkjjcfcpmcdiaaLauR
import Derived.Test.YtpkjjcfcpmcdiaaLauS
import Derived.Deep.RegionLaw
namespace Go.Proofs.Ytpkjjcfcpmcdiaa
open Go.RowKit

/-- The lowest exponent of the inverted polynomial. -/
def invLow (r : Int) (n : Nat) : Int := if n = 0 then 0 else 1 - r - n
theorem inv_ok {r : Int} {zs : List Int} (h : Lau.LOk r zs) : Lau.LOk (invLow r zs.length) zs.reverse := by
  rcases h with ⟨rfl, rfl⟩ | ⟨hn, h1, h2, h3, h4, h5, h6⟩
  · exact .inl ⟨rfl, rfl⟩
  · have hp : 0 < zs.length := List.length_pos_iff.2 hn
    have hr : ∀ i, i < zs.length → zs.reverse.getD i 0 = zs.getD (zs.length - 1 - i) 0 := fun i hi => by
      simp [List.getElem?_reverse hi]
    refine .inr ⟨by simpa using hn, by simpa using h1, by rw [hr 0 hp]; exact h3, by rw [List.length_reverse, hr _ (by omega), show zs.length - 1 - (zs.length - 1) = 0 by omega]; exact h2, ?_, ?_, fun i hi => ?_⟩
    · unfold invLow; rw [if_neg (by omega)]; omega
    · unfold invLow; rw [if_neg (by omega), List.length_reverse]; omega
    · rw [List.length_reverse] at hi
      rw [hr i hi]
      exact h6 _ (by omega)
theorem inv_low (r : Int) (n : Nat) : Lau.lowOf (1 - r - n) 0 n = invLow r n := by
  unfold Lau.lowOf invLow
  by_cases h : n = 0
  · rw [if_pos h, if_pos h.symm]
  · rw [if_neg h, if_neg (by omega)]; omega

section
variable (r : Int) (A : Option Addr) (n c : Nat) (zs : List Int) (w : World) (h : Ints w w.heap.size A n zs) (hn : n ≤ 1048576)
include h hn

set_option maxHeartbeats 2000000 in
theorem inv_impl_no (hP : ¬ Lau.LOk r zs) : Calls Try.prog 12 #[.agg #[.int .i64 r, .slice A n c]] w (ResL1 w 0 []) := by
  have HL := Lib.hid (isLi_no r A n c zs _ (h.into (al2 w (Obj.cells #[.int .i64 r, .slice A n c] 26) (Obj.cells #[.int .i64 0, .slice none 0 0] 26))) hn hP)
  have K0 := Lib.hid (BoxG.new (w.alloc (Obj.cells #[.int .i64 r, .slice A n c] 26)) 26 (.int .i64 0) (.slice none 0 0))
  have F0 := Lib.hid (Free.new (w.alloc (Obj.cells #[.int .i64 r, .slice A n c] 26)) 26 #[.int .i64 0, .slice none 0 0])
  simp only [World.size_alloc] at K0 F0
  clear h hP
  go_enter Try.func12, Try.ntmps12
  go_wp2_with fail
  refine HL.out.mono ?_
  rintro e1 w1 ⟨rfl, hb⟩
  obtain ⟨n0, n1⟩ := K0.out.below hb (by simp)
  have f0 := F0.out.below hb (by simp)
  unfold Free at f0
  have HB := Lib.hid (on2 _ _ hb)
  clear hb
  go_wp2
  refine bodyPost_ret (v := .agg #[.int .i64 0, .slice none 0 0]) (by simp [results, Try.results12, n0, n1, go_sem]) rfl ?_
  exact ⟨none, 0, rfl, Mine.none_ _ _ _ _, (HB.out.setCell (by simp) _).setCell (by simp) _⟩
set_option maxHeartbeats 4000000 in
theorem invert_impl_yes (hP : Lau.LOk r zs) : Calls Try.prog 12 #[.agg #[.int .i64 r, .slice A n c]] w (ResL1 w (invLow r n) zs.reverse) := by
  have HL := Lib.hid (isLi_yes r A n c zs _ (h.into (al2 w (Obj.cells #[.int .i64 r, .slice A n c] 26) (Obj.cells #[.int .i64 0, .slice none 0 0] 26))) hn hP)
  have K0 := Lib.hid (BoxG.new (w.alloc (Obj.cells #[.int .i64 r, .slice A n c] 26)) 26 (.int .i64 0) (.slice none 0 0))
  have F0 := Lib.hid (Free.new (w.alloc (Obj.cells #[.int .i64 r, .slice A n c] 26)) 26 #[.int .i64 0, .slice none 0 0])
  have X0 := Lib.hid ((BoxG.new w 26 (.int .i64 r) (.slice A n c)).below (al1 _ (Obj.cells #[.int .i64 0, .slice none 0 0] 26)) (by simp))
  simp only [World.size_alloc] at K0 F0
  have HP := Lib.hid hP
  have hlow := hP.low
  have H := Lib.hid h
  have hl := Lib.hid h.1
  have n160 : n ≤ 160 := by have := hP.len; have := hl.out; omega
  clear h hP
  have OUT := Lib.hid (show LOut (Lau.lowOf (1 - r - (n : Int)) 0 zs.reverse.length) (Lau.cut zs.reverse 0 zs.reverse.length) (invLow r n) zs.reverse 0 from by
    rw [Lau.cut_all, List.length_reverse, hl.out, inv_low]
    have := inv_ok HP.out
    rw [hl.out] at this
    exact .inl ⟨this, rfl, rfl, rfl⟩)
  have TR := Lib.hid (show Lau.Trimmed zs.reverse 0 zs.reverse.length from (inv_ok HP.out).trim)
  obtain ⟨L, hL⟩ : ∃ L, zs.reverse = L := ⟨_, rfl⟩
  rw [hL] at OUT TR
  rw [hL]
  have LR := Lib.hid hL
  clear hL
  go_enter Try.func12, Try.ntmps12
  go_wp2_with fail
  refine HL.out.mono ?_
  rintro e2 w1 ⟨rfl, hb⟩
  have s1 : w.heap.size + 1 < w1.heap.size := by have := hb.size; simp at this; omega
  have K1 := Lib.hid (K0.out.below hb (by simp))
  have F1 := Lib.hid (F0.out.below hb (by simp))
  have X1 := Lib.hid (X0.out.below hb (by simp; omega))
  have HB := Lib.hid (on2 _ _ hb)
  clear hb K0 F0 X0
  obtain ⟨x0, x1⟩ := X1.out
  go_wp2_with fail
  refine (clone_any A n c zs _ (H.out.into HB.out) hn).mono ?_
  rintro e5 w5 ⟨A5, c5, rfl, q1, q2, hown, hb⟩
  have s5 : w1.heap.size ≤ w5.heap.size := hb.size
  have K5 := Lib.hid (K1.out.below hb s1)
  have F5 := Lib.hid (F1.out.below hb s1)
  have X5 := Lib.hid (X1.out.below hb (by omega))
  have HB5 := Lib.hid (HB.out.trans (hb.mono (by omega)))
  have O5 := Lib.hid hown
  clear hb hown x0 x1 K1 F1 HB X1
  obtain ⟨x0, x1⟩ := X5.out
  go_wp2_with fail
  refine (reverse_any A5 n c5 _ _ zs _ O5.out (Nat.le_refl _) hn).mono ?_
  rintro e6 w6 ⟨rfl, hown, hk⟩
  rw [LR.out] at hown
  have s6 : w5.heap.size ≤ w6.heap.size := hk.size
  have K6 := Lib.hid (K5.out.kept hk (by omega) (by omega))
  have F6 := Lib.hid (F5.out.kept hk (by omega) (by omega))
  have X6 := Lib.hid (X5.out.kept hk (by omega) (by omega))
  have HB6 := Lib.hid (HB5.out.trans (hk.below (by omega) (by omega)))
  have O6 := Lib.hid hown
  clear hk hown x0 x1 K5 F5 X5 HB5 O5
  obtain ⟨x0, x1⟩ := X6.out
  go_wp2_with fail
  refine (valid_any (1 - r - (n : Int)) A5 n c5 L 0 L.length w1.heap.size w5.heap.size (invLow r n) L 0 _ O6.out.mine s6 q1 hn q2 (by omega) (by omega) TR.out OUT.out).mono ?_
  rintro e7 w7 ⟨A7, c7, rfl, hM, hb⟩
  have s7 : w6.heap.size ≤ w7.heap.size := hb.size
  have K7 := Lib.hid ((K6.out.below hb (by omega)).below (al1 w7 (Obj.cells #[.int .i64 (invLow r n), .slice A7 L.length c7] 26)) (by omega))
  have F7 := Lib.hid ((F6.out.below hb (by omega)).below (al1 w7 (Obj.cells #[.int .i64 (invLow r n), .slice A7 L.length c7] 26)) (by omega))
  have HB7 := Lib.hid ((HB6.out.trans (hb.mono (by omega))).trans ((al1 w7 (Obj.cells #[.int .i64 (invLow r n), .slice A7 L.length c7] 26)).mono (by omega)))
  have M7 := Lib.hid (hM.al (by omega) (al1 w7 (Obj.cells #[.int .i64 (invLow r n), .slice A7 L.length c7] 26)))
  have P7 := Lib.hid (BoxG.new w7 26 (.int .i64 (invLow r n)) (.slice A7 L.length c7))
  clear hb hM x0 x1 K6 F6 HB6
  obtain ⟨n0, n1⟩ := K7.out
  obtain ⟨p0, p1⟩ := P7.out
  have f0 := F7.out
  unfold Free at f0
  go_wp2
  refine bodyPost_ret (v := .agg #[.int .i64 (invLow r n), .slice A7 L.length c7]) (by simp [results, Try.results12, n0, n1, go_sem]) rfl ?_
  exact ResL1.fin M7.out HB7.out (by omega) (.inl s1) (by omega) (by simp <;> omega)

end

end Go.Proofs.Ytpkjjcfcpmcdiaa
