/- Contracts of the functions that replace t by its inverse, the program's and the specification's. No condition but those that each theorem names. -/
import Derived.Test.YtopbfjhgpgjnnaaLauT
import Derived.Test.YtopbfjhgpgjnnaaLauR
import Derived.Test.YtopbfjhgpgjnnaaLauS
import Derived.Deep.RegionLaw
namespace Go.Proofs.Ytopbfjhgpgjnnaa
open Go.RowKit

/-- The lowest exponent of the inverted polynomial. -/
def invLow (r : Int) (n : Nat) : Int := if n = 0 then 0 else 1 - r - n
theorem inv_ok {r : Int} {zs : List Int} (h : Lau.LOk r zs) : Lau.LOk (invLow r zs.length) zs.reverse := by
  rcases h with ⟨rfl, rfl⟩ | ⟨hn, h1, h2, h3, h4, h5, h6⟩
  · exact .inl ⟨rfl, rfl⟩
  · have hp : 0 < zs.length := List.length_pos_iff.2 hn
    have hr : ∀ i, i < zs.length → zs.reverse.getD i 0 = zs.getD (zs.length - 1 - i) 0 := fun i hi => by
      simp [List.getElem?_reverse hi]
    refine .inr ⟨by simpa using hn, by simpa using h1, by rw [hr 0 hp]; exact h3, by rw [List.length_reverse, hr _ (by omega), show zs.length - 1 - (zs.length - 1) = 0 by omega]; exact h2, ?_, ?_, fun i hi => ?_⟩
    · unfold invLow; rw [if_neg (by omega)]; omega
    · unfold invLow; rw [if_neg (by omega), List.length_reverse]; omega
    · rw [List.length_reverse] at hi
      rw [hr i hi]
      exact h6 _ (by omega)
theorem inv_low (r : Int) (n : Nat) : Lau.lowOf (1 - r - n) 0 n = invLow r n := by
  unfold Lau.lowOf invLow
  by_cases h : n = 0
  · rw [if_pos h, if_pos h.symm]
  · rw [if_neg h, if_neg (by omega)]; omega

section
variable (r : Int) (A : Option Addr) (n c : Nat) (zs : List Int) (w : World) (h : Ints w w.heap.size A n zs) (hn : n ≤ 1048576)
include h hn

set_option maxHeartbeats 2000000 in
theorem inv_impl_no (hP : ¬ Lau.LOk r zs) : Calls Try.prog 28 #[.agg #[.int .i64 r, .slice A n c]] w (ResL1 w 0 []) := by
  have HL := Lib.hid (isLi_no r A n c zs _ (h.into (al2 w (Obj.cells #[.int .i64 r, .slice A n c] 27) (Obj.cells #[.int .i64 0, .slice none 0 0] 27))) hn hP)
  have K0 := Lib.hid (BoxG.new (w.alloc (Obj.cells #[.int .i64 r, .slice A n c] 27)) 27 (.int .i64 0) (.slice none 0 0))
  have F0 := Lib.hid (Free.new (w.alloc (Obj.cells #[.int .i64 r, .slice A n c] 27)) 27 #[.int .i64 0, .slice none 0 0])
  simp only [World.size_alloc] at K0 F0
  clear h hP
  go_enter Try.func28, Try.ntmps28
  go_wp2_with fail
  refine HL.out.mono ?_
  rintro e1 w1 ⟨rfl, hb⟩
  obtain ⟨n0, n1⟩ := K0.out.below hb (by simp)
  have f0 := F0.out.below hb (by simp)
  unfold Free at f0
  have HB := Lib.hid (on2 _ _ hb)
  clear hb
  go_wp2
  refine bodyPost_ret (v := .agg #[.int .i64 0, .slice none 0 0]) (by simp [results, Try.results28, n0, n1, go_sem]) rfl ?_
  exact ⟨none, 0, rfl, Mine.none_ _ _ _ _, (HB.out.setCell (by simp) _).setCell (by simp) _⟩
set_option maxHeartbeats 2000000 in
theorem inv_spec_no (hP : ¬ Lau.LOk r zs) : Calls Try.prog 27 #[.agg #[.int .i64 r, .slice A n c]] w (ResL1 w 0 []) := by
  have HL := Lib.hid (isLs_no r A n c zs _ (h.into (al2 w (Obj.cells #[.int .i64 r, .slice A n c] 27) (Obj.cells #[.int .i64 0, .slice none 0 0] 27))) hn hP)
  have K0 := Lib.hid (BoxG.new (w.alloc (Obj.cells #[.int .i64 r, .slice A n c] 27)) 27 (.int .i64 0) (.slice none 0 0))
  have F0 := Lib.hid (Free.new (w.alloc (Obj.cells #[.int .i64 r, .slice A n c] 27)) 27 #[.int .i64 0, .slice none 0 0])
  simp only [World.size_alloc] at K0 F0
  clear h hP
  go_enter Try.func27, Try.ntmps27
  go_wp2_with fail
  refine HL.out.mono ?_
  rintro e1 w1 ⟨rfl, hb⟩
  obtain ⟨n0, n1⟩ := K0.out.below hb (by simp)
  have f0 := F0.out.below hb (by simp)
  unfold Free at f0
  have HB := Lib.hid (on2 _ _ hb)
  clear hb
  go_wp2
  refine bodyPost_ret (v := .agg #[.int .i64 0, .slice none 0 0]) (by simp [results, Try.results27, n0, n1, go_sem]) rfl ?_
  exact ⟨none, 0, rfl, Mine.none_ _ _ _ _, (HB.out.setCell (by simp) _).setCell (by simp) _⟩

set_option maxHeartbeats 4000000 in
theorem invert_impl_yes (hP : Lau.LOk r zs) : Calls Try.prog 28 #[.agg #[.int .i64 r, .slice A n c]] w (ResL1 w (invLow r n) zs.reverse) := by
  have HL := Lib.hid (isLi_yes r A n c zs _ (h.into (al2 w (Obj.cells #[.int .i64 r, .slice A n c] 27) (Obj.cells #[.int .i64 0, .slice none 0 0] 27))) hn hP)
  have K0 := Lib.hid (BoxG.new (w.alloc (Obj.cells #[.int .i64 r, .slice A n c] 27)) 27 (.int .i64 0) (.slice none 0 0))
  have F0 := Lib.hid (Free.new (w.alloc (Obj.cells #[.int .i64 r, .slice A n c] 27)) 27 #[.int .i64 0, .slice none 0 0])
  have X0 := Lib.hid ((BoxG.new w 27 (.int .i64 r) (.slice A n c)).below (al1 _ (Obj.cells #[.int .i64 0, .slice none 0 0] 27)) (by simp))
  simp only [World.size_alloc] at K0 F0
  have HP := Lib.hid hP
  have hlow := hP.low
  have H := Lib.hid h
  have hl := Lib.hid h.1
  have n160 : n ≤ 160 := by have := hP.len; have := hl.out; omega
  clear h hP
  have OUT := Lib.hid (show LOut (Lau.lowOf (1 - r - (n : Int)) 0 zs.reverse.length) (Lau.cut zs.reverse 0 zs.reverse.length) (invLow r n) zs.reverse 0 from by
    rw [Lau.cut_all, List.length_reverse, hl.out, inv_low]
    have := inv_ok HP.out
    rw [hl.out] at this
    exact .inl ⟨this, rfl, rfl, rfl⟩)
  have TR := Lib.hid (show Lau.Trimmed zs.reverse 0 zs.reverse.length from (inv_ok HP.out).trim)
  obtain ⟨L, hL⟩ : ∃ L, zs.reverse = L := ⟨_, rfl⟩
  rw [hL] at OUT TR
  rw [hL]
  have LR := Lib.hid hL
  clear hL
  go_enter Try.func28, Try.ntmps28
  go_wp2_with fail
  refine HL.out.mono ?_
  rintro e2 w1 ⟨rfl, hb⟩
  have s1 : w.heap.size + 1 < w1.heap.size := by have := hb.size; simp at this; omega
  have K1 := Lib.hid (K0.out.below hb (by simp))
  have F1 := Lib.hid (F0.out.below hb (by simp))
  have X1 := Lib.hid (X0.out.below hb (by simp; omega))
  have HB := Lib.hid (on2 _ _ hb)
  clear hb K0 F0 X0
  obtain ⟨x0, x1⟩ := X1.out
  go_wp2_with fail
  refine (clone_any A n c zs _ (H.out.into HB.out) hn).mono ?_
  rintro e5 w5 ⟨A5, c5, rfl, q1, q2, hown, hb⟩
  have s5 : w1.heap.size ≤ w5.heap.size := hb.size
  have K5 := Lib.hid (K1.out.below hb s1)
  have F5 := Lib.hid (F1.out.below hb s1)
  have X5 := Lib.hid (X1.out.below hb (by omega))
  have HB5 := Lib.hid (HB.out.trans (hb.mono (by omega)))
  have O5 := Lib.hid hown
  clear hb hown x0 x1 K1 F1 HB X1
  obtain ⟨x0, x1⟩ := X5.out
  go_wp2_with fail
  refine (reverse_any A5 n c5 _ _ zs _ O5.out (Nat.le_refl _) hn).mono ?_
  rintro e6 w6 ⟨rfl, hown, hk⟩
  rw [LR.out] at hown
  have s6 : w5.heap.size ≤ w6.heap.size := hk.size
  have K6 := Lib.hid (K5.out.kept hk (by omega) (by omega))
  have F6 := Lib.hid (F5.out.kept hk (by omega) (by omega))
  have X6 := Lib.hid (X5.out.kept hk (by omega) (by omega))
  have HB6 := Lib.hid (HB5.out.trans (hk.below (by omega) (by omega)))
  have O6 := Lib.hid hown
  clear hk hown x0 x1 K5 F5 X5 HB5 O5
  obtain ⟨x0, x1⟩ := X6.out
  go_wp2_with fail
  refine (valid_any (1 - r - (n : Int)) A5 n c5 L 0 L.length w1.heap.size w5.heap.size (invLow r n) L 0 _ O6.out.mine s6 q1 hn q2 (by omega) (by omega) TR.out OUT.out).mono ?_
  rintro e7 w7 ⟨A7, c7, rfl, hM, hb⟩
  have s7 : w6.heap.size ≤ w7.heap.size := hb.size
  have K7 := Lib.hid ((K6.out.below hb (by omega)).below (al1 w7 (Obj.cells #[.int .i64 (invLow r n), .slice A7 L.length c7] 27)) (by omega))
  have F7 := Lib.hid ((F6.out.below hb (by omega)).below (al1 w7 (Obj.cells #[.int .i64 (invLow r n), .slice A7 L.length c7] 27)) (by omega))
  have HB7 := Lib.hid ((HB6.out.trans (hb.mono (by omega))).trans ((al1 w7 (Obj.cells #[.int .i64 (invLow r n), .slice A7 L.length c7] 27)).mono (by omega)))
  have M7 := Lib.hid (hM.al (by omega) (al1 w7 (Obj.cells #[.int .i64 (invLow r n), .slice A7 L.length c7] 27)))
  have P7 := Lib.hid (BoxG.new w7 27 (.int .i64 (invLow r n)) (.slice A7 L.length c7))
  clear hb hM x0 x1 K6 F6 HB6
  obtain ⟨n0, n1⟩ := K7.out
  obtain ⟨p0, p1⟩ := P7.out
  have f0 := F7.out
  unfold Free at f0
  go_wp2
  refine bodyPost_ret (v := .agg #[.int .i64 (invLow r n), .slice A7 L.length c7]) (by simp [results, Try.results28, n0, n1, go_sem]) rfl ?_
  exact ResL1.fin M7.out HB7.out (by omega) (.inl s1) (by omega) (by simp <;> omega)

set_option maxHeartbeats 4000000 in
theorem invert_spec_yes (hP : Lau.LOk r zs) : Calls Try.prog 27 #[.agg #[.int .i64 r, .slice A n c]] w (ResL1 w (invLow r n) zs.reverse) := by
  have HL := Lib.hid (isLs_yes r A n c zs _ (h.into (al2 w (Obj.cells #[.int .i64 r, .slice A n c] 27) (Obj.cells #[.int .i64 0, .slice none 0 0] 27))) hn hP)
  have K0 := Lib.hid (BoxG.new (w.alloc (Obj.cells #[.int .i64 r, .slice A n c] 27)) 27 (.int .i64 0) (.slice none 0 0))
  have F0 := Lib.hid (Free.new (w.alloc (Obj.cells #[.int .i64 r, .slice A n c] 27)) 27 #[.int .i64 0, .slice none 0 0])
  have X0 := Lib.hid ((BoxG.new w 27 (.int .i64 r) (.slice A n c)).below (al1 _ (Obj.cells #[.int .i64 0, .slice none 0 0] 27)) (by simp))
  simp only [World.size_alloc] at K0 F0
  have HP := Lib.hid hP
  have hlow := hP.low
  have H := Lib.hid h
  have hl := Lib.hid h.1
  have n160 : n ≤ 160 := by have := hP.len; have := hl.out; omega
  clear h hP
  obtain ⟨ti, hi0, hz0, hz1, hz2⟩ := info_parts info2
  have HI := Lib.hid (And.intro hi0 (And.intro hz0 (And.intro hz1 hz2)))
  clear hi0 hz0 hz1 hz2
  have LA := Lib.hid (fun (k : Nat) (h : k < n) => (show zs.reverse.getD k 0 = zs.getD (n - 1 - k) 0 from by have := hl.out; simp [List.getElem?_reverse (show k < zs.length by omega), this]))
  have LN := Lib.hid (show zs.reverse.length = n from by rw [List.length_reverse]; exact hl.out)
  have LZ := Lib.hid (fun (h : n = 0) => (show zs.reverse = [] from by rw [List.length_eq_zero_iff.1 (hl.out.trans h)]; rfl))
  obtain ⟨L, hL⟩ : ∃ L, zs.reverse = L := ⟨_, rfl⟩
  rw [hL] at LA LN LZ
  rw [hL]
  clear hL
  go_enter Try.func27, Try.ntmps27
  go_wp2_with fail
  refine HL.out.mono ?_
  rintro e2 w1 ⟨rfl, hb⟩
  have s1 : w.heap.size + 1 < w1.heap.size := by have := hb.size; simp at this; omega
  have K1 := Lib.hid (K0.out.below hb (by simp))
  have F1 := Lib.hid (F0.out.below hb (by simp))
  have X1 := Lib.hid (X0.out.below hb (by simp; omega))
  have HB := Lib.hid (on2 _ _ hb)
  clear hb K0 F0 X0
  obtain ⟨x0, x1⟩ := X1.out
  by_cases n0 : n = 0
  · subst n0
    have HZ := Lib.hid (LZ.out rfl)
    obtain ⟨n0, n1⟩ := K1.out
    have f0 := F1.out
    unfold Free at f0
    go_wp2
    refine bodyPost_ret (v := .agg #[.int .i64 0, .slice none 0 0]) (by simp [results, Try.results27, n0, n1, go_sem]) rfl ?_
    rw [HZ.out, invLow, if_pos rfl]
    exact ⟨none, 0, rfl, Mine.none_ _ _ _ _, (HB.out.setCell (by simp) _).setCell (by simp) _⟩
  · have m0 : ((n : Int) == 0) = false := by simp; omega
    have p1 : 0 < n := by omega
    have p0 : (0 : Int) < (n : Int) := by omega
    obtain ⟨lw, hlw⟩ : ∃ lw, invLow r n = lw := ⟨_, rfl⟩
    have LW := Lib.hid hlw
    have e1 : -(r + (n : Int) - 1) = lw := by rw [← hlw, invLow, if_neg n0]; omega
    have z1 : w.heap.size < w1.heap.size := by omega
    clear n0 hlw
    go_wp2
    have G0 := Lib.hid (BoxG.new w1 27 (.int .i64 lw) (.slice none 0 0))
    have FG := Lib.hid (Free.new w1 27 #[.int .i64 lw, .slice none 0 0])
    have K2 := Lib.hid (K1.out.below (al1 w1 (Obj.cells #[.int .i64 lw, .slice none 0 0] 27)) s1)
    have F2 := Lib.hid (F1.out.below (al1 w1 (Obj.cells #[.int .i64 lw, .slice none 0 0] 27)) s1)
    have X2 := Lib.hid (X1.out.below (al1 w1 (Obj.cells #[.int .i64 lw, .slice none 0 0] 27)) (by omega))
    have D0 := Lib.hid (HB.out.trans ((al1 w1 (Obj.cells #[.int .i64 lw, .slice none 0 0] 27)).mono (by omega)))
    obtain ⟨W0, hW0⟩ : ∃ W0, W0 = w1.alloc (Obj.cells #[.int .i64 lw, .slice none 0 0] 27) := ⟨_, rfl⟩
    have s0' : w1.heap.size < W0.heap.size := by rw [hW0]; simp
    rw [← hW0] at G0 FG K2 F2 X2 D0
    rw [← hW0]
    clear hW0 x0 x1 K1 F1 X1 HB e1
    go_loopw [4] (fun x wr => ∃ k : Nat, k ≤ n ∧ x = .int .i64 ((n : Int) - 1 - k) ∧ LtAt W0.heap.size w1.heap.size lw W0 (L.take k) wr) (fun x _ => ((intOf x) + 1).toNat)
    case atStart => exact ⟨0, Nat.zero_le _, by simp, none, 0, G0.out, FG.out, Own.none_ _ _ _, Kept.refl _ _ _⟩
    case round =>
      obtain ⟨k, hk, rfl, ⟨A2, c2, hbox, hfree, hown, hkept⟩⟩ := hrel
      have HX := Lib.hid hbox
      have HF := Lib.hid hfree
      have HO := Lib.hid hown
      have HK := Lib.hid hkept
      have sz : W0.heap.size ≤ wr.heap.size := hkept.size
      have hlen : (L.take k).length ≤ 160 := by rw [List.length_take, LN.out]; omega
      have DB := Lib.hid (D0.out.trans (hkept.below (B := w.heap.size) (by omega) (by omega)))
      clear hbox hfree hown hkept
      have X3 := Lib.hid (X2.out.kept HK.out (by omega) (by omega))
      obtain ⟨m0, m1⟩ := X3.out
      by_cases hlt : k < n
      · have Q := Lib.hid (takeSnoc (l := L) (j := k) (by have := LN.out; omega))
        obtain ⟨l, hl2⟩ : ∃ l, L.take k = l := ⟨_, rfl⟩
        rw [hl2] at HO hlen Q HX
        clear hl2
        obtain ⟨j, hj⟩ : ∃ j : Nat, n - 1 - k = j := ⟨_, rfl⟩
        have ej : (n : Int) - 1 - (k : Int) = (j : Int) := by omega
        have JK := Lib.hid (show k + j + 1 = n by omega)
        have hjn : j < n := by omega
        obtain ⟨b, off, z, rfl, hbw, hz, hc⟩ := (H.out.below DB.out).at_z hjn
        have y1 : w1.heap.size < wr.heap.size := by omega
        have y2 : w.heap.size < wr.heap.size := by omega
        have y3 : b < wr.heap.size := by omega
        have Q2 := Q.out
        rw [show L.getD k 0 = z from by rw [← hz, ← hj]; exact LA.out k hlt] at Q2
        have Q5 := Lib.hid Q2
        clear Q2 Q hz hj
        rw [ej]
        have NJ := Lib.hid (show (j : Int) - 1 = (n : Int) - 1 - ((k + 1 : Nat) : Int) by omega)
        have i2 : (0 : Int) ≤ (j : Int) := by omega
        have i3 : (j : Int) < (n : Int) := by omega
        have HNW := Lib.hid (World.news_of_block (cs := #[.int .i64 z]) (t := 2) (fr := (0, 0)) (heap_alloc_new wr.drew _))
        obtain ⟨l0, l1⟩ := HX.out
        clear ej
        go_wp2_with fail
        go_region_law (refine step_append_lies _ (by rfl) _ _ _ (by rfl) W0.heap.size 2 ti _ 1 8 Try.underlying22 HI.out.1 HI.out.2.1 HI.out.2.2.1 HI.out.2.2.2 rfl (by omega) (.slice A2 l.length c2) l.length (l.map (Value.int .i64)) (by rfl) (HO.out.1.alloc _) ⟨wr.heap.size, 0, none⟩ 1 1 [.int .i64 z] (by rfl) (by rfl) HNW.out (by simp [Value.oneCell']) (by omega) (by unfold maxLen; omega) (by omega) (by simp; omega) (wr.heap.size + 1) (by simp) ?_; intro gg cap w7 hown7 hgrow hat hlt7; have O7 := Lib.hid hown7; have L7 := Lib.hid hlt7; have K7 := Lib.hid (Kept.of_grown hgrow (HO.out.1.alloc _).lt); obtain ⟨y0, y1⟩ := (HX.out.below ((al1 wr (Obj.cells #[.int .i64 z] 2)).drew) (by omega)).kept K7.out (by simp; omega) (by simp; omega); have g7 := (HF.out.below ((al1 wr (Obj.cells #[.int .i64 z] 2)).drew) (by omega)).kept K7.out (by simp; omega) (by simp; omega); unfold Free at g7; clear hown7 hgrow hlt7 hat)
        all_goals
          have hkk := Lib.hid ((HK.out.trans (Kept.of_below ((al1 wr (Obj.cells #[.int .i64 z] 2)).drew) _ _)).over K7.out (by omega))
          have hfin := Lib.hid (LtAt.push ⟨y0, y1⟩ g7 O7.out L7.out (by omega) hkk.out)
          clear l0 l1 y0 y1 g7
          go_wp2
          go_roundw
          case rel => exact ⟨k + 1, by omega, by rw [NJ.out], by rw [Q5.out]; exact hfin.out⟩
          case measure => simp [intOf] <;> omega
      · obtain rfl : k = n := by omega
        have hx : L.take k = L := List.take_of_length_le (by have := LN.out; omega)
        rw [hx] at HO HX
        clear hx
        have i3 : ¬ (0 : Int) ≤ (k : Int) - 1 - (k : Int) := by omega
        obtain ⟨l0, l1⟩ := HX.out
        obtain ⟨n0, n1⟩ := K2.out.kept HK.out (by omega) (by omega)
        have f0 := F2.out.kept HK.out (by omega) (by omega)
        unfold Free at f0
        go_wp2
        refine bodyPost_ret (v := .agg #[.int .i64 lw, .slice A2 L.length c2]) (by simp [results, Try.results27, n0, n1, go_sem]) rfl ?_
        rw [LW.out]
        exact ResL1.fin HO.out.mine DB.out (by omega) (.inl (by omega)) (by omega) (Nat.le_refl _)
end

end Go.Proofs.Ytopbfjhgpgjnnaa
