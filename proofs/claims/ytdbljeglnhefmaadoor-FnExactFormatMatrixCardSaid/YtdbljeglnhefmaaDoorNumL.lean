/- The law FnExactFormatMatrix returns true for every matrix that is passed in and changes no memory that was there. The table of powers of ten reads as the program lays it. -/
import Derived.Test.YtdbljeglnhefmaaDoorLift
import Derived.Test.YtdbljeglnhefmaaDoorNumD
import Derived.Deep.RegionHeld3
namespace Go.Proofs.YtdbljeglnhefmaaDoor
open Go.ChangeShapes Go.WideShapes Go.ChangeAt Go.RowKit

set_option maxHeartbeats 1000000 in
theorem exactFormatMatrix (r q : Int) (A : Option Addr) (n c : Nat) (zs : List Int) (w : World) (h : Ints w w.heap.size A n zs) (hm : n ≤ maxLen) (ht : Tab w) :
    Calls Tryd.prog 3 #[.agg #[.int .i64 r, .int .i64 q, .slice A n c]] w fun e w' => e = .returned (.bool true) ∧ Below w.heap.size w w' := by
  by_cases hn : n ≤ 1048576
  case neg =>
    have hm' := hm
    unfold maxLen at hm'
    go_enter Tryd.func3, Tryd.ntmps3
    go_wp2_with fail
    refine (szM_any r q A n c _ _ hm (by omega) (by omega)).mono ?_
    rintro e w1 ⟨rfl, hb⟩
    rw [if_pos (by omega)]
    go_wp2
    go_ret
    exact ⟨rfl, on1 _ hb⟩
  have H := Lib.hid h
  have T := Lib.hid ht
  obtain ⟨l, hsp, him⟩ : ∃ l, (∀ A c W, Ints W W.heap.size A n zs → Calls Tryd.prog 5 #[.agg #[.int .i64 r, .int .i64 q, .slice A n c]] W (NumR W l)) ∧ (∀ A c W, Ints W W.heap.size A n zs → Tab W → Calls Tryd.prog 7 #[.agg #[.int .i64 r, .int .i64 q, .slice A n c]] W (NumR W l)) := by
    by_cases hP : MOk r q zs
    · exact ⟨_, fun A c W hi => formatM_spec r q A n c zs W hi hn hP, fun A c W hi ht => formatM_impl r q A n c zs W hi hn hP ht⟩
    · exact ⟨_, fun A c W hi => formatM_spec_no r q A n c zs W hi hn hP, fun A c W hi _ => formatM_impl_no r q A n c zs W hi hn hP⟩
  have HSP := Lib.hid hsp
  have HIM := Lib.hid him
  clear h ht hsp him
  have K0 := Lib.hid (Box3.new w 24 (.int .i64 r) (.int .i64 q) (.slice A n c))
  go_enter Tryd.func3, Tryd.ntmps3
  go_wp2_with fail
  refine (szM_any r q A n c _ _ hm (by omega) (by omega)).mono ?_
  rintro e w1 ⟨rfl, hb⟩
  rw [if_neg (by omega)]
  have z1 : w.heap.size < w1.heap.size := by have := hb.size; simp at this; omega
  have K1 := Lib.hid (K0.out.below hb (by simp))
  have HB1 := Lib.hid (on1 _ hb)
  have hl := Lib.hid H.out.1
  clear hb K0
  obtain ⟨c0, c1, c2⟩ := K1.out
  go_wp2_with fail
  refine (toM_any r q A n c zs _ (H.out.into HB1.out) hn).mono ?_
  rintro e w2 ⟨g2, rfl, hk2, hg2, hb2⟩
  clear c0 c1 c2
  have K2 := Lib.hid (K1.out.below hb2 z1)
  have HB2 := Lib.hid (HB1.out.trans (hb2.mono HB1.out.size))
  have z2 : w.heap.size < w2.heap.size := by have := hb2.size; omega
  have I2 := Lib.hid (hk2.ints hl.out)
  clear hk2 hb2 K1 HB1
  obtain ⟨c0, c1, c2⟩ := K2.out
  go_wp2_with fail
  refine (HSP.out _ _ _ I2.out).mono ?_
  rintro e w3 ⟨rfl, hb3⟩
  clear c0 c1 c2
  clear I2
  have K3 := Lib.hid (K2.out.below hb3 z2)
  have HB3 := Lib.hid (HB2.out.trans (hb3.mono HB2.out.size))
  have z3 : w.heap.size < w3.heap.size := by have := hb3.size; omega
  clear hb3 K2 HB2
  obtain ⟨c0, c1, c2⟩ := K3.out
  go_wp2_with fail
  refine (toM_any r q A n c zs _ (H.out.into HB3.out) hn).mono ?_
  rintro e w4 ⟨g4, rfl, hk4, hg4, hb4⟩
  clear c0 c1 c2
  have K4 := Lib.hid (K3.out.below hb4 z3)
  have HB4 := Lib.hid (HB3.out.trans (hb4.mono HB3.out.size))
  have z4 : w.heap.size < w4.heap.size := by have := hb4.size; omega
  have HK4 := Lib.hid hk4
  clear hk4 hb4 K3 HB3
  obtain ⟨c0, c1, c2⟩ := K4.out
  go_wp2_with fail
  refine (HIM.out _ _ _ ((HK4.out.ints hl.out).into (al1 _ _)) (T.out.keep (HB4.out.trans ((al1 _ _).mono HB4.out.size)))).mono ?_
  rintro e w5 ⟨rfl, hb5⟩
  clear c0 c1 c2
  have z5 : w4.heap.size < w5.heap.size := by have := hb5.size; simp at this; omega
  have X5 := Lib.hid ((Box3.new w4 27 (.int .i64 r) (.int .i64 q) (.slice (some ⟨g4, 0, none⟩) n n)).below hb5 (by simp))
  have K5 := Lib.hid (K4.out.below (on1 _ hb5) z4)
  have HK5 := Lib.hid (HK4.out.below (on1 _ hb5) HK4.out.lt)
  have HB5 := Lib.hid (HB4.out.trans ((on1 _ hb5).mono HB4.out.size))
  have G4 := HK4.out.lt
  clear hb5 K4 HB4 HK4
  obtain ⟨c0, c1, c2⟩ := K5.out
  obtain ⟨d0, d1, d2⟩ := X5.out
  go_wp2_with fail
  go_region_held3 (fun W => W.cell? ⟨w.heap.size, 0, none⟩ = some (.int .i64 r) ∧ W.cell? ⟨w.heap.size, 1, none⟩ = some (.int .i64 q) ∧ W.cell? ⟨w.heap.size, 2, none⟩ = some (.slice A n c) ∧
      W.cell? ⟨w4.heap.size, 0, none⟩ = some (.int .i64 r) ∧ W.cell? ⟨w4.heap.size, 1, none⟩ = some (.int .i64 q) ∧ W.cell? ⟨w4.heap.size, 2, none⟩ = some (.slice (some ⟨g4, 0, none⟩) n n)) (go_keep)
    (first
      | (go_at_call 6; refine (toM_any r q A n c zs _ (by exact H.out.into HB5.out.drew) hn).mono ?_; rintro e w6 ⟨g6, rfl, hk6, hg6, hb6'⟩; have hb6 := undrew hb6'; have K6 := Lib.hid hk6; have B6 := Lib.hid hb6; obtain ⟨e0, e1, e2⟩ := K5.out.below hb6 (by omega); obtain ⟨f0, f1, f2⟩ := X5.out.below hb6 (by omega); clear hk6 hb6 hb6')
      | (go_at_call 8; refine (eqM_any r q _ _ n _ _ zs w5.heap.size _ _ (by exact B6.out.size) (Nat.le_refl _) (by exact (HK5.out.ints hl.out).below B6.out) (by exact K6.out.ints hl.out) hn).mono ?_; rintro e w7 ⟨rfl, hb7⟩; have z6 := B6.out.size; obtain ⟨m0, m1, m2⟩ := (K5.out.below B6.out (by omega)).below hb7 (by omega); obtain ⟨n0, n1, n2⟩ := (X5.out.below B6.out (by omega)).below hb7 (by omega)))
  go_wp2
  go_ret
  exact ⟨rfl, HB5.out.trans (((B6.out.mono HB5.out.size).trans (hb7.mono (Nat.le_trans HB5.out.size B6.out.size))))⟩

end Go.Proofs.YtdbljeglnhefmaaDoor
