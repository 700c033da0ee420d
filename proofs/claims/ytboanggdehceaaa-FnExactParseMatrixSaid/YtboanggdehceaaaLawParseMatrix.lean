/- The law FnExactParseMatrix returns true for every text that is passed in and changes no memory that was there. No condition. -/
import Derived.Test.YtboanggdehceaaaLift
import Derived.Test.YtboanggdehceaaaPrsJ
import Derived.ChangeMaps5
import Derived.Deep.RegionHeld3
namespace Go.Proofs.Ytboanggdehceaaa
open Go.ChangeShapes Go.WideShapes Go.ChangeAt Go.RowKit

set_option maxHeartbeats 4000000 in
theorem exactParseMatrix (l : List UInt8) (rr qq : Int) (zz : List Int) (x : Int) (w : World) (hl : l.length ≤ 1048576)
    (hz : zz.length ≤ 1048576)
    (hs : ∀ (W : World), Calls Try.prog 6 #[.string ⟨l.toArray⟩] W (ResM W rr qq zz (.int .i64 x)))
    (hi : ∀ (W : World), Calls Try.prog 7 #[.string ⟨l.toArray⟩] W (ResM W rr qq zz (.int .i64 x))) :
    Calls Try.prog 3 #[.string ⟨l.toArray⟩] w fun e w' => e = .returned (.bool true) ∧ Below w.heap.size w w' := by
  have HS := Lib.hid hs
  have HI := Lib.hid hi
  clear hs hi
  have HB := Lib.hid (Below.refl w.heap.size w)
  have hl1 : ¬ (1048576 : Int) < (l.length : Int) := by omega
  go_enter Try.func3, Try.ntmps3
  go_wp2_with fail
  refine (HS.out _).mono ?_
  rintro e w1 ⟨R1, t1, rfl, hown, hb⟩
  have Y1_1 := Lib.hid (hown.wide (lo' := w.heap.size) (hi' := w1.heap.size) (by simp) (Nat.le_refl _))
  clear hown
  have D1 := Lib.hid (hb)
  have s1 : w.heap.size + 0 ≤ w1.heap.size := by have := hb.size; (try simp at this); omega
  have HB1 := Lib.hid (HB.out.trans (D1.out.mono (by omega)))
  clear HB
  have HB := HB1
  clear HB1 hb
  go_wp2_with fail
  refine (HI.out _).mono ?_
  rintro e w2 ⟨R2, t2, rfl, hown, hb⟩
  have Y2_2 := Lib.hid (hown.wide (lo' := w1.heap.size + 1) (hi' := w2.heap.size) (by simp) (Nat.le_refl _))
  clear hown
  have D2 := Lib.hid (on1 _ hb)
  have s2 : w1.heap.size + 1 ≤ w2.heap.size := by have := hb.size; (try simp at this); omega
  have bw_2 := Lib.hid ((Box3.new w1 24 (.int .i64 rr) (.int .i64 qq) (.slice R1 zz.length t1)).below hb (by simp))
  have Y1_2 := Lib.hid (Y1_1.out.below D2.out (by omega))
  clear Y1_1
  have HB2 := Lib.hid (HB.out.trans (D2.out.mono (by omega)))
  clear HB
  have HB := HB2
  clear HB2 hb
  have z_bw : w1.heap.size < w2.heap.size := by omega
  obtain ⟨bwx, bwy, bwz⟩ := bw_2.out
  go_wp2_with fail
  refine (eqM_any _ _ _ _ _ _ _ zz w2.heap.size w1.heap.size _ (by simp <;> omega) (by simp <;> omega) (Y2_2.out.al (by omega) (al1 _ _)).ints (Y1_2.out.al (by omega) (al1 _ _)).ints hz).mono ?_
  rintro e w3 ⟨rfl, hb⟩
  clear bwx bwy bwz
  have D3 := Lib.hid (on1 _ hb)
  have s3 : w2.heap.size + 1 ≤ w3.heap.size := by have := hb.size; (try simp at this); omega
  have bw_3 := Lib.hid (bw_2.out.below D3.out (by omega))
  clear bw_2
  have bg_3 := Lib.hid ((Box3.new w2 24 (.int .i64 rr) (.int .i64 qq) (.slice R2 zz.length t2)).below hb (by simp))
  have Y1_3 := Lib.hid (Y1_2.out.below D3.out (by omega))
  clear Y1_2
  have Y2_3 := Lib.hid (Y2_2.out.below D3.out (by omega))
  clear Y2_2
  have HB3 := Lib.hid (HB.out.trans (D3.out.mono (by omega)))
  clear HB
  have HB := HB3
  clear HB3 hb
  clear z_bw
  have z_bw : w1.heap.size < w3.heap.size := by omega
  have z_bg : w2.heap.size < w3.heap.size := by omega
  obtain ⟨bwx, bwy, bwz⟩ := bw_3.out
  obtain ⟨bgx, bgy, bgz⟩ := bg_3.out
  go_wp2_with fail
  refine (markM_any _ _ R2 zz.length t2 (1) zz (w1.heap.size + 1) (w2.heap.size) _ Y2_3.out (by omega) hz (by omega) (by omega)).mono ?_
  rintro e w4 ⟨rfl, hown, hk⟩
  clear bwx bwy bwz bgx bgy bgz
  have Y2_4 := Lib.hid hown
  clear Y2_3 hown
  have D4 := Lib.hid hk
  have s4 : w3.heap.size ≤ w4.heap.size := hk.size
  have bw_4 := Lib.hid (bw_3.out.kept D4.out (by omega) (by omega))
  clear bw_3
  have bg_4 := Lib.hid (bg_3.out.kept D4.out (by omega) (by omega))
  clear bg_3
  have Y1_4 := Lib.hid (Y1_3.out.kept D4.out (by omega) (by omega))
  clear Y1_3
  have HB4 := Lib.hid (HB.out.trans (D4.out.below (by omega) (by omega)))
  clear HB
  have HB := HB4
  clear HB4 hk
  clear z_bw
  have z_bw : w1.heap.size < w4.heap.size := by omega
  clear z_bg
  have z_bg : w2.heap.size < w4.heap.size := by omega
  obtain ⟨bwx, bwy, bwz⟩ := bw_4.out
  obtain ⟨bgx, bgy, bgz⟩ := bg_4.out
  go_wp2_with fail
  refine (heldM_any _ _ R2 zz.length t2 (1) (w2.heap.size) _ Y2_4.out.ints (by omega) hz (by omega) (by omega)).mono ?_
  rintro e w5 ⟨rfl, hb⟩
  clear bwx bwy bwz bgx bgy bgz
  have D5 := Lib.hid (hb)
  have s5 : w4.heap.size + 0 ≤ w5.heap.size := by have := hb.size; (try simp at this); omega
  have bw_5 := Lib.hid (bw_4.out.below D5.out (by omega))
  clear bw_4
  have bg_5 := Lib.hid (bg_4.out.below D5.out (by omega))
  clear bg_4
  have Y1_5 := Lib.hid (Y1_4.out.below D5.out (by omega))
  clear Y1_4
  have Y2_5 := Lib.hid (Y2_4.out.below D5.out (by omega))
  clear Y2_4
  have HB5 := Lib.hid (HB.out.trans (D5.out.mono (by omega)))
  clear HB
  have HB := HB5
  clear HB5 hb
  clear z_bw
  have z_bw : w1.heap.size < w5.heap.size := by omega
  clear z_bg
  have z_bg : w2.heap.size < w5.heap.size := by omega
  obtain ⟨bwx, bwy, bwz⟩ := bw_5.out
  obtain ⟨bgx, bgy, bgz⟩ := bg_5.out
  go_wp2_with fail
  refine (HI.out _).mono ?_
  rintro e w6 ⟨R6, t6, rfl, hown, hb⟩
  clear bwx bwy bwz bgx bgy bgz
  have Y6_6 := Lib.hid (hown.wide (lo' := w5.heap.size) (hi' := w6.heap.size) (by simp) (Nat.le_refl _))
  clear hown
  have D6 := Lib.hid (hb)
  have s6 : w5.heap.size + 0 ≤ w6.heap.size := by have := hb.size; (try simp at this); omega
  have bw_6 := Lib.hid (bw_5.out.below D6.out (by omega))
  clear bw_5
  have bg_6 := Lib.hid (bg_5.out.below D6.out (by omega))
  clear bg_5
  have Y1_6 := Lib.hid (Y1_5.out.below D6.out (by omega))
  clear Y1_5
  have Y2_6 := Lib.hid (Y2_5.out.below D6.out (by omega))
  clear Y2_5
  have HB6 := Lib.hid (HB.out.trans (D6.out.mono (by omega)))
  clear HB
  have HB := HB6
  clear HB6 hb
  clear z_bw
  have z_bw : w1.heap.size < w6.heap.size := by omega
  clear z_bg
  have z_bg : w2.heap.size < w6.heap.size := by omega
  obtain ⟨bwx, bwy, bwz⟩ := bw_6.out
  obtain ⟨bgx, bgy, bgz⟩ := bg_6.out
  go_wp2_with fail
  refine (eqM_any _ _ _ _ _ _ _ zz w6.heap.size w1.heap.size _ (by simp <;> omega) (by simp <;> omega) (Y6_6.out.al (by omega) (al1 _ _)).ints (Y1_6.out.al (by omega) (al1 _ _)).ints hz).mono ?_
  rintro e w7 ⟨rfl, hb⟩
  clear bwx bwy bwz bgx bgy bgz
  have D7 := Lib.hid (on1 _ hb)
  have s7 : w6.heap.size + 1 ≤ w7.heap.size := by have := hb.size; (try simp at this); omega
  have bw_7 := Lib.hid (bw_6.out.below D7.out (by omega))
  clear bw_6
  have bg_7 := Lib.hid (bg_6.out.below D7.out (by omega))
  clear bg_6
  have bh_7 := Lib.hid ((Box3.new w6 24 (.int .i64 rr) (.int .i64 qq) (.slice R6 zz.length t6)).below hb (by simp))
  have Y1_7 := Lib.hid (Y1_6.out.below D7.out (by omega))
  clear Y1_6
  have Y2_7 := Lib.hid (Y2_6.out.below D7.out (by omega))
  clear Y2_6
  have Y6_7 := Lib.hid (Y6_6.out.below D7.out (by omega))
  clear Y6_6
  have HB7 := Lib.hid (HB.out.trans (D7.out.mono (by omega)))
  clear HB
  have HB := HB7
  clear HB7 hb
  clear z_bw
  have z_bw : w1.heap.size < w7.heap.size := by omega
  clear z_bg
  have z_bg : w2.heap.size < w7.heap.size := by omega
  have z_bh : w6.heap.size < w7.heap.size := by omega
  obtain ⟨bwx, bwy, bwz⟩ := bw_7.out
  obtain ⟨bgx, bgy, bgz⟩ := bg_7.out
  obtain ⟨bhx, bhy, bhz⟩ := bh_7.out
  go_wp2_with fail
  refine (heldM_any _ _ R2 zz.length t2 (1) (w2.heap.size) _ Y2_7.out.ints (by omega) hz (by omega) (by omega)).mono ?_
  rintro e w8 ⟨rfl, hb⟩
  clear bwx bwy bwz bgx bgy bgz bhx bhy bhz
  have D8 := Lib.hid (hb)
  have s8 : w7.heap.size + 0 ≤ w8.heap.size := by have := hb.size; (try simp at this); omega
  have bw_8 := Lib.hid (bw_7.out.below D8.out (by omega))
  clear bw_7
  have bg_8 := Lib.hid (bg_7.out.below D8.out (by omega))
  clear bg_7
  have bh_8 := Lib.hid (bh_7.out.below D8.out (by omega))
  clear bh_7
  have Y1_8 := Lib.hid (Y1_7.out.below D8.out (by omega))
  clear Y1_7
  have Y2_8 := Lib.hid (Y2_7.out.below D8.out (by omega))
  clear Y2_7
  have Y6_8 := Lib.hid (Y6_7.out.below D8.out (by omega))
  clear Y6_7
  have HB8 := Lib.hid (HB.out.trans (D8.out.mono (by omega)))
  clear HB
  have HB := HB8
  clear HB8 hb
  clear z_bw
  have z_bw : w1.heap.size < w8.heap.size := by omega
  clear z_bg
  have z_bg : w2.heap.size < w8.heap.size := by omega
  clear z_bh
  have z_bh : w6.heap.size < w8.heap.size := by omega
  go_wp2
  go_ret
  exact ⟨rfl, HB.out⟩

theorem bigParseMatrix (l : List UInt8) (w : World) (hm : l.length ≤ maxLen) (hl : ¬ l.length ≤ 1048576) :
    Calls Try.prog 3 #[.string ⟨l.toArray⟩] w fun e w' => e = .returned (.bool true) ∧ Below w.heap.size w w' := by
  unfold maxLen at hm
  have hl1 : (1048576 : Int) < (l.length : Int) := by omega
  go_enter Try.func3, Try.ntmps3
  go_wp2
  go_ret
  exact ⟨rfl, Below.refl _ _⟩

theorem allParseMatrix (l : List UInt8) (w : World) (hm : l.length ≤ maxLen) :
    Calls Try.prog 3 #[.string ⟨l.toArray⟩] w fun e w' => e = .returned (.bool true) ∧ Below w.heap.size w w' := by
  by_cases hl : l.length ≤ 1048576
  · obtain ⟨r, q, zs, x, h⟩ := PO.exists_ l
    exact exactParseMatrix l r q zs x w hl (by have := h.len; omega) (fun W => (parse_spec l W hl).mono fun _ _ hh => hh.fix h) (fun W => (parse_impl l W hl).mono fun _ _ hh => hh.fix h)
  · exact bigParseMatrix l w hm hl

set_option maxRecDepth 100000 in
theorem exactParseMatrix_lifted (os : Os) (started : os.Started) (H : Type) (enc : TypeId × Value → H) :
    ReturnsInHanded {} Try.checked os 3 .any (Rows.fnExactParseMatrixSpec.pre6 enc Try.prog Try.f3 Rows.fnExactParseMatrixRow.domain false) (Rows.fnExactParseMatrixSpec.post enc Try.prog Try.f3 false true false false) := by
  refine returnsInHanded_of_change (C := Try.checked) own started (by kernel_rfl) Try.func3
    (ChangeSpec.witness6 (enc := enc) (C := Try.checked) false ⟨#[], #[.string ⟨#[]⟩], []⟩ 8 (by kernel_rfl) (by kernel_rfl) (by kernel_rfl) (by kernel_rfl)) ?_
  intro W base args ds gs before hval0 hW _ _
  have hval : ∀ (j : Nat) t v, Try.f3.params[j]? = some t → args[j]? = some v → Value.okWide Try.prog W .any base t v := hval0
  have hW' := hW
  obtain ⟨p, q, hA0, hV, rfl, hfz, hnd⟩ := hW
  have hA : DataW.TrodAll enc Try.prog W 0 (fun _ => true) true Try.f3.params.toList args.toList ds p := hA0
  rw [Try.params3] at hA hval
  obtain ⟨v0, vs0, d0, ds0, p0, q0, hargs, rfl, rfl, h0, r0⟩ := trodAll_cons hA
  obtain ⟨rfl, rfl, rfl⟩ := trodAll_nil r0
  obtain rfl : args = #[v0] := by cases args; simp_all
  obtain ⟨rfl, rfl⟩ := trodVars_none hV
  obtain ⟨x0, rfl, rfl, rfl, wx0⟩ := Go.ChangeMaps.open_string Try.underlying9 (hval 0 9 v0 rfl rfl) h0
  clear hA0 hval0
  refine (allParseMatrix x0.data.toList W wx0).mono fun e W' ⟨he, bel⟩ => ?_
  subst he
  exact ⟨_, rfl, _, _, _, [], _, [], hW', trodAll_mk1 (shut_bool Try.underlying4 _), (trodAll_cons_mk (Go.ChangeMaps.shut_string Try.underlying9 wx0) trodAll_mk0), rfl, bel.frame _, fun h => by cases h⟩

theorem exactParseMatrix_holds : Rows.FnExactParseMatrixSaid :=
  OpenClaim.holds_of_wide 3 Try.f3 rfl rfl rfl rfl rfl rfl rfl ⟨rfl, rfl, rfl, rfl, rfl⟩ rfl rfl rfl rfl rfl (by kernel_rfl) Try.func3 (by kernel_rfl)
    (of_decide_eq_true (by kernel_rfl)) (by unfold Func.isWrapper; first | (rw [if_pos (by decide +kernel)]; kernel_rfl) | (rw [if_neg (by decide +kernel)]; exact ⟨rfl, rfl⟩))
    (fun os started H enc _ => exactParseMatrix_lifted os started H enc)

#print axioms exactParseMatrix_holds

end Go.Proofs.Ytboanggdehceaaa
