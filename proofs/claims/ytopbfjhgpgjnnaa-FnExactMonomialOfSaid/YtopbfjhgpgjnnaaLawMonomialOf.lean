/- The law FnExactMonomialOf returns true for every two numbers that are passed in and changes no memory that was there. No condition. -/
import Derived.Test.YtopbfjhgpgjnnaaLiftL
import Derived.Test.YtopbfjhgpgjnnaaLauM
import Derived.Deep.RegionHeld3
import Derived.Deep.DeepCutAuto
namespace Go.Proofs.Ytopbfjhgpgjnnaa
open Go.ChangeShapes Go.WideShapes Go.ChangeAt Go.RowKit

set_option maxRecDepth 100000 in
set_option maxHeartbeats 16000000 in
theorem exactMonomialOf (aC aE : Int) (rk : Int) (ll : List Int) (code : Int) (w : World)
    (hz : ll.length ≤ 1048576)
    (hs : ∀ (W : World), Calls Try.prog 17 #[.int .i64 aC, .int .i64 aE] W (ResLC W rk ll code))
    (hi : ∀ (W : World), Calls Try.prog 18 #[.int .i64 aC, .int .i64 aE] W (ResLC W rk ll code)) :
    Calls Try.prog 4 #[.int .i64 aC, .int .i64 aE] w fun e w' => e = .returned (.bool true) ∧ Below w.heap.size w w' := by
  have HS := Lib.hid hs
  have HI := Lib.hid hi
  clear hs hi
  have HB := Lib.hid (Below.refl w.heap.size w)
  go_enter Try.func4, Try.ntmps4
  go_wp2_with fail
  refine (HS.out _).mono ?_
  rintro e w1 ⟨R1, t1, rfl, hown, hb⟩
  have Y1_1 := Lib.hid (hown.wide (lo' := w.heap.size) (hi' := w1.heap.size) (by simp) (Nat.le_refl _))
  clear hown
  have D1 := Lib.hid (hb)
  have s1 : w.heap.size + 0 ≤ w1.heap.size := by have := hb.size; (try simp at this); omega
  have HB1 := Lib.hid (HB.out.trans (D1.out.mono (by omega)))
  clear HB
  have HB := HB1
  clear HB1 hb
  go_wp2_with fail
  refine (HI.out _).mono ?_
  rintro e w2 ⟨R2, t2, rfl, hown, hb⟩
  have Y2_2 := Lib.hid (hown.wide (lo' := w1.heap.size + 1) (hi' := w2.heap.size) (by simp) (Nat.le_refl _))
  clear hown
  have D2 := Lib.hid (on1 _ hb)
  have s2 : w1.heap.size + 1 ≤ w2.heap.size := by have := hb.size; (try simp at this); omega
  have bw_2 := Lib.hid ((BoxG.new w1 27 (.int .i64 rk) (.slice R1 ll.length t1)).below hb (by simp))
  have Y1_2 := Lib.hid (Y1_1.out.below D2.out (by omega))
  clear Y1_1
  have HB2 := Lib.hid (HB.out.trans (D2.out.mono (by omega)))
  clear HB
  have HB := HB2
  clear HB2 hb
  have z_bw : w1.heap.size < w2.heap.size := by omega
  obtain ⟨bwx, bwy⟩ := bw_2.out
  go_wp2_with fail
  refine (eqLaurent_any _ _ _ _ _ _ ll (w2.heap.size) (w1.heap.size) _ (by (try simp) <;> omega) (by (try simp) <;> omega) (Y2_2.out.al (by omega) (al1 _ _)).ints (Y1_2.out.al (by omega) (al1 _ _)).ints hz).mono ?_
  rintro e w3 ⟨rfl, hb⟩
  clear bwx bwy
  have D3 := Lib.hid (on1 _ hb)
  have s3 : w2.heap.size + 1 ≤ w3.heap.size := by have := hb.size; (try simp at this); omega
  have bw_3 := Lib.hid (bw_2.out.below D3.out (by omega))
  clear bw_2
  have bg_3 := Lib.hid ((BoxG.new w2 27 (.int .i64 rk) (.slice R2 ll.length t2)).below hb (by simp))
  have Y1_3 := Lib.hid (Y1_2.out.below D3.out (by omega))
  clear Y1_2
  have Y2_3 := Lib.hid (Y2_2.out.below D3.out (by omega))
  clear Y2_2
  have HB3 := Lib.hid (HB.out.trans (D3.out.mono (by omega)))
  clear HB
  have HB := HB3
  clear HB3 hb
  clear z_bw
  have z_bw : w1.heap.size < w3.heap.size := by omega
  have z_bg : w2.heap.size < w3.heap.size := by omega
  as_aux_lemma =>
    obtain ⟨bwx, bwy⟩ := bw_3.out
    obtain ⟨bgx, bgy⟩ := bg_3.out
    go_wp2_with fail
    refine (markLaurent_any _ R2 ll.length t2 (1) ll (w1.heap.size + 1) (w2.heap.size) _ Y2_3.out (by omega) hz (by omega) (by omega)).mono ?_
    rintro e w4 ⟨rfl, hown, hk⟩
    clear bwx bwy bgx bgy
    have Y2_4 := Lib.hid hown
    clear Y2_3 hown
    have D4 := Lib.hid hk
    have s4 : w3.heap.size ≤ w4.heap.size := hk.size
    have bw_4 := Lib.hid (bw_3.out.kept D4.out (by omega) (by omega))
    clear bw_3
    have bg_4 := Lib.hid (bg_3.out.kept D4.out (by omega) (by omega))
    clear bg_3
    have Y1_4 := Lib.hid (Y1_3.out.kept D4.out (by omega) (by omega))
    clear Y1_3
    have HB4 := Lib.hid (HB.out.trans (D4.out.below (by omega) (by omega)))
    clear HB
    have HB := HB4
    clear HB4 hk
    clear z_bw
    have z_bw : w1.heap.size < w4.heap.size := by omega
    clear z_bg
    have z_bg : w2.heap.size < w4.heap.size := by omega
    have tq : decide ((1 : Int) + (ll.length : Int) < 0) = false := by simp; omega
    obtain ⟨bwx, bwy⟩ := bw_4.out
    obtain ⟨bgx, bgy⟩ := bg_4.out
    go_wp2_with fail
    refine (heldLaurent_any _ R2 ll.length t2 (1) (w2.heap.size) _ Y2_4.out.ints (by omega) hz (by omega) (by omega)).mono ?_
    rintro e w5 ⟨rfl, hb⟩
    clear bwx bwy bgx bgy
    have D5 := Lib.hid (hb)
    have s5 : w4.heap.size + 0 ≤ w5.heap.size := by have := hb.size; (try simp at this); omega
    have bw_5 := Lib.hid (bw_4.out.below D5.out (by omega))
    clear bw_4
    have bg_5 := Lib.hid (bg_4.out.below D5.out (by omega))
    clear bg_4
    have Y1_5 := Lib.hid (Y1_4.out.below D5.out (by omega))
    clear Y1_4
    have Y2_5 := Lib.hid (Y2_4.out.below D5.out (by omega))
    clear Y2_4
    have HB5 := Lib.hid (HB.out.trans (D5.out.mono (by omega)))
    clear HB
    have HB := HB5
    clear HB5 hb
    clear z_bw
    have z_bw : w1.heap.size < w5.heap.size := by omega
    clear z_bg
    have z_bg : w2.heap.size < w5.heap.size := by omega
    as_aux_lemma =>
      obtain ⟨bwx, bwy⟩ := bw_5.out
      obtain ⟨bgx, bgy⟩ := bg_5.out
      go_wp2_with fail
      refine (HI.out _).mono ?_
      rintro e w6 ⟨R6, t6, rfl, hown, hb⟩
      clear bwx bwy bgx bgy
      have Y6_6 := Lib.hid (hown.wide (lo' := w5.heap.size) (hi' := w6.heap.size) (by simp) (Nat.le_refl _))
      clear hown
      have D6 := Lib.hid (hb)
      have s6 : w5.heap.size + 0 ≤ w6.heap.size := by have := hb.size; (try simp at this); omega
      have bw_6 := Lib.hid (bw_5.out.below D6.out (by omega))
      clear bw_5
      have bg_6 := Lib.hid (bg_5.out.below D6.out (by omega))
      clear bg_5
      have Y1_6 := Lib.hid (Y1_5.out.below D6.out (by omega))
      clear Y1_5
      have Y2_6 := Lib.hid (Y2_5.out.below D6.out (by omega))
      clear Y2_5
      have HB6 := Lib.hid (HB.out.trans (D6.out.mono (by omega)))
      clear HB
      have HB := HB6
      clear HB6 hb
      clear z_bw
      have z_bw : w1.heap.size < w6.heap.size := by omega
      clear z_bg
      have z_bg : w2.heap.size < w6.heap.size := by omega
      obtain ⟨bwx, bwy⟩ := bw_6.out
      obtain ⟨bgx, bgy⟩ := bg_6.out
      go_wp2_with fail
      refine (eqLaurent_any _ _ _ _ _ _ ll (w6.heap.size) (w1.heap.size) _ (by (try simp) <;> omega) (by (try simp) <;> omega) (Y6_6.out.al (by omega) (al1 _ _)).ints (Y1_6.out.al (by omega) (al1 _ _)).ints hz).mono ?_
      rintro e w7 ⟨rfl, hb⟩
      clear bwx bwy bgx bgy
      have D7 := Lib.hid (on1 _ hb)
      have s7 : w6.heap.size + 1 ≤ w7.heap.size := by have := hb.size; (try simp at this); omega
      have bw_7 := Lib.hid (bw_6.out.below D7.out (by omega))
      clear bw_6
      have bg_7 := Lib.hid (bg_6.out.below D7.out (by omega))
      clear bg_6
      have bh_7 := Lib.hid ((BoxG.new w6 27 (.int .i64 rk) (.slice R6 ll.length t6)).below hb (by simp))
      have Y1_7 := Lib.hid (Y1_6.out.below D7.out (by omega))
      clear Y1_6
      have Y2_7 := Lib.hid (Y2_6.out.below D7.out (by omega))
      clear Y2_6
      have Y6_7 := Lib.hid (Y6_6.out.below D7.out (by omega))
      clear Y6_6
      have HB7 := Lib.hid (HB.out.trans (D7.out.mono (by omega)))
      clear HB
      have HB := HB7
      clear HB7 hb
      clear z_bw
      have z_bw : w1.heap.size < w7.heap.size := by omega
      clear z_bg
      have z_bg : w2.heap.size < w7.heap.size := by omega
      have z_bh : w6.heap.size < w7.heap.size := by omega
      obtain ⟨bwx, bwy⟩ := bw_7.out
      obtain ⟨bgx, bgy⟩ := bg_7.out
      obtain ⟨bhx, bhy⟩ := bh_7.out
      go_wp2_with fail
      refine (heldLaurent_any _ R2 ll.length t2 (1) (w2.heap.size) _ Y2_7.out.ints (by omega) hz (by omega) (by omega)).mono ?_
      rintro e w8 ⟨rfl, hb⟩
      clear bwx bwy bgx bgy bhx bhy
      have D8 := Lib.hid (hb)
      have s8 : w7.heap.size + 0 ≤ w8.heap.size := by have := hb.size; (try simp at this); omega
      have bw_8 := Lib.hid (bw_7.out.below D8.out (by omega))
      clear bw_7
      have bg_8 := Lib.hid (bg_7.out.below D8.out (by omega))
      clear bg_7
      have bh_8 := Lib.hid (bh_7.out.below D8.out (by omega))
      clear bh_7
      have Y1_8 := Lib.hid (Y1_7.out.below D8.out (by omega))
      clear Y1_7
      have Y2_8 := Lib.hid (Y2_7.out.below D8.out (by omega))
      clear Y2_7
      have Y6_8 := Lib.hid (Y6_7.out.below D8.out (by omega))
      clear Y6_7
      have HB8 := Lib.hid (HB.out.trans (D8.out.mono (by omega)))
      clear HB
      have HB := HB8
      clear HB8 hb
      clear z_bw
      have z_bw : w1.heap.size < w8.heap.size := by omega
      clear z_bg
      have z_bg : w2.heap.size < w8.heap.size := by omega
      clear z_bh
      have z_bh : w6.heap.size < w8.heap.size := by omega
      go_wp2
      go_ret
      exact ⟨rfl, HB.out⟩

theorem allMonomialOf (c e : Int) (w : World) (_wc : (Lit.int .i64 c).wf = true) (_we : (Lit.int .i64 e).wf = true) :
    Calls Try.prog 4 #[.int .i64 c, .int .i64 e] w fun e w' => e = .returned (.bool true) ∧ Below w.heap.size w w' := by
  by_cases h : MonoIn c e
  · exact exactMonomialOf c e _ _ 0 w (by rw [Lau.cut_len (by simp)]; omega) (fun W => mono_spec_yes c e W h) (fun W => mono_impl_yes c e W h)
  · exact exactMonomialOf c e 0 [] 2 w (by simp) (fun W => mono_spec_no c e W h) (fun W => mono_impl_no c e W h)

set_option maxRecDepth 100000 in
theorem exactMonomialOf_lifted (os : Os) (started : os.Started) (H : Type) (enc : TypeId × Value → H) :
    ReturnsInHanded {} Try.checked os 4 .any (Rows.fnExactMonomialOfSpec.pre6 enc Try.prog Try.f4 Rows.fnExactMonomialOfRow.domain false) (Rows.fnExactMonomialOfSpec.post enc Try.prog Try.f4 false true false false) := by
  refine returnsInHanded_of_change (C := Try.checked) own started (by kernel_rfl) Try.func4
    (ChangeSpec.witness6 (enc := enc) (C := Try.checked) false ⟨#[], #[.int .i64 0, .int .i64 0], []⟩ 8 (by kernel_rfl) (by kernel_rfl) (by kernel_rfl) (by kernel_rfl)) ?_
  intro W base args ds gs before hval0 hW _ _
  have hval : ∀ (j : Nat) t v, Try.f4.params[j]? = some t → args[j]? = some v → Value.okWide Try.prog W .any base t v := hval0
  have hW' := hW
  obtain ⟨p, q, hA0, hV, rfl, hfz, hnd⟩ := hW
  have hA : DataW.TrodAll enc Try.prog W 0 (fun _ => true) true Try.f4.params.toList args.toList ds p := hA0
  rw [Try.params4] at hA hval
  obtain ⟨v0, vs0, d0, ds0, p0, q0, hargs, rfl, rfl, h0, r0⟩ := trodAll_cons hA
  obtain ⟨v1, vs1, d1, ds1, p1, q1, rfl, rfl, rfl, h1, r1⟩ := trodAll_cons r0
  obtain ⟨rfl, rfl, rfl⟩ := trodAll_nil r1
  obtain rfl : args = #[v0, v1] := by cases args; simp_all
  obtain ⟨rfl, rfl⟩ := trodVars_none hV
  obtain ⟨x0, rfl, rfl, rfl, wx0⟩ := open_int Try.underlying2 (hval 0 2 v0 rfl rfl) h0
  obtain ⟨x1, rfl, rfl, rfl, wx1⟩ := open_int Try.underlying2 (hval 1 2 v1 rfl rfl) h1
  clear hA0 hval0
  refine (allMonomialOf x0 x1 W wx0 wx1).mono fun e W' ⟨he, bel⟩ => ?_
  subst he
  exact ⟨_, rfl, _, _, _, [], _, [], hW', trodAll_mk1 (shut_bool Try.underlying4 _), (trodAll_cons_mk (shut_int Try.underlying2 wx0) (trodAll_cons_mk (shut_int Try.underlying2 wx1) trodAll_mk0)), rfl, bel.frame _, fun h => by cases h⟩

theorem exactMonomialOf_holds : Rows.FnExactMonomialOfSaid :=
  OpenClaim.holds_of_wide 4 Try.f4 rfl rfl rfl rfl rfl rfl rfl ⟨rfl, rfl, rfl, rfl, rfl⟩ rfl rfl rfl rfl rfl (by kernel_rfl) Try.func4 (by kernel_rfl)
    (of_decide_eq_true (by kernel_rfl)) (by unfold Func.isWrapper; first | (rw [if_pos (by decide +kernel)]; kernel_rfl) | (rw [if_neg (by decide +kernel)]; exact ⟨rfl, rfl⟩))
    (fun os started H enc _ => exactMonomialOf_lifted os started H enc)

#print axioms exactMonomialOf_holds

end Go.Proofs.Ytopbfjhgpgjnnaa
