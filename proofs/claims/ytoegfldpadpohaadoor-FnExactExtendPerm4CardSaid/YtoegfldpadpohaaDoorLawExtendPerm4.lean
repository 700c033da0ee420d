/- The law FnExactExtendPerm4 returns true for every two lists that are passed in and changes no memory that was there. The card. No condition but the row's own. -/
import Derived.Test.YtoegfldpadpohaaDoorPfL
import Derived.Test.YtoegfldpadpohaaDoorPfU
namespace Go.Proofs.YtoegfldpadpohaaDoor
open Go Go.ChangeShapes Go.WideShapes Go.ChangeAt Go.RowKit

set_option maxHeartbeats 4000000 in
theorem allExtendPerm4 (A : Option Addr) (n c : Nat) (zs : List Int) (A2 : Option Addr) (n2 c2 : Nat) (ys : List Int) (w : World) (h : Ints w w.heap.size A n zs) (hm : n ≤ maxLen) (h2 : Ints w w.heap.size A2 n2 ys) (hm2 : n2 ≤ maxLen) (ht : Tb w) :
    Calls Tryd.prog 12 #[.slice A n c, .slice A2 n2 c2] w fun e w' => e = .returned (.bool true) ∧ Below w.heap.size w w' := by
  have HT := Lib.hid ht
  have h0 := ht.pos
  have H := Lib.hid h
  have H2 := Lib.hid h2
  have D0 := Lib.hid (Below.refl w.heap.size w)
  clear ht h h2
  unfold maxLen at hm hm2
  by_cases hn : n ≤ 1048576
  case neg =>
    have t0 : decide ((1048576 : Int) < (n : Int)) = true := by simp; omega
    have i0 : (1048576 : Int) < (n : Int) := by omega
    go_enter Tryd.func12, Tryd.ntmps12
    go_wp2
    go_ret
    exact ⟨rfl, Below.refl _ _⟩
  have t0 : decide ((1048576 : Int) < (n : Int)) = false := by simp; omega
  have i0 : ¬ (1048576 : Int) < (n : Int) := by omega
  by_cases hn2 : n2 ≤ 1048576
  case neg =>
    have t1 : decide ((1048576 : Int) < (n2 : Int)) = true := by simp; omega
    have i1 : (1048576 : Int) < (n2 : Int) := by omega
    go_enter Tryd.func12, Tryd.ntmps12
    go_wp2
    go_ret
    exact ⟨rfl, Below.refl _ _⟩
  have t1 : decide ((1048576 : Int) < (n2 : Int)) = false := by simp; omega
  have i1 : ¬ (1048576 : Int) < (n2 : Int) := by omega
  obtain ⟨r, hr⟩ : ∃ r, P4.ext n n2 zs ys = r := ⟨_, rfl⟩
  have SP := Lib.hid (fun A A' c c' W h h' => extend_spec A A' n n2 c c' zs ys W h h' hn hn2)
  have IM := Lib.hid (fun A A' c c' W h h' ht => extend_impl A A' n n2 c c' zs ys W h h' hn hn2 ht)
  rw [hr] at SP IM
  unfold ResX at SP IM
  obtain ⟨x, hx⟩ : ∃ x : Int, ((r.getD 0 : Nat) : Int) = x := ⟨_, rfl⟩
  obtain ⟨b, hb⟩ : ∃ b, r.isSome = b := ⟨_, rfl⟩
  rw [hx, hb] at SP IM
  clear hr hx hb
  have u1 : (x != x) = false := by simp
  have u2 : (b != b) = false := by simp
  go_enter Tryd.func12, Tryd.ntmps12
  go_wp2_with fail
  refine (toInts_any A n c zs _ ((H.out.below D0.out).more (by omega)) hn).mono ?_
  rintro e w1 ⟨rfl, hk1, hb1⟩
  have K1 := Lib.hid (hk1.ints H.out.1)
  have D1 := Lib.hid (D0.out.trans (hb1.mono (by omega)))
  have z1 := hb1.size
  clear hk1 hb1
  go_wp2_with fail
  refine (toInts_any A2 n2 c2 ys _ ((H2.out.below D1.out).more (by omega)) hn2).mono ?_
  rintro e w2 ⟨rfl, hk2, hb2⟩
  have K2 := Lib.hid (hk2.ints H2.out.1)
  have D2 := Lib.hid (D1.out.trans (hb2.mono (by omega)))
  have z2 := hb2.size
  have K12 := Lib.hid ((K1.out.below hb2).more hb2.size)
  clear hk2 hb2 K1
  go_wp2_with fail
  refine (SP.out _ _ _ _ _ K12.out K2.out).mono ?_
  rintro e w3 ⟨rfl, hb3⟩
  have D3 := Lib.hid (D2.out.trans (hb3.mono (by omega)))
  have z3 := hb3.size
  clear hb3 K12 K2
  go_wp2_with fail
  refine (toInts_any A n c zs _ ((H.out.below D3.out).more (by omega)) hn).mono ?_
  rintro e w4 ⟨rfl, hk4, hb4⟩
  have K4 := Lib.hid (hk4.ints H.out.1)
  have D4 := Lib.hid (D3.out.trans (hb4.mono (by omega)))
  have z4 := hb4.size
  clear hk4 hb4
  go_wp2_with fail
  refine (toInts_any A2 n2 c2 ys _ ((H2.out.below D4.out).more (by omega)) hn2).mono ?_
  rintro e w5 ⟨rfl, hk5, hb5⟩
  have K5 := Lib.hid (hk5.ints H2.out.1)
  have D5 := Lib.hid (D4.out.trans (hb5.mono (by omega)))
  have z5 := hb5.size
  have K45 := Lib.hid ((K4.out.below hb5).more hb5.size)
  clear hk5 hb5 K4
  go_wp2_with fail
  refine (IM.out _ _ _ _ _ K45.out K5.out (HT.out.below D5.out h0)).mono ?_
  rintro e w6 ⟨rfl, hb6⟩
  have K46 := Lib.hid ((K45.out.below hb6).more hb6.size)
  have K56 := Lib.hid ((K5.out.below hb6).more hb6.size)
  have D6 := Lib.hid (D5.out.trans (hb6.mono (by omega)))
  have z6 := hb6.size
  clear hb6 K45 K5
  go_wp2_with fail
  refine (toInts_any A n c zs _ ((H.out.below D6.out).more (by omega)) hn).mono ?_
  rintro e w7 ⟨rfl, hk7, hb7⟩
  have K7 := Lib.hid (hk7.ints H.out.1)
  have D7 := Lib.hid (D6.out.trans (hb7.mono (by omega)))
  have z7 := hb7.size
  have K47 := Lib.hid (K46.out.below hb7)
  have K57 := Lib.hid ((K56.out.below hb7).more hb7.size)
  clear hk7 hb7 K46 K56
  go_wp2_with fail
  refine (eqInts_any _ _ n n n zs _ _ w7 K47.out K7.out hn).mono ?_
  rintro e w8 ⟨rfl, q8, hw8⟩
  have D8 := Lib.hid (show Below w.heap.size w w8 from by rw [hw8]; exact D7.out.trans (Go.Joins.below_draws _ _ _))
  have K58 := Lib.hid (show Ints w8 w8.heap.size _ n2 ys from by rw [hw8]; exact K57.out.drewN q8)
  have z8 : w7.heap.size ≤ w8.heap.size := by rw [hw8]; exact (Go.Joins.below_draws w7.heap.size w7 q8).size
  clear hw8
  go_wp2_with fail
  refine (toInts_any A2 n2 c2 ys _ ((H2.out.below D8.out).more (by omega)) hn2).mono ?_
  rintro e w9 ⟨rfl, hk9, hb9⟩
  have K9 := Lib.hid (hk9.ints H2.out.1)
  have D9 := Lib.hid (D8.out.trans (hb9.mono (by omega)))
  have z9 := hb9.size
  have K59 := Lib.hid (K58.out.below hb9)
  clear hk9 hb9
  go_wp2_with fail
  refine (eqInts_any _ _ n2 n2 n2 ys _ _ w9 K59.out K9.out hn2).mono ?_
  rintro e w10 ⟨rfl, q10, rfl⟩
  go_wp2
  go_ret
  exact ⟨rfl, D9.out.trans (Go.Joins.below_draws _ _ _)⟩

set_option maxRecDepth 100000 in
theorem exactExtendPerm4_lifted (os : Os) (started : os.Started) (H : Type) (enc : TypeId × Value → H) :
    ReturnsInHanded {} Tryd.checked os 12 .any (fun w args => (Rows.fnExactExtendPerm4Spec.pre enc Tryd.prog Tryd.f12 [] false w args ∧ laidMetH Tryd.prog lawLaid w) ∧ sizedMet enc Tryd.prog Tryd.f12 (OpenSpec.ofChange Rows.fnExactExtendPerm4Spec) false w args)
      (Rows.fnExactExtendPerm4Spec.post enc Tryd.prog Tryd.f12 false true false false) := by
  refine returnsInHanded_of_change_and (C := Tryd.checked) (X := fun w _ => laidMetH Tryd.prog lawLaid w) (fun _ _ _ hh h => h.of_heap hh) own started (by kernel_rfl) Tryd.func12
    (ChangeSpec.witness_shaped (enc := enc) (C := Tryd.checked) (os := os) (X := fun w _ => laidMetH Tryd.prog lawLaid w) false (World.doorLaid Tryd.prog 38 os) #[.slice none 0 0, .slice none 0 0] 8 rfl (World.shaped_of_RefB (by kernel_rfl) (by kernel_rfl)) (by kernel_rfl) (by kernel_rfl) (by kernel_rfl) (door_met os _)) ?_
  intro W base args ds gs before hval0 hW _ _ hL _
  have hval : ∀ (j : Nat) t v, Tryd.f12.params[j]? = some t → args[j]? = some v → Value.okWide Tryd.prog W .any base t v := hval0
  have hW' := hW
  obtain ⟨p, q, hA0, hV, rfl, hfz, hnd⟩ := hW
  have hA : DataW.TrodAll enc Tryd.prog W 0 (fun _ => true) true Tryd.f12.params.toList args.toList ds p := hA0
  have hV1 : DataW.TrodVars enc Tryd.prog W (fun _ => true) ["loop.example/g00870/impl.perm4s"] gs q := hV
  have kV := hV1
  obtain ⟨gg, gt, gcs, gfuel, gd, gp, rfl, _, _, _, _, _⟩ := trodVars_one hV1
  rw [Tryd.params12] at hA hval
  obtain ⟨v0, vs0, d0, ds0, p0, q0, hargs, rfl, rfl, h0, r0⟩ := trodAll_cons hA
  obtain ⟨v1, vs1, d1, ds1, p1, q1, rfl, rfl, rfl, h1, r1⟩ := trodAll_cons r0
  obtain ⟨rfl, rfl, rfl⟩ := trodAll_nil r1
  obtain rfl : args = #[v0, v1] := by cases args; simp_all
  have k0_ := h0
  have lt0 : ∀ x ∈ p0, x.block < W.heap.size := by obtain ⟨m, hm⟩ := k0_; exact DataW.trod_lt m _ _ _ hm
  obtain ⟨A0, n0, c0, zs0, rfl, hi0, hm0⟩ := openW (hval 0 30 v0 rfl rfl) h0
  have k1_ := h1
  have lt1 : ∀ x ∈ p1, x.block < W.heap.size := by obtain ⟨m, hm⟩ := k1_; exact DataW.trod_lt m _ _ _ hm
  obtain ⟨A1, n1, c1, zs1, rfl, hi1, hm1⟩ := openW (hval 1 30 v1 rfl rfl) h1
  clear hA0 hval0
  refine (allExtendPerm4 A0 n0 c0 zs0 A1 n1 c1 zs1 W hi0 hm0 hi1 hm1 (tb_of_laid hL)).mono fun e W' ⟨he, bel⟩ => ?_
  subst he
  exact ⟨_, rfl, _, _, _, [], _, _, hW', trodAll_mk1 (shut_bool Tryd.underlying4 _), (trodAll_cons_mk (Below.trod laidOut (by kernel_rfl) (of_decide_eq_true (by kernel_rfl)) k0_ bel lt0) (trodAll_cons_mk (Below.trod laidOut (by kernel_rfl) (of_decide_eq_true (by kernel_rfl)) k1_ bel lt1) trodAll_mk0)), Below.trodVars laidOut bel (by kernel_rfl) kV, bel.frame _, fun h => by cases h⟩

theorem exactExtendPerm4_holds : Rows.FnExactExtendPerm4Said :=
  OpenClaim.holds_of_wide 12 Tryd.f12 rfl rfl rfl rfl rfl rfl rfl ⟨rfl, rfl, rfl, rfl, rfl⟩ rfl rfl rfl rfl rfl (by kernel_rfl) Tryd.func12 (by kernel_rfl)
    (of_decide_eq_true (by kernel_rfl)) (by unfold Func.isWrapper; first | (rw [if_pos (by decide +kernel)]; kernel_rfl) | (rw [if_neg (by decide +kernel)]; exact ⟨rfl, rfl⟩))
    (fun os started H enc _ => exactExtendPerm4_lifted os started H enc)

theorem exactExtendPerm4_card : Rows.FnExactExtendPerm4CardSaid :=
  Claim7.holds_tied_plain_at .later [] [.wider] true Rows.fnExactExtendPerm4Card.stood.harness false
    exactExtendPerm4_holds (fun _ h => by cases h) (by kernel_rfl) (fun _ h => by cases h) fnExactExtendPerm4_row_tie rfl ⟨rfl, rfl⟩ (by kernel_rfl) rfl
    (fun f fn hf hfn => by
      obtain rfl : f = 12 := Option.some.inj ((show Tryd.prog.funcNamed "loop.example/g00870/laws.FnExactExtendPerm4" = some 12 by kernel_rfl).symm.trans hf) |>.symm
      obtain rfl : fn = Tryd.f12 := (Option.some.inj (Tryd.func12.symm.trans hfn)).symm
      exact ⟨by kernel_rfl, fun j t ht => by
        rw [Tryd.params12] at ht
        have hm : t ∈ [30] := by simpa using Array.mem_of_getElem? ht
        have hall : ([30].all fun u => !Tryd.prog.wantsStandIn u) = true := by kernel_rfl
        exact (show Tryd.prog.wantsStandIn t = false by simpa using List.all_eq_true.1 hall t hm)⟩)
    (by kernel_rfl)
#print axioms exactExtendPerm4_card

end Go.Proofs.YtoegfldpadpohaaDoor
