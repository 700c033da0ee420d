/- The law FnExactIndexOfPerm4 returns true for every list that is passed in and changes no memory that was there. The card. No condition but the row's own. -/
import Derived.Test.YtoegfldpadpohaaDoorPfL
import Derived.Test.YtoegfldpadpohaaDoorPfR
namespace Go.Proofs.YtoegfldpadpohaaDoor
open Go Go.ChangeShapes Go.WideShapes Go.ChangeAt Go.RowKit

set_option maxHeartbeats 4000000 in
theorem allIndexOfPerm4 (A : Option Addr) (n c : Nat) (zs : List Int) (w : World) (h : Ints w w.heap.size A n zs) (hm : n ≤ maxLen) (ht : Tb w) :
    Calls Tryd.prog 6 #[.slice A n c] w fun e w' => e = .returned (.bool true) ∧ Below w.heap.size w w' := by
  have HT := Lib.hid ht
  have h0 := ht.pos
  have H := Lib.hid h
  clear ht h
  unfold maxLen at hm
  by_cases hn : n ≤ 1048576
  case neg =>
    have t0 : decide ((1048576 : Int) < (n : Int)) = true := by simp; omega
    have i0 : (1048576 : Int) < (n : Int) := by omega
    go_enter Tryd.func6, Tryd.ntmps6
    go_wp2
    go_ret
    exact ⟨rfl, Below.refl _ _⟩
  have t0 : decide ((1048576 : Int) < (n : Int)) = false := by simp; omega
  have i0 : ¬ (1048576 : Int) < (n : Int) := by omega
  obtain ⟨r, hr⟩ : ∃ r, P4.ixr zs = r := ⟨_, rfl⟩
  have SP := Lib.hid (fun A n c W h hn => indexOf_spec A n c zs W h hn)
  have IM := Lib.hid (fun A n c W h hn ht => indexOf_impl A n c zs W h hn ht)
  rw [hr] at SP IM
  clear hr
  go_enter Tryd.func6, Tryd.ntmps6
  go_wp2_with fail
  refine (toInts_any A n c zs w H.out hn).mono ?_
  rintro e w1 ⟨rfl, hk1, hb1⟩
  have K1 := Lib.hid (hk1.ints H.out.1)
  have D1 := Lib.hid hb1
  have z1 := hb1.size
  clear hk1 hb1
  go_wp2_with fail
  refine (SP.out _ _ _ _ K1.out hn).mono ?_
  rintro e w2 ⟨rfl, hb2⟩
  have D2 := Lib.hid (D1.out.trans (hb2.mono z1))
  have z2 := hb2.size
  clear hb2
  go_wp2_with fail
  refine (toInts_any A n c zs w2 ((H.out.below D2.out).more (by omega)) hn).mono ?_
  rintro e w3 ⟨rfl, hk3, hb3⟩
  have K3 := Lib.hid (hk3.ints H.out.1)
  have D3 := Lib.hid (D2.out.trans (hb3.mono (by omega)))
  have z3 := hb3.size
  clear hk3 hb3
  go_wp2_with fail
  refine (IM.out _ _ _ _ K3.out hn (HT.out.below D3.out h0)).mono ?_
  rintro e w4 ⟨rfl, hb4⟩
  have K4 := Lib.hid ((K3.out.below hb4).more hb4.size)
  have D4 := Lib.hid (D3.out.trans (hb4.mono (by omega)))
  have z4 := hb4.size
  clear hb4 K3 K1
  have t1 : (r != r) = false := by simp
  go_wp2_with fail
  refine (toInts_any A n c zs w4 ((H.out.below D4.out).more (by omega)) hn).mono ?_
  rintro e w5 ⟨rfl, hk5, hb5⟩
  have K5 := Lib.hid (hk5.ints H.out.1)
  have K45 := Lib.hid (K4.out.below hb5)
  have D5 := Lib.hid (D4.out.trans (hb5.mono (by omega)))
  clear hk5 hb5
  go_wp2_with fail
  refine (eqInts_any _ _ n n n zs _ _ w5 K45.out K5.out hn).mono ?_
  rintro e w6 ⟨rfl, q6, rfl⟩
  go_wp2
  go_ret
  exact ⟨rfl, D5.out.trans (Go.Joins.below_draws _ _ _)⟩

set_option maxRecDepth 100000 in
theorem exactIndexOfPerm4_lifted (os : Os) (started : os.Started) (H : Type) (enc : TypeId × Value → H) :
    ReturnsInHanded {} Tryd.checked os 6 .any (fun w args => (Rows.fnExactIndexOfPerm4Spec.pre enc Tryd.prog Tryd.f6 [] false w args ∧ laidMetH Tryd.prog lawLaid w) ∧ sizedMet enc Tryd.prog Tryd.f6 (OpenSpec.ofChange Rows.fnExactIndexOfPerm4Spec) false w args)
      (Rows.fnExactIndexOfPerm4Spec.post enc Tryd.prog Tryd.f6 false true false false) := by
  refine returnsInHanded_of_change_and (C := Tryd.checked) (X := fun w _ => laidMetH Tryd.prog lawLaid w) (fun _ _ _ hh h => h.of_heap hh) own started (by kernel_rfl) Tryd.func6
    (ChangeSpec.witness_shaped (enc := enc) (C := Tryd.checked) (os := os) (X := fun w _ => laidMetH Tryd.prog lawLaid w) false (World.doorLaid Tryd.prog 38 os) #[.slice none 0 0] 8 rfl (World.shaped_of_RefB (by kernel_rfl) (by kernel_rfl)) (by kernel_rfl) (by kernel_rfl) (by kernel_rfl) (door_met os _)) ?_
  intro W base args ds gs before hval0 hW _ _ hL _
  have hval : ∀ (j : Nat) t v, Tryd.f6.params[j]? = some t → args[j]? = some v → Value.okWide Tryd.prog W .any base t v := hval0
  have hW' := hW
  obtain ⟨p, q, hA0, hV, rfl, hfz, hnd⟩ := hW
  have hA : DataW.TrodAll enc Tryd.prog W 0 (fun _ => true) true Tryd.f6.params.toList args.toList ds p := hA0
  have hV1 : DataW.TrodVars enc Tryd.prog W (fun _ => true) ["loop.example/g00870/impl.perm4s"] gs q := hV
  have kV := hV1
  obtain ⟨gg, gt, gcs, gfuel, gd, gp, rfl, _, _, _, _, _⟩ := trodVars_one hV1
  rw [Tryd.params6] at hA hval
  obtain ⟨v0, vs0, d0, ds0, p0, q0, hargs, rfl, rfl, h0, r0⟩ := trodAll_cons hA
  obtain ⟨rfl, rfl, rfl⟩ := trodAll_nil r0
  obtain rfl : args = #[v0] := by cases args; simp_all
  have k0_ := h0
  have lt0 : ∀ x ∈ p0, x.block < W.heap.size := by obtain ⟨m, hm⟩ := k0_; exact DataW.trod_lt m _ _ _ hm
  obtain ⟨A0, n0, c0, zs0, rfl, hi0, hm0⟩ := openW (hval 0 30 v0 rfl rfl) h0
  clear hA0 hval0
  refine (allIndexOfPerm4 A0 n0 c0 zs0 W hi0 hm0 (tb_of_laid hL)).mono fun e W' ⟨he, bel⟩ => ?_
  subst he
  exact ⟨_, rfl, _, _, _, [], _, _, hW', trodAll_mk1 (shut_bool Tryd.underlying4 _), (trodAll_cons_mk (Below.trod laidOut (by kernel_rfl) (of_decide_eq_true (by kernel_rfl)) k0_ bel lt0) trodAll_mk0), Below.trodVars laidOut bel (by kernel_rfl) kV, bel.frame _, fun h => by cases h⟩

theorem exactIndexOfPerm4_holds : Rows.FnExactIndexOfPerm4Said :=
  OpenClaim.holds_of_wide 6 Tryd.f6 rfl rfl rfl rfl rfl rfl rfl ⟨rfl, rfl, rfl, rfl, rfl⟩ rfl rfl rfl rfl rfl (by kernel_rfl) Tryd.func6 (by kernel_rfl)
    (of_decide_eq_true (by kernel_rfl)) (by unfold Func.isWrapper; first | (rw [if_pos (by decide +kernel)]; kernel_rfl) | (rw [if_neg (by decide +kernel)]; exact ⟨rfl, rfl⟩))
    (fun os started H enc _ => exactIndexOfPerm4_lifted os started H enc)

theorem exactIndexOfPerm4_card : Rows.FnExactIndexOfPerm4CardSaid :=
  Claim7.holds_tied_plain_at .later [] [.wider] true Rows.fnExactIndexOfPerm4Card.stood.harness false
    exactIndexOfPerm4_holds (fun _ h => by cases h) (by kernel_rfl) (fun _ h => by cases h) fnExactIndexOfPerm4_row_tie rfl ⟨rfl, rfl⟩ (by kernel_rfl) rfl
    (fun f fn hf hfn => by
      obtain rfl : f = 6 := Option.some.inj ((show Tryd.prog.funcNamed "loop.example/g00870/laws.FnExactIndexOfPerm4" = some 6 by kernel_rfl).symm.trans hf) |>.symm
      obtain rfl : fn = Tryd.f6 := (Option.some.inj (Tryd.func6.symm.trans hfn)).symm
      exact ⟨by kernel_rfl, fun j t ht => by
        rw [Tryd.params6] at ht
        have hm : t ∈ [30] := by simpa using Array.mem_of_getElem? ht
        have hall : ([30].all fun u => !Tryd.prog.wantsStandIn u) = true := by kernel_rfl
        exact (show Tryd.prog.wantsStandIn t = false by simpa using List.all_eq_true.1 hall t hm)⟩)
    (by kernel_rfl)
#print axioms exactIndexOfPerm4_card

end Go.Proofs.YtoegfldpadpohaaDoor
