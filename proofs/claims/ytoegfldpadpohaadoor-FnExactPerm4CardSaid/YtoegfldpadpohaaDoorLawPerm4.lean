/- The law FnExactPerm4 returns true for every number that is passed in and changes no memory that was there. The card. No condition but the row's own. -/
import Derived.Test.YtoegfldpadpohaaDoorPfL
import Derived.Test.YtoegfldpadpohaaDoorPfH
namespace Go.Proofs.YtoegfldpadpohaaDoor
open Go Go.ChangeShapes Go.WideShapes Go.ChangeAt Go.RowKit

def ResO (w : World) (n : Nat) (l : List Int) (e : Ending) (w' : World) : Prop := ∃ A c, e = .returned (.slice A n c) ∧ Own w' w.heap.size w'.heap.size A n c l ∧ Below w.heap.size w w'
set_option maxHeartbeats 4000000 in
theorem onePerm4 (x : Int) (n : Nat) (l : List Int) (w : World) (hn : n ≤ 4)
    (SP : Hid (∀ W, Calls Tryd.prog 25 #[.int .i64 x] W (ResO W n l)))
    (IM : Hid (∀ W, Below w.heap.size w W → Calls Tryd.prog 21 #[.int .i64 x] W (ResO W n l))) :
    Calls Tryd.prog 5 #[.int .i64 x] w fun e w' => e = .returned (.bool true) ∧ Below w.heap.size w w' := by
  go_enter Tryd.func5, Tryd.ntmps5
  go_wp2_with fail
  refine (SP.out _).mono ?_
  rintro e w1 ⟨A0, c0, rfl, ho0, hb0⟩
  have I0 := Lib.hid ho0.ints
  have D1 := Lib.hid hb0
  have z1 := hb0.size
  clear ho0 hb0
  go_wp2_with fail
  refine (IM.out _ D1.out).mono ?_
  rintro e w2 ⟨A1, c1, rfl, ho1, hb1⟩
  have O1 := Lib.hid ho1
  have I02 := Lib.hid (I0.out.below hb1)
  have D2 := Lib.hid (D1.out.trans (hb1.mono z1))
  have z2 := hb1.size
  clear ho1 hb1 I0
  go_wp2_with fail
  refine (eqInts_any A1 A0 n c1 c0 l _ _ _ O1.out.ints I02.out (by omega)).mono ?_
  rintro e w3 ⟨rfl, q3, rfl⟩
  go_wp2_with fail
  refine (markInts_any A1 n c1 1 l w1.heap.size w2.heap.size (w2.drewN q3) (O1.out.below (Go.Joins.below_draws w2.heap.size w2 q3) (Nat.le_refl _)) (by omega) (by omega) (by omega)).mono ?_
  rintro e w4 ⟨rfl, ho4, hk4⟩
  have O4 := Lib.hid ho4
  have K4 := Lib.hid (Kept.below (B := w1.heap.size) hk4 (Nat.le_refl _) z2)
  have I04 := Lib.hid (I02.out.below (Below.trans (Below.mono (Go.Joins.below_draws w2.heap.size w2 q3) z2) K4.out))
  have D4 := Lib.hid (D2.out.trans ((Below.mono (Below.trans (Below.mono (Go.Joins.below_draws w2.heap.size w2 q3) z2) K4.out)) z1))
  have z4 : w2.heap.size ≤ w4.heap.size := hk4.size
  clear ho4 hk4
  go_wp2_with fail
  refine (heldInts_any A1 n c1 1 _ _ O4.out.ints (by omega) (by omega) (by omega)).mono ?_
  rintro e w5 ⟨rfl, rfl⟩
  go_wp2_with fail
  refine (IM.out _ D4.out).mono ?_
  rintro e w6 ⟨A2, c2, rfl, ho2, hb2⟩
  have I2 := Lib.hid ho2.ints
  have I06 := Lib.hid (I04.out.below (hb2.mono (by omega)))
  have O6 := Lib.hid (O4.out.below hb2 z4)
  have D6 := Lib.hid (D4.out.trans (hb2.mono (by omega)))
  clear ho2 hb2
  go_wp2_with fail
  refine (eqInts_any A2 A0 n c2 c0 l _ _ _ I2.out I06.out (by omega)).mono ?_
  rintro e w7 ⟨rfl, q7, rfl⟩
  go_wp2_with fail
  refine (heldInts_any A1 n c1 1 _ _ (O6.out.ints.drewN q7) (by omega) (by omega) (by omega)).mono ?_
  rintro e w8 ⟨rfl, rfl⟩
  go_wp2
  go_ret
  exact ⟨rfl, D6.out.trans (Go.Joins.below_draws _ _ _)⟩

theorem allPerm4 (x : Int) (w : World) (_hw : (Lit.int .i64 x).wf = true) (ht : Tb w) :
    Calls Tryd.prog 5 #[.int .i64 x] w fun e w' => e = .returned (.bool true) ∧ Below w.heap.size w w' := by
  have h0 := ht.pos
  by_cases hx : 0 ≤ x ∧ x < 24
  · obtain ⟨p, rfl⟩ : ∃ p : Nat, x = p := ⟨x.toNat, by omega⟩
    have hp : p < 24 := by omega
    exact onePerm4 _ 4 (P4.im p) w (by omega) (Lib.hid fun W => perm4_spec p W hp) (Lib.hid fun W hb => perm4_impl p W hp (ht.below hb h0))
  · exact onePerm4 _ 0 [] w (by omega) (Lib.hid fun W => (perm4_spec_no x W hx).mono fun e w' ⟨h1, h2⟩ => ⟨none, 0, h1, Own.none_ _ _ _, by subst h2; exact Below.refl _ _⟩)
      (Lib.hid fun W _ => (perm4_impl_no x W hx).mono fun e w' ⟨h1, h2⟩ => ⟨none, 0, h1, Own.none_ _ _ _, by subst h2; exact Below.refl _ _⟩)

set_option maxRecDepth 100000 in
theorem exactPerm4_lifted (os : Os) (started : os.Started) (H : Type) (enc : TypeId × Value → H) :
    ReturnsInHanded {} Tryd.checked os 5 .any (fun w args => (Rows.fnExactPerm4Spec.pre enc Tryd.prog Tryd.f5 [] false w args ∧ laidMetH Tryd.prog lawLaid w) ∧ sizedMet enc Tryd.prog Tryd.f5 (OpenSpec.ofChange Rows.fnExactPerm4Spec) false w args)
      (Rows.fnExactPerm4Spec.post enc Tryd.prog Tryd.f5 false true false false) := by
  refine returnsInHanded_of_change_and (C := Tryd.checked) (X := fun w _ => laidMetH Tryd.prog lawLaid w) (fun _ _ _ hh h => h.of_heap hh) own started (by kernel_rfl) Tryd.func5
    (ChangeSpec.witness_shaped (enc := enc) (C := Tryd.checked) (os := os) (X := fun w _ => laidMetH Tryd.prog lawLaid w) false (World.doorLaid Tryd.prog 38 os) #[.int .i64 0] 8 rfl (World.shaped_of_RefB (by kernel_rfl) (by kernel_rfl)) (by kernel_rfl) (by kernel_rfl) (by kernel_rfl) (door_met os _)) ?_
  intro W base args ds gs before hval0 hW _ _ hL _
  have hval : ∀ (j : Nat) t v, Tryd.f5.params[j]? = some t → args[j]? = some v → Value.okWide Tryd.prog W .any base t v := hval0
  have hW' := hW
  obtain ⟨p, q, hA0, hV, rfl, hfz, hnd⟩ := hW
  have hA : DataW.TrodAll enc Tryd.prog W 0 (fun _ => true) true Tryd.f5.params.toList args.toList ds p := hA0
  have hV1 : DataW.TrodVars enc Tryd.prog W (fun _ => true) ["loop.example/g00870/impl.perm4s"] gs q := hV
  have kV := hV1
  obtain ⟨gg, gt, gcs, gfuel, gd, gp, rfl, _, _, _, _, _⟩ := trodVars_one hV1
  rw [Tryd.params5] at hA hval
  obtain ⟨v0, vs0, d0, ds0, p0, q0, hargs, rfl, rfl, h0, r0⟩ := trodAll_cons hA
  obtain ⟨rfl, rfl, rfl⟩ := trodAll_nil r0
  obtain rfl : args = #[v0] := by cases args; simp_all
  obtain ⟨x0, rfl, rfl, rfl, wx0⟩ := open_int Tryd.underlying2 (hval 0 2 v0 rfl rfl) h0
  clear hA0 hval0
  refine (allPerm4 x0 W wx0 (tb_of_laid hL)).mono fun e W' ⟨he, bel⟩ => ?_
  subst he
  exact ⟨_, rfl, _, _, _, [], _, _, hW', trodAll_mk1 (shut_bool Tryd.underlying4 _), (trodAll_cons_mk (shut_int Tryd.underlying2 wx0) trodAll_mk0), Below.trodVars laidOut bel (by kernel_rfl) kV, bel.frame _, fun h => by cases h⟩

theorem exactPerm4_holds : Rows.FnExactPerm4Said :=
  OpenClaim.holds_of_wide 5 Tryd.f5 rfl rfl rfl rfl rfl rfl rfl ⟨rfl, rfl, rfl, rfl, rfl⟩ rfl rfl rfl rfl rfl (by kernel_rfl) Tryd.func5 (by kernel_rfl)
    (of_decide_eq_true (by kernel_rfl)) (by unfold Func.isWrapper; first | (rw [if_pos (by decide +kernel)]; kernel_rfl) | (rw [if_neg (by decide +kernel)]; exact ⟨rfl, rfl⟩))
    (fun os started H enc _ => exactPerm4_lifted os started H enc)

theorem exactPerm4_card : Rows.FnExactPerm4CardSaid :=
  Claim7.holds_tied_plain_at .later [] [.wider] true Rows.fnExactPerm4Card.stood.harness false
    exactPerm4_holds (fun _ h => by cases h) (by kernel_rfl) (fun _ h => by cases h) fnExactPerm4_row_tie rfl ⟨rfl, rfl⟩ (by kernel_rfl) rfl
    (fun f fn hf hfn => by
      obtain rfl : f = 5 := Option.some.inj ((show Tryd.prog.funcNamed "loop.example/g00870/laws.FnExactPerm4" = some 5 by kernel_rfl).symm.trans hf) |>.symm
      obtain rfl : fn = Tryd.f5 := (Option.some.inj (Tryd.func5.symm.trans hfn)).symm
      exact ⟨by kernel_rfl, fun j t ht => by
        rw [Tryd.params5] at ht
        have hm : t ∈ [2] := by simpa using Array.mem_of_getElem? ht
        have hall : ([2].all fun u => !Tryd.prog.wantsStandIn u) = true := by kernel_rfl
        exact (show Tryd.prog.wantsStandIn t = false by simpa using List.all_eq_true.1 hall t hm)⟩)
    (by kernel_rfl)
#print axioms exactPerm4_card

end Go.Proofs.YtoegfldpadpohaaDoor
