/- The law FnExactTetComponents returns true for every triangulation that is passed in and changes no memory that was there. The card. No condition but the row's own. -/
import Derived.Test.YtajbahfbldmckaaDoorFcM5
import Derived.Test.YtajbahfbldmckaaDoorFactTetComponents
import Derived.Test.YtajbahfbldmckaaDoorCrdTetComponents
import Derived.Test.YtajbahfbldmckaaDoorFcD
import Derived.Deep.RegionHeld3
import Derived.Outline
import Derived.Deep.Cut
namespace Go.Proofs.YtajbahfbldmckaaDoor
open Go Go.ChangeShapes Go.WideShapes Go.ChangeAt Go.RowKit


set_option maxHeartbeats 2000000 in
theorem bigTetComponents (A : Option Addr) (c : Nat) (rs : List Fc.Rw) (w : World) (h : Fc.RdS w w.heap.size A rs) (hm : rs.length ≤ maxLen) (hn : ¬ rs.length + Fc.cnt rs ≤ 1048576) :
    Calls Tryd.prog 6 #[.agg #[.slice A rs.length c]] w fun e w' => e = .returned (.bool true) ∧ Below w.heap.size w w' := by
  have H := Lib.hid h
  clear h
  go_enter Tryd.func6, Tryd.ntmps6
  go_wp2_with fail
  refine (Fc.szT_any A c rs 1048576 _ (H.out.into (al1 _ _)) hm (by omega) (by omega)).mono ?_
  rintro e w' ⟨rfl, hb⟩
  rw [if_pos (by omega)]
  have D := Lib.hid (on1 _ hb)
  clear hb
  go_wp2
  go_ret
  exact ⟨rfl, D.out⟩
theorem allTetComponents (A : Option Addr) (c : Nat) (rs : List Fc.Rw) (w : World) (h : Fc.RdS w w.heap.size A rs) (hm : rs.length ≤ maxLen) (ht : Fc.Vs w) :
    Calls Tryd.prog 6 #[.agg #[.slice A rs.length c]] w fun e w' => e = .returned (.bool true) ∧ Below w.heap.size w w' := by
  by_cases hn : rs.length + Fc.cnt rs ≤ 1048576
  case neg => exact bigTetComponents A c rs w h hm hn
  · have h0 := ht.pos
    exact exactTetComponents A c rs (Tc.cmp (Fc.vals rs)) w h hn (by have := Tc.cmp_len (Fc.vals rs); omega)
      (fun W A' c' us h2 hv2 _ => by have := Fc.comps_spec A' us.length c' (Fc.vals us) W h2.rdt (by rw [Fc.vals_same hv2]; omega); rw [hv2] at this; exact this)
      (fun W A' c' us h2 hv2 hb => by have := Fc.comps_impl A' us.length c' (Fc.vals us) W h2.rdt (ht.below hb h0.1) (by rw [Fc.vals_same hv2]; omega); rw [hv2] at this; exact this)

set_option maxRecDepth 100000 in
theorem exactTetComponents_lifted (os : Os) (started : os.Started) (H : Type) (enc : TypeId × Value → H) :
    ReturnsInHanded {} Tryd.checked os 6 .any (fun w args => (Rows.fnExactTetComponentsSpec.pre enc Tryd.prog Tryd.f6 [] false w args ∧ laidMetH Tryd.prog Fc.lawLaid w) ∧ sizedMet enc Tryd.prog Tryd.f6 (OpenSpec.ofChange Rows.fnExactTetComponentsSpec) false w args)
      (Rows.fnExactTetComponentsSpec.post enc Tryd.prog Tryd.f6 false true false false) := by
  refine returnsInHanded_of_change_and (C := Tryd.checked) (X := fun w _ => laidMetH Tryd.prog Fc.lawLaid w) (fun _ _ _ hh h => h.of_heap hh) own started (by kernel_rfl) Tryd.func6
    (ChangeSpec.witness_shaped (enc := enc) (C := Tryd.checked) (os := os) (X := fun w _ => laidMetH Tryd.prog Fc.lawLaid w) false (World.doorLaid Tryd.prog Fc.doorN os) #[.agg #[.slice none 0 0]] 8 rfl (World.shaped_of_RefB (by kernel_rfl) (by kernel_rfl)) (by kernel_rfl) (by kernel_rfl) (by kernel_rfl) (Fc.door_met os _)) ?_
  intro W base args ds gs before hval0 hW _ _ hL _
  have hval : ∀ (j : Nat) t v, Tryd.f6.params[j]? = some t → args[j]? = some v → Value.okWide Tryd.prog W .any base t v := hval0
  have hW' := hW
  obtain ⟨p, q, hA0, hV, rfl, hfz, hnd⟩ := hW
  have hA : DataW.TrodAll enc Tryd.prog W 0 (fun _ => true) true Tryd.f6.params.toList args.toList ds p := hA0
  have hV1 : DataW.TrodVars enc Tryd.prog W (fun _ => true) ["loop.example/g00870/impl.boundaryFace", "loop.example/g00870/impl.perm4s"] gs q := hV
  have kV := hV1
  obtain ⟨gg, gt, gcs, gfuel, gd, gp, gg2, gt2, gcs2, gfuel2, gd2, gp2, rfl, _, _, _, _, _⟩ := trodVars_two hV1
  rw [Tryd.params6] at hA hval
  obtain ⟨v0, vs0, d0, ds0, p0, q0, hargs, rfl, rfl, h0, r0⟩ := trodAll_cons hA
  obtain ⟨rfl, rfl, rfl⟩ := trodAll_nil r0
  obtain rfl : args = #[v0] := by cases args; simp_all
  have k0_ := h0
  have lt0 : ∀ x ∈ p0, x.block < W.heap.size := by obtain ⟨m, hm⟩ := k0_; exact DataW.trod_lt m _ _ _ hm
  obtain ⟨A0, c0, rs0, rfl, hi0, hm0⟩ := Fc.openTri (hval 0 24 v0 rfl rfl) h0
  clear hA0 hval0
  refine (allTetComponents A0 c0 rs0 W hi0 hm0 (Fc.vs_of_laid hL)).mono fun e W' ⟨he, bel⟩ => ?_
  subst he
  exact ⟨_, rfl, _, _, _, [], _, _, hW', trodAll_mk1 (shut_bool Tryd.underlying4 _), (trodAll_cons_mk (Below.trod laidOut (by kernel_rfl) (of_decide_eq_true (by kernel_rfl)) k0_ bel lt0) trodAll_mk0), Below.trodVars laidOut bel (by kernel_rfl) kV, bel.frame _, fun h => by cases h⟩

theorem exactTetComponents_holds : Rows.FnExactTetComponentsSaid :=
  OpenClaim.holds_of_wide 6 Tryd.f6 rfl rfl rfl rfl rfl rfl rfl ⟨rfl, rfl, rfl, rfl, rfl⟩ rfl rfl rfl rfl rfl exactTetComponents_named Tryd.func6 exactTetComponents_facts
    (of_decide_eq_true (by kernel_rfl)) (by unfold Func.isWrapper; first | (rw [if_pos (by decide +kernel)]; kernel_rfl) | (rw [if_neg (by decide +kernel)]; exact ⟨rfl, rfl⟩))
    (fun os started H enc _ => exactTetComponents_lifted os started H enc)

theorem exactTetComponents_card : Rows.FnExactTetComponentsCardSaid :=
  Claim7.holds_tied_plain_at .later [] [.wider, .data] true Rows.fnExactTetComponentsCard.stood.harness Rows.fnExactTetComponentsCard.stood.looks
    exactTetComponents_holds (fun _ h => by cases h) exactTetComponents_wf (fun _ h => by cases h) fnExactTetComponents_row_tie rfl ⟨rfl, rfl⟩ exactTetComponents_main rfl
    (fun f fn hf hfn => by
      obtain rfl : f = 6 := Option.some.inj (exactTetComponents_named.symm.trans hf) |>.symm
      obtain rfl : fn = Tryd.f6 := (Option.some.inj (Tryd.func6.symm.trans hfn)).symm
      exact ⟨exactTetComponents_looks, fun j t ht => by
        rw [Tryd.params6] at ht
        have hm : t ∈ [24] := by simpa using Array.mem_of_getElem? ht
        have hall : ([24].all fun u => !Tryd.prog.wantsStandIn u) = true := by kernel_rfl
        exact (show Tryd.prog.wantsStandIn t = false by simpa using List.all_eq_true.1 hall t hm)⟩)
    exactTetComponents_goes
#print axioms exactTetComponents_card

end Go.Proofs.YtajbahfbldmckaaDoor
