/- The law FnExactBoundaryClasses returns true for every triangulation that is passed in and changes no memory that was there. The card. No condition but the row's own. -/
import Derived.Test.YtjendlfophdfeaaDoorG2c
import Derived.Test.YtjendlfophdfeaaDoorFactBoundaryClasses
import Derived.Test.YtjendlfophdfeaaDoorCrdBoundaryClasses
import Derived.Test.YtjendlfophdfeaaDoorFcD
import Derived.Deep.RegionHeld3
import Derived.Outline
import Derived.Deep.Cut
namespace Go.Proofs.YtjendlfophdfeaaDoor
open Go Go.ChangeShapes Go.WideShapes Go.ChangeAt Go.RowKit


set_option maxHeartbeats 2000000 in
theorem bigBoundaryClasses (A : Option Addr) (c : Nat) (rs : List Fc.Rw) (w : World) (h : Fc.RdS w w.heap.size A rs) (hm : rs.length ≤ maxLen) (hn : ¬ rs.length + Fc.cnt rs ≤ 1048576) :
    Calls Tryd.prog 13 #[.agg #[.slice A rs.length c]] w fun e w' => e = .returned (.bool true) ∧ Below w.heap.size w w' := by
  have H := Lib.hid h
  clear h
  go_enter Tryd.func13, Tryd.ntmps13
  go_wp2_with fail
  refine (Fc.szT_any A c rs 1048576 _ (H.out.into (al1 _ _)) hm (by omega) (by omega)).mono ?_
  rintro e w' ⟨rfl, hb⟩
  rw [if_pos (by omega)]
  have D := Lib.hid (on1 _ hb)
  clear hb
  go_wp2
  go_ret
  exact ⟨rfl, D.out⟩
theorem lst_small (T : List (List Int)) : (Sk.bcV T).length ≤ 1048576 ∧ (Sk.bcE T).length ≤ 1048576 ∧ (Sk.bcF T).length ≤ 1048576 := by
  by_cases h : Tr.Is T
  · obtain ⟨a, b, d⟩ := Sk.bc_yes h
    have h8 := h.1
    obtain ⟨⟨_, l1⟩, ⟨_, l2⟩, _, l3⟩ := Sk.FT_mk h
    rw [a, b, d]
    unfold Sk.bcP
    refine ⟨?_, ?_, ?_⟩
    · have h1 := Sk.lst_len (fun c => Sk.nB (Sk.FT T).v (Sk.FT T).v.m.length ((Sk.rtl (Sk.FT T).v.m (Sk.FT T).v.m.length).getD c 0)) (Sk.rk (Sk.FT T).v.m (Sk.FT T).v.m.length)
      have h2 := Sk.rk_le (Sk.FT T).v.m (Sk.FT T).v.m.length
      omega
    · have h1 := Sk.lst_len (fun c => Sk.nB (Sk.FT T).e (Sk.FT T).e.m.length ((Sk.rtl (Sk.FT T).e.m (Sk.FT T).e.m.length).getD c 0)) (Sk.rk (Sk.FT T).e.m (Sk.FT T).e.m.length)
      have h2 := Sk.rk_le (Sk.FT T).e.m (Sk.FT T).e.m.length
      omega
    · have h1 := Sk.lst_len (fun c => Sk.nB (Sk.FT T).f (Sk.FT T).f.m.length ((Sk.rtl (Sk.FT T).f.m (Sk.FT T).f.m.length).getD c 0)) (Sk.rk (Sk.FT T).f.m (Sk.FT T).f.m.length)
      have h2 := Sk.rk_le (Sk.FT T).f.m (Sk.FT T).f.m.length
      omega
  · obtain ⟨a, b, d⟩ := Sk.bc_no h
    rw [a, b, d]
    simp
theorem allBoundaryClasses (A : Option Addr) (c : Nat) (rs : List Fc.Rw) (w : World) (h : Fc.RdS w w.heap.size A rs) (hm : rs.length ≤ maxLen) (ht : Sk.Ws w) :
    Calls Tryd.prog 13 #[.agg #[.slice A rs.length c]] w fun e w' => e = .returned (.bool true) ∧ Below w.heap.size w w' := by
  by_cases hn : rs.length + Fc.cnt rs ≤ 1048576
  case neg => exact bigBoundaryClasses A c rs w h hm hn
  · exact exactBoundaryClasses A c rs (Sk.bcV (Fc.vals rs)) (Sk.bcE (Fc.vals rs)) (Sk.bcF (Fc.vals rs)) w h hn (lst_small _)
      (fun W A' c' us h2 hv2 _ => by have := Sk.bounds_spec A' us.length c' (Fc.vals us) W h2.rdt (by rw [Fc.vals_same hv2]; omega); rw [hv2] at this; exact this)
      (fun W A' c' us h2 hv2 hb => by have := Sk.bounds_impl A' us.length c' (Fc.vals us) W h2.rdt (ht.below hb (Nat.le_refl _)) (by rw [Fc.vals_same hv2]; omega); rw [hv2] at this; exact this)

set_option maxRecDepth 100000 in
theorem exactBoundaryClasses_lifted (os : Os) (started : os.Started) (H : Type) (enc : TypeId × Value → H) :
    ReturnsInHanded {} Tryd.checked os 13 .any (fun w args => (Rows.fnExactBoundaryClassesSpec.pre enc Tryd.prog Tryd.f13 [] false w args ∧ laidMetH Tryd.prog Sk.lawLaid w) ∧ sizedMet enc Tryd.prog Tryd.f13 (OpenSpec.ofChange Rows.fnExactBoundaryClassesSpec) false w args)
      (Rows.fnExactBoundaryClassesSpec.post enc Tryd.prog Tryd.f13 false true false false) := by
  refine returnsInHanded_of_change_and (C := Tryd.checked) (X := fun w _ => laidMetH Tryd.prog Sk.lawLaid w) (fun _ _ _ hh h => h.of_heap hh) own started (by kernel_rfl) Tryd.func13
    (ChangeSpec.witness_shaped (enc := enc) (C := Tryd.checked) (os := os) (X := fun w _ => laidMetH Tryd.prog Sk.lawLaid w) false (World.doorLaid Tryd.prog Sk.doorN os) #[.agg #[.slice none 0 0]] 8 rfl (World.shaped_of_RefB (by kernel_rfl) (by kernel_rfl)) (by kernel_rfl) (by kernel_rfl) (by kernel_rfl) (Sk.door_met os _)) ?_
  intro W base args ds gs before hval0 hW _ _ hL _
  have hval : ∀ (j : Nat) t v, Tryd.f13.params[j]? = some t → args[j]? = some v → Value.okWide Tryd.prog W .any base t v := hval0
  have hW' := hW
  obtain ⟨p, q, hA0, hV, rfl, hfz, hnd⟩ := hW
  have hA : DataW.TrodAll enc Tryd.prog W 0 (fun _ => true) true Tryd.f13.params.toList args.toList ds p := hA0
  have hV1 : DataW.TrodVars enc Tryd.prog W (fun _ => true) ["loop.example/g00870/impl.boundaryFace", "loop.example/g00870/impl.perm4s", "loop.example/g00870/impl.edgeEnds", "loop.example/g00870/impl.edgeNumbers"] gs q := hV
  have kV := hV1
  obtain ⟨ga, gb, gc, gd, rfl⟩ := Sk.vars_four hV1
  rw [Tryd.params13] at hA hval
  obtain ⟨v0, vs0, d0, ds0, p0, q0, hargs, rfl, rfl, h0, r0⟩ := trodAll_cons hA
  obtain ⟨rfl, rfl, rfl⟩ := trodAll_nil r0
  obtain rfl : args = #[v0] := by cases args; simp_all
  have k0_ := h0
  have lt0 : ∀ x ∈ p0, x.block < W.heap.size := by obtain ⟨m, hm⟩ := k0_; exact DataW.trod_lt m _ _ _ hm
  obtain ⟨A0, c0, rs0, rfl, hi0, hm0⟩ := Fc.openTri (hval 0 24 v0 rfl rfl) h0
  clear hA0 hval0
  refine (allBoundaryClasses A0 c0 rs0 W hi0 hm0 (Sk.ws_laid hL)).mono fun e W' ⟨he, bel⟩ => ?_
  subst he
  exact ⟨_, rfl, _, _, _, [], _, _, hW', trodAll_mk1 (shut_bool Tryd.underlying4 _), (trodAll_cons_mk (Below.trod laidOut (by kernel_rfl) (of_decide_eq_true (by kernel_rfl)) k0_ bel lt0) trodAll_mk0), Below.trodVars laidOut bel (by kernel_rfl) kV, bel.frame _, fun h => by cases h⟩

theorem exactBoundaryClasses_holds : Rows.FnExactBoundaryClassesSaid :=
  OpenClaim.holds_of_wide 13 Tryd.f13 rfl rfl rfl rfl rfl rfl rfl ⟨rfl, rfl, rfl, rfl, rfl⟩ rfl rfl rfl rfl rfl exactBoundaryClasses_named Tryd.func13 exactBoundaryClasses_facts
    (of_decide_eq_true (by kernel_rfl)) (by unfold Func.isWrapper; first | (rw [if_pos (by decide +kernel)]; kernel_rfl) | (rw [if_neg (by decide +kernel)]; exact ⟨rfl, rfl⟩))
    (fun os started H enc _ => exactBoundaryClasses_lifted os started H enc)

theorem exactBoundaryClasses_card : Rows.FnExactBoundaryClassesCardSaid :=
  Claim7.holds_tied_plain_at .later [] [.wider, .data, .data, .data] true Rows.fnExactBoundaryClassesCard.stood.harness Rows.fnExactBoundaryClassesCard.stood.looks
    exactBoundaryClasses_holds (fun _ h => by cases h) exactBoundaryClasses_wf (fun _ h => by cases h) fnExactBoundaryClasses_row_tie rfl ⟨rfl, rfl⟩ exactBoundaryClasses_main rfl
    (fun f fn hf hfn => by
      obtain rfl : f = 13 := Option.some.inj (exactBoundaryClasses_named.symm.trans hf) |>.symm
      obtain rfl : fn = Tryd.f13 := (Option.some.inj (Tryd.func13.symm.trans hfn)).symm
      exact ⟨exactBoundaryClasses_looks, fun j t ht => by
        rw [Tryd.params13] at ht
        have hm : t ∈ [24] := by simpa using Array.mem_of_getElem? ht
        have hall : ([24].all fun u => !Tryd.prog.wantsStandIn u) = true := by kernel_rfl
        exact (show Tryd.prog.wantsStandIn t = false by simpa using List.all_eq_true.1 hall t hm)⟩)
    exactBoundaryClasses_goes
#print axioms exactBoundaryClasses_card

end Go.Proofs.YtjendlfophdfeaaDoor
