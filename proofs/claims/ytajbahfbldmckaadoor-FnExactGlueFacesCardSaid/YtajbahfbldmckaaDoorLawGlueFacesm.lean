/- The law FnExactGlueFaces returns true for every triangulation and all numbers that is passed in and changes no memory that was there. The card. No condition but the row's own. -/
import Derived.Test.YtajbahfbldmckaaDoorFcM3
import Derived.Test.YtajbahfbldmckaaDoorFactGlueFaces
import Derived.Test.YtajbahfbldmckaaDoorCrdGlueFaces
import Derived.Test.YtajbahfbldmckaaDoorFcD
import Derived.Deep.RegionHeld3
import Derived.Outline
import Derived.Deep.Cut
namespace Go.Proofs.YtajbahfbldmckaaDoor
open Go Go.ChangeShapes Go.WideShapes Go.ChangeAt Go.RowKit


set_option maxHeartbeats 2000000 in
theorem bigGlueFaces (A : Option Addr) (c : Nat) (rs : List Fc.Rw) (sa : Int) (sf : Int) (sb : Int) (sp : Int) (w : World) (h : Fc.RdS w w.heap.size A rs) (hm : rs.length ≤ maxLen) (hn : ¬ rs.length + Fc.cnt rs ≤ 1048576) :
    Calls Tryd.prog 4 #[.agg #[.slice A rs.length c], .int .i64 sa, .int .i64 sf, .int .i64 sb, .int .i64 sp] w fun e w' => e = .returned (.bool true) ∧ Below w.heap.size w w' := by
  have H := Lib.hid h
  clear h
  go_enter Tryd.func4, Tryd.ntmps4
  go_wp2_with fail
  refine (Fc.szT_any A c rs 1048576 _ (H.out.into (al1 _ _)) hm (by omega) (by omega)).mono ?_
  rintro e w' ⟨rfl, hb⟩
  rw [if_pos (by omega)]
  have D := Lib.hid (on1 _ hb)
  clear hb
  go_wp2
  go_ret
  exact ⟨rfl, D.out⟩
theorem Tr.glT_szd (T : List (List Int)) (a f b p : Int) : Fc.Szd (Tr.glT T a f b p) := by
  unfold Tr.glT
  by_cases h : Tr.glC T a f b p = 0
  · rw [if_pos h]
    have hI : Tr.Is T := by
      by_cases hI : Tr.Is T
      · exact hI
      · unfold Tr.glC at h; rw [if_neg hI] at h; omega
    exact ⟨by rw [Tr.setF_len, Tr.setF_len]; exact hI.1, fun z hz => Nat.le_of_eq (Tr.Four.mem (Tr.setF_four (Tr.setF_four hI.2.1 _ _ _ _) _ _ _ _) hz)⟩
  · rw [if_neg h]; exact Fc.Szd.nil
theorem allGlueFaces (A : Option Addr) (c : Nat) (rs : List Fc.Rw) (sa : Int) (sf : Int) (sb : Int) (sp : Int) (w : World) (h : Fc.RdS w w.heap.size A rs) (hm : rs.length ≤ maxLen) (_ : (Lit.int .i64 sa).wf = true) (_ : (Lit.int .i64 sf).wf = true) (_ : (Lit.int .i64 sb).wf = true) (_ : (Lit.int .i64 sp).wf = true) (ht : Fc.Vs w) :
    Calls Tryd.prog 4 #[.agg #[.slice A rs.length c], .int .i64 sa, .int .i64 sf, .int .i64 sb, .int .i64 sp] w fun e w' => e = .returned (.bool true) ∧ Below w.heap.size w w' := by
  by_cases hn : rs.length + Fc.cnt rs ≤ 1048576
  case neg => exact bigGlueFaces A c rs sa sf sb sp w h hm hn
  · have h0 := ht.pos
    exact exactGlueFaces A c rs sa sf sb sp (Tr.glT (Fc.vals rs) sa sf sb sp) (Tr.glC (Fc.vals rs) sa sf sb sp) w h hn (Tr.glT_szd _ _ _ _ _)
      (fun W A' c' us h2 hv2 _ => by have := Fc.glueFaces_spec A' us.length c' (Fc.vals us) sa sf sb sp W h2.rdt (by rw [Fc.vals_same hv2]; omega); rw [hv2] at this; exact this)
      (fun W A' c' us h2 hv2 hb => by have := Fc.glueFaces_impl A' us.length c' (Fc.vals us) sa sf sb sp W h2.rdt (ht.below hb h0.1) (by rw [Fc.vals_same hv2]; omega); rw [hv2] at this; exact this)

set_option maxRecDepth 100000 in
theorem exactGlueFaces_lifted (os : Os) (started : os.Started) (H : Type) (enc : TypeId × Value → H) :
    ReturnsInHanded {} Tryd.checked os 4 .any (fun w args => (Rows.fnExactGlueFacesSpec.pre enc Tryd.prog Tryd.f4 [] false w args ∧ laidMetH Tryd.prog Fc.lawLaid w) ∧ sizedMet enc Tryd.prog Tryd.f4 (OpenSpec.ofChange Rows.fnExactGlueFacesSpec) false w args)
      (Rows.fnExactGlueFacesSpec.post enc Tryd.prog Tryd.f4 false true false false) := by
  refine returnsInHanded_of_change_and (C := Tryd.checked) (X := fun w _ => laidMetH Tryd.prog Fc.lawLaid w) (fun _ _ _ hh h => h.of_heap hh) own started (by kernel_rfl) Tryd.func4
    (ChangeSpec.witness_shaped (enc := enc) (C := Tryd.checked) (os := os) (X := fun w _ => laidMetH Tryd.prog Fc.lawLaid w) false (World.doorLaid Tryd.prog Fc.doorN os) #[.agg #[.slice none 0 0], .int .i64 0, .int .i64 0, .int .i64 0, .int .i64 0] 8 rfl (World.shaped_of_RefB (by kernel_rfl) (by kernel_rfl)) (by kernel_rfl) (by kernel_rfl) (by kernel_rfl) (Fc.door_met os _)) ?_
  intro W base args ds gs before hval0 hW _ _ hL _
  have hval : ∀ (j : Nat) t v, Tryd.f4.params[j]? = some t → args[j]? = some v → Value.okWide Tryd.prog W .any base t v := hval0
  have hW' := hW
  obtain ⟨p, q, hA0, hV, rfl, hfz, hnd⟩ := hW
  have hA : DataW.TrodAll enc Tryd.prog W 0 (fun _ => true) true Tryd.f4.params.toList args.toList ds p := hA0
  have hV1 : DataW.TrodVars enc Tryd.prog W (fun _ => true) ["loop.example/g00870/impl.boundaryFace", "loop.example/g00870/impl.perm4s"] gs q := hV
  have kV := hV1
  obtain ⟨gg, gt, gcs, gfuel, gd, gp, gg2, gt2, gcs2, gfuel2, gd2, gp2, rfl, _, _, _, _, _⟩ := trodVars_two hV1
  rw [Tryd.params4] at hA hval
  obtain ⟨v0, vs0, d0, ds0, p0, q0, hargs, rfl, rfl, h0, r0⟩ := trodAll_cons hA
  obtain ⟨v1, vs1, d1, ds1, p1, q1, rfl, rfl, rfl, h1, r1⟩ := trodAll_cons r0
  obtain ⟨v2, vs2, d2, ds2, p2, q2, rfl, rfl, rfl, h2, r2⟩ := trodAll_cons r1
  obtain ⟨v3, vs3, d3, ds3, p3, q3, rfl, rfl, rfl, h3, r3⟩ := trodAll_cons r2
  obtain ⟨v4, vs4, d4, ds4, p4, q4, rfl, rfl, rfl, h4, r4⟩ := trodAll_cons r3
  obtain ⟨rfl, rfl, rfl⟩ := trodAll_nil r4
  obtain rfl : args = #[v0, v1, v2, v3, v4] := by cases args; simp_all
  have k0_ := h0
  have lt0 : ∀ x ∈ p0, x.block < W.heap.size := by obtain ⟨m, hm⟩ := k0_; exact DataW.trod_lt m _ _ _ hm
  obtain ⟨A0, c0, rs0, rfl, hi0, hm0⟩ := Fc.openTri (hval 0 24 v0 rfl rfl) h0
  obtain ⟨x1, rfl, rfl, rfl, wx1⟩ := open_int Tryd.underlying2 (hval 1 2 v1 rfl rfl) h1
  obtain ⟨x2, rfl, rfl, rfl, wx2⟩ := open_int Tryd.underlying2 (hval 2 2 v2 rfl rfl) h2
  obtain ⟨x3, rfl, rfl, rfl, wx3⟩ := open_int Tryd.underlying2 (hval 3 2 v3 rfl rfl) h3
  obtain ⟨x4, rfl, rfl, rfl, wx4⟩ := open_int Tryd.underlying2 (hval 4 2 v4 rfl rfl) h4
  clear hA0 hval0
  refine (allGlueFaces A0 c0 rs0 x1 x2 x3 x4 W hi0 hm0 wx1 wx2 wx3 wx4 (Fc.vs_of_laid hL)).mono fun e W' ⟨he, bel⟩ => ?_
  subst he
  exact ⟨_, rfl, _, _, _, [], _, _, hW', trodAll_mk1 (shut_bool Tryd.underlying4 _), (trodAll_cons_mk (Below.trod laidOut (by kernel_rfl) (of_decide_eq_true (by kernel_rfl)) k0_ bel lt0) (trodAll_cons_mk (shut_int Tryd.underlying2 wx1) (trodAll_cons_mk (shut_int Tryd.underlying2 wx2) (trodAll_cons_mk (shut_int Tryd.underlying2 wx3) (trodAll_cons_mk (shut_int Tryd.underlying2 wx4) trodAll_mk0))))), Below.trodVars laidOut bel (by kernel_rfl) kV, bel.frame _, fun h => by cases h⟩

theorem exactGlueFaces_holds : Rows.FnExactGlueFacesSaid :=
  OpenClaim.holds_of_wide 4 Tryd.f4 rfl rfl rfl rfl rfl rfl rfl ⟨rfl, rfl, rfl, rfl, rfl⟩ rfl rfl rfl rfl rfl exactGlueFaces_named Tryd.func4 exactGlueFaces_facts
    (of_decide_eq_true (by kernel_rfl)) (by unfold Func.isWrapper; first | (rw [if_pos (by decide +kernel)]; kernel_rfl) | (rw [if_neg (by decide +kernel)]; exact ⟨rfl, rfl⟩))
    (fun os started H enc _ => exactGlueFaces_lifted os started H enc)

theorem exactGlueFaces_card : Rows.FnExactGlueFacesCardSaid :=
  Claim7.holds_tied_plain_at .later [] [.wider, .data] true Rows.fnExactGlueFacesCard.stood.harness Rows.fnExactGlueFacesCard.stood.looks
    exactGlueFaces_holds (fun _ h => by cases h) exactGlueFaces_wf (fun _ h => by cases h) fnExactGlueFaces_row_tie rfl ⟨rfl, rfl⟩ exactGlueFaces_main rfl
    (fun f fn hf hfn => by
      obtain rfl : f = 4 := Option.some.inj (exactGlueFaces_named.symm.trans hf) |>.symm
      obtain rfl : fn = Tryd.f4 := (Option.some.inj (Tryd.func4.symm.trans hfn)).symm
      exact ⟨exactGlueFaces_looks, fun j t ht => by
        rw [Tryd.params4] at ht
        have hm : t ∈ [24, 2] := by simpa using Array.mem_of_getElem? ht
        have hall : ([24, 2].all fun u => !Tryd.prog.wantsStandIn u) = true := by kernel_rfl
        exact (show Tryd.prog.wantsStandIn t = false by simpa using List.all_eq_true.1 hall t hm)⟩)
    exactGlueFaces_goes
#print axioms exactGlueFaces_card

end Go.Proofs.YtajbahfbldmckaaDoor
