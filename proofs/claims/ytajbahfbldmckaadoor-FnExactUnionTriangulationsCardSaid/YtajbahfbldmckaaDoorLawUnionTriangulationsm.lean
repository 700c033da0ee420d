/- The law FnExactUnionTriangulations returns true for all triangulations that are passed in and changes no memory that was there. The card. No condition but the row's own. -/
import Derived.Test.YtajbahfbldmckaaDoorFcM4
import Derived.Test.YtajbahfbldmckaaDoorFactUnionTriangulations
import Derived.Test.YtajbahfbldmckaaDoorCrdUnionTriangulations
import Derived.Test.YtajbahfbldmckaaDoorFcD
import Derived.Deep.RegionHeld3
import Derived.Outline
import Derived.Deep.Cut
namespace Go.Proofs.YtajbahfbldmckaaDoor
open Go Go.ChangeShapes Go.WideShapes Go.ChangeAt Go.RowKit


set_option maxHeartbeats 2000000 in
theorem bigUnionTriangulations (A : Option Addr) (c : Nat) (rs : List Fc.Rw) (A2 : Option Addr) (c2 : Nat) (us : List Fc.Rw) (w : World) (h : Fc.RdS w w.heap.size A rs) (hm : rs.length ≤ maxLen) (h2 : Fc.RdS w w.heap.size A2 us) (hm2 : us.length ≤ maxLen) (hn : ¬ rs.length + Fc.cnt rs + (us.length + Fc.cnt us) ≤ 1048576) :
    Calls Tryd.prog 7 #[.agg #[.slice A rs.length c], .agg #[.slice A2 us.length c2]] w fun e w' => e = .returned (.bool true) ∧ Below w.heap.size w w' := by
  obtain ⟨V, hV⟩ : ∃ V, V = ((w.alloc (Obj.cells #[.slice A rs.length c] 24)).alloc (Obj.cells #[.slice A2 us.length c2] 24)) := ⟨_, rfl⟩
  have hB : Below w.heap.size w V := by rw [hV]; exact al2 _ _ _
  have k0 : V.cell? ⟨w.heap.size, 0, none⟩ = some (.slice A rs.length c) := by rw [hV]; simp [go_sem]
  have k1 : V.cell? ⟨w.heap.size + 1, 0, none⟩ = some (.slice A2 us.length c2) := by rw [hV]; simp [go_sem]
  have z : V.heap.size = w.heap.size + 2 := by rw [hV]; simp
  have HB := Lib.hid hB
  have H := Lib.hid (h.into hB)
  have H2 := Lib.hid h2
  clear h h2 hB
  by_cases h1 : rs.length + Fc.cnt rs ≤ 1048576
  · have tl0 : decide ((1048576 : Int) - (rs.length : Int) - (Fc.cnt rs : Int) < 0) = false := by simp; omega
    go_enter Tryd.func7, Tryd.ntmps7
    go_upto_region 2 with fail
    rw [← hV]
    clear hV
    go_wp2_with fail
    refine (Fc.szT_any A c rs 1048576 _ H.out hm (by omega) (by omega)).mono ?_
    rintro e w1 ⟨rfl, hb⟩
    rw [if_neg (by omega)]
    have k1 := (hb.cell (p := ⟨w.heap.size + 1, 0, none⟩) (by dsimp only; omega)).trans k1
    have B1 := Lib.hid (HB.out.trans (hb.mono (by omega)))
    clear hb
    go_wp2_with fail
    refine (Fc.szT_any A2 c2 us _ _ (H2.out.into B1.out) hm2 (by omega) (by omega)).mono ?_
    rintro e w2 ⟨rfl, hb2⟩
    rw [if_pos (by omega)]
    have B2 := Lib.hid (B1.out.trans (hb2.mono B1.out.size))
    clear hb2
    go_wp2
    go_ret
    exact ⟨rfl, B2.out⟩
  · go_enter Tryd.func7, Tryd.ntmps7
    go_upto_region 2 with fail
    rw [← hV]
    clear hV
    go_wp2_with fail
    refine (Fc.szT_any A c rs 1048576 _ H.out hm (by omega) (by omega)).mono ?_
    rintro e w1 ⟨rfl, hb⟩
    rw [if_pos (by omega)]
    have B1 := Lib.hid (HB.out.trans (hb.mono (by omega)))
    clear hb
    go_wp2
    go_ret
    exact ⟨rfl, B1.out⟩
theorem Tr.ptR_len8 (s : Int) (T : List (List Int)) : ∀ z ∈ Tr.shT s T, z.length = 8 := fun z hz => by
  unfold Tr.shT at hz
  obtain ⟨a, _, rfl⟩ := List.mem_map.1 hz
  exact Tr.ptR_len _ _ _ _
theorem Tr.unT_szd (T S : List (List Int)) : Fc.Szd (Tr.unT T S) := by
  unfold Tr.unT
  by_cases h : Tr.unC T S = 0
  · rw [if_pos h]
    unfold Tr.unC at h
    by_cases hI : Tr.Is T ∧ Tr.Is S
    · rw [if_pos hI] at h
      by_cases hs : T.length + S.length ≤ 8
      · refine ⟨by rw [List.length_append, Tr.shT_len]; exact hs, fun z hz => ?_⟩
        rcases List.mem_append.1 hz with hz | hz
        · exact Nat.le_of_eq (Tr.Four.mem hI.1.2.1 hz)
        · exact Nat.le_of_eq (Tr.ptR_len8 _ _ z hz)
      · rw [if_neg hs] at h; omega
    · rw [if_neg hI] at h; omega
  · rw [if_neg h]; exact Fc.Szd.nil
theorem allUnionTriangulations (A : Option Addr) (c : Nat) (rs : List Fc.Rw) (A2 : Option Addr) (c2 : Nat) (us : List Fc.Rw) (w : World) (h : Fc.RdS w w.heap.size A rs) (hm : rs.length ≤ maxLen) (h2 : Fc.RdS w w.heap.size A2 us) (hm2 : us.length ≤ maxLen) (ht : Fc.Vs w) :
    Calls Tryd.prog 7 #[.agg #[.slice A rs.length c], .agg #[.slice A2 us.length c2]] w fun e w' => e = .returned (.bool true) ∧ Below w.heap.size w w' := by
  by_cases hn : rs.length + Fc.cnt rs + (us.length + Fc.cnt us) ≤ 1048576
  case neg => exact bigUnionTriangulations A c rs A2 c2 us w h hm h2 hm2 hn
  · have h0 := ht.pos
    exact exactUnionTriangulations A c rs A2 c2 us (Tr.unT (Fc.vals rs) (Fc.vals us)) (Tr.unC (Fc.vals rs) (Fc.vals us)) w h h2 hn (Tr.unT_szd _ _)
      (fun W A' B' c' d' qs vs h3 hv3 h4 hv4 _ => by have := Fc.union_spec A' qs.length c' (Fc.vals qs) B' vs.length d' (Fc.vals vs) W h3.rdt h4.rdt (by rw [Fc.vals_same hv3]; omega) (by rw [Fc.vals_same hv4]; omega); rw [hv3, hv4] at this; exact this)
      (fun W A' B' c' d' qs vs h3 hv3 h4 hv4 hb => by have := Fc.union_impl A' qs.length c' (Fc.vals qs) B' vs.length d' (Fc.vals vs) W h3.rdt h4.rdt (ht.below hb h0.1) (by rw [Fc.vals_same hv3]; omega) (by rw [Fc.vals_same hv4]; omega); rw [hv3, hv4] at this; exact this)

set_option maxRecDepth 100000 in
theorem exactUnionTriangulations_lifted (os : Os) (started : os.Started) (H : Type) (enc : TypeId × Value → H) :
    ReturnsInHanded {} Tryd.checked os 7 .any (fun w args => (Rows.fnExactUnionTriangulationsSpec.pre enc Tryd.prog Tryd.f7 [] false w args ∧ laidMetH Tryd.prog Fc.lawLaid w) ∧ sizedMet enc Tryd.prog Tryd.f7 (OpenSpec.ofChange Rows.fnExactUnionTriangulationsSpec) false w args)
      (Rows.fnExactUnionTriangulationsSpec.post enc Tryd.prog Tryd.f7 false true false false) := by
  refine returnsInHanded_of_change_and (C := Tryd.checked) (X := fun w _ => laidMetH Tryd.prog Fc.lawLaid w) (fun _ _ _ hh h => h.of_heap hh) own started (by kernel_rfl) Tryd.func7
    (ChangeSpec.witness_shaped (enc := enc) (C := Tryd.checked) (os := os) (X := fun w _ => laidMetH Tryd.prog Fc.lawLaid w) false (World.doorLaid Tryd.prog Fc.doorN os) #[.agg #[.slice none 0 0], .agg #[.slice none 0 0]] 8 rfl (World.shaped_of_RefB (by kernel_rfl) (by kernel_rfl)) (by kernel_rfl) (by kernel_rfl) (by kernel_rfl) (Fc.door_met os _)) ?_
  intro W base args ds gs before hval0 hW _ _ hL _
  have hval : ∀ (j : Nat) t v, Tryd.f7.params[j]? = some t → args[j]? = some v → Value.okWide Tryd.prog W .any base t v := hval0
  have hW' := hW
  obtain ⟨p, q, hA0, hV, rfl, hfz, hnd⟩ := hW
  have hA : DataW.TrodAll enc Tryd.prog W 0 (fun _ => true) true Tryd.f7.params.toList args.toList ds p := hA0
  have hV1 : DataW.TrodVars enc Tryd.prog W (fun _ => true) ["loop.example/g00870/impl.boundaryFace", "loop.example/g00870/impl.perm4s"] gs q := hV
  have kV := hV1
  obtain ⟨gg, gt, gcs, gfuel, gd, gp, gg2, gt2, gcs2, gfuel2, gd2, gp2, rfl, _, _, _, _, _⟩ := trodVars_two hV1
  rw [Tryd.params7] at hA hval
  obtain ⟨v0, vs0, d0, ds0, p0, q0, hargs, rfl, rfl, h0, r0⟩ := trodAll_cons hA
  obtain ⟨v1, vs1, d1, ds1, p1, q1, rfl, rfl, rfl, h1, r1⟩ := trodAll_cons r0
  obtain ⟨rfl, rfl, rfl⟩ := trodAll_nil r1
  obtain rfl : args = #[v0, v1] := by cases args; simp_all
  have k0_ := h0
  have lt0 : ∀ x ∈ p0, x.block < W.heap.size := by obtain ⟨m, hm⟩ := k0_; exact DataW.trod_lt m _ _ _ hm
  obtain ⟨A0, c0, rs0, rfl, hi0, hm0⟩ := Fc.openTri (hval 0 24 v0 rfl rfl) h0
  have k1_ := h1
  have lt1 : ∀ x ∈ p1, x.block < W.heap.size := by obtain ⟨m, hm⟩ := k1_; exact DataW.trod_lt m _ _ _ hm
  obtain ⟨A1, c1, rs1, rfl, hi1, hm1⟩ := Fc.openTri (hval 1 24 v1 rfl rfl) h1
  clear hA0 hval0
  refine (allUnionTriangulations A0 c0 rs0 A1 c1 rs1 W hi0 hm0 hi1 hm1 (Fc.vs_of_laid hL)).mono fun e W' ⟨he, bel⟩ => ?_
  subst he
  exact ⟨_, rfl, _, _, _, [], _, _, hW', trodAll_mk1 (shut_bool Tryd.underlying4 _), (trodAll_cons_mk (Below.trod laidOut (by kernel_rfl) (of_decide_eq_true (by kernel_rfl)) k0_ bel lt0) (trodAll_cons_mk (Below.trod laidOut (by kernel_rfl) (of_decide_eq_true (by kernel_rfl)) k1_ bel lt1) trodAll_mk0)), Below.trodVars laidOut bel (by kernel_rfl) kV, bel.frame _, fun h => by cases h⟩

theorem exactUnionTriangulations_holds : Rows.FnExactUnionTriangulationsSaid :=
  OpenClaim.holds_of_wide 7 Tryd.f7 rfl rfl rfl rfl rfl rfl rfl ⟨rfl, rfl, rfl, rfl, rfl⟩ rfl rfl rfl rfl rfl exactUnionTriangulations_named Tryd.func7 exactUnionTriangulations_facts
    (of_decide_eq_true (by kernel_rfl)) (by unfold Func.isWrapper; first | (rw [if_pos (by decide +kernel)]; kernel_rfl) | (rw [if_neg (by decide +kernel)]; exact ⟨rfl, rfl⟩))
    (fun os started H enc _ => exactUnionTriangulations_lifted os started H enc)

theorem exactUnionTriangulations_card : Rows.FnExactUnionTriangulationsCardSaid :=
  Claim7.holds_tied_plain_at .later [] [.wider, .data] true Rows.fnExactUnionTriangulationsCard.stood.harness Rows.fnExactUnionTriangulationsCard.stood.looks
    exactUnionTriangulations_holds (fun _ h => by cases h) exactUnionTriangulations_wf (fun _ h => by cases h) fnExactUnionTriangulations_row_tie rfl ⟨rfl, rfl⟩ exactUnionTriangulations_main rfl
    (fun f fn hf hfn => by
      obtain rfl : f = 7 := Option.some.inj (exactUnionTriangulations_named.symm.trans hf) |>.symm
      obtain rfl : fn = Tryd.f7 := (Option.some.inj (Tryd.func7.symm.trans hfn)).symm
      exact ⟨exactUnionTriangulations_looks, fun j t ht => by
        rw [Tryd.params7] at ht
        have hm : t ∈ [24] := by simpa using Array.mem_of_getElem? ht
        have hall : ([24].all fun u => !Tryd.prog.wantsStandIn u) = true := by kernel_rfl
        exact (show Tryd.prog.wantsStandIn t = false by simpa using List.all_eq_true.1 hall t hm)⟩)
    exactUnionTriangulations_goes
#print axioms exactUnionTriangulations_card

end Go.Proofs.YtajbahfbldmckaaDoor
