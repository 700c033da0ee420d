/- The law FnExactRelabelTriangulation returns true for all triangulations and lists that are passed in and changes no memory that was there. The card. No condition but the row's own. -/
import Derived.Test.YtajbahfbldmckaaDoorLTdRelabelTriangulation
import Derived.Test.YtajbahfbldmckaaDoorFactRelabelTriangulation
import Derived.Test.YtajbahfbldmckaaDoorCrdRelabelTriangulation
import Derived.Test.YtajbahfbldmckaaDoorFcD
import Derived.Test.YtajbahfbldmckaaDoorFcMk
import Derived.Test.YtajbahfbldmckaaDoorLiftW
import Derived.Deep.RegionHeld3
import Derived.Outline
import Derived.Deep.Cut
namespace Go.Proofs.YtajbahfbldmckaaDoor
open Go Go.ChangeShapes Go.WideShapes Go.ChangeAt Go.RowKit


set_option maxHeartbeats 2000000 in
theorem bigRelabelTriangulation (A : Option Addr) (c : Nat) (rs : List Fc.Rw) (Ax : Option Addr) (nx cx : Nat) (zx : List Int) (Ay : Option Addr) (ny cy : Nat) (zy : List Int) (w : World) (h : Fc.RdS w w.heap.size A rs) (hm : rs.length ≤ maxLen) (_ : Ints w w.heap.size Ax nx zx) (_ : nx ≤ maxLen) (_ : Ints w w.heap.size Ay ny zy) (_ : ny ≤ maxLen) (hn : ¬ (nx ≤ 1048576 ∧ ny ≤ 1048576 ∧ rs.length + Fc.cnt rs ≤ 1048576)) :
    Calls Tryd.prog 8 #[.agg #[.slice A rs.length c], .slice Ax nx cx, .slice Ay ny cy] w fun e w' => e = .returned (.bool true) ∧ Below w.heap.size w w' := by
  have H := Lib.hid h
  clear h
  by_cases i1 : nx ≤ 1048576
  case neg =>
    have t1 : (1048576 : Int) < (nx : Int) := by omega
    clear hn i1
    go_enter Tryd.func8, Tryd.ntmps8
    go_wp2
    go_ret
    exact ⟨rfl, al1 _ _⟩
  have t1 : ¬ (1048576 : Int) < (nx : Int) := by omega
  by_cases i2 : ny ≤ 1048576
  case neg =>
    have t2 : (1048576 : Int) < (ny : Int) := by omega
    clear hn i1 i2
    go_enter Tryd.func8, Tryd.ntmps8
    go_wp2
    go_ret
    exact ⟨rfl, al1 _ _⟩
  have t2 : ¬ (1048576 : Int) < (ny : Int) := by omega
  have hn' : ¬ rs.length + Fc.cnt rs ≤ 1048576 := fun e => hn ⟨i1, i2, e⟩
  clear hn i1 i2
  go_enter Tryd.func8, Tryd.ntmps8
  go_wp2_with fail
  refine (Fc.szT_any A c rs 1048576 _ (H.out.into (al1 _ _)) hm (by omega) (by omega)).mono ?_
  rintro e w' ⟨rfl, hb⟩
  rw [if_pos (by omega)]
  have D := Lib.hid (on1 _ hb)
  clear hb
  go_wp2
  go_ret
  exact ⟨rfl, D.out⟩
theorem Rl.rlT_szd (T : List (List Int)) (tl pl : List Int) : Fc.Szd (Rl.rlT T tl pl) := by
  by_cases h : Tr.Is T
  · by_cases h2 : Rp.Pm (T.length : Int) tl ∧ pl.length = T.length ∧ Fc.AllP pl
    · rw [(Rl.rl_0 h h2).1]
      exact ⟨by rw [Rl.tabS_len]; exact h.1, fun z hz => Nat.le_of_eq (Tr.Four.mem (Rl.tabS_four h.2.1 _) hz)⟩
    · rw [(Rl.rl_2 h h2).1]; exact Fc.Szd.nil
  · rw [(Rl.rl_1 h).1]; exact Fc.Szd.nil
theorem allRelabelTriangulation (A : Option Addr) (c : Nat) (rs : List Fc.Rw) (Ax : Option Addr) (nx cx : Nat) (zx : List Int) (Ay : Option Addr) (ny cy : Nat) (zy : List Int) (w : World) (h : Fc.RdS w w.heap.size A rs) (hm : rs.length ≤ maxLen) (h1 : Ints w w.heap.size Ax nx zx) (hm1 : nx ≤ maxLen) (h2 : Ints w w.heap.size Ay ny zy) (hm2 : ny ≤ maxLen) (ht : Fc.Vs w) :
    Calls Tryd.prog 8 #[.agg #[.slice A rs.length c], .slice Ax nx cx, .slice Ay ny cy] w fun e w' => e = .returned (.bool true) ∧ Below w.heap.size w w' := by
  by_cases hn : nx ≤ 1048576 ∧ ny ≤ 1048576 ∧ rs.length + Fc.cnt rs ≤ 1048576
  case neg => exact bigRelabelTriangulation A c rs Ax nx cx zx Ay ny cy zy w h hm h1 hm1 h2 hm2 hn
  · have h0 := ht.pos
    exact exactRelabelTriangulation A c rs Ax nx cx zx Ay ny cy zy (Rl.rlT (Fc.vals rs) zx zy) (Rl.rlC (Fc.vals rs) zx zy) w h h1 h2 hn.1 hn.2.1 hn.2.2 (Rl.rlT_szd _ _ _)
      (fun W A' B' C' c' d' e' qs h3 hv3 h4 h5 _ => by have := Fc.relabel_spec A' qs.length c' (Fc.vals qs) B' C' nx ny d' e' zx zy W h3.rdt (by rw [Fc.vals_same hv3]; omega) h4 hn.1 h5 hn.2.1; rw [hv3] at this; exact this)
      (fun W A' B' C' c' d' e' qs h3 hv3 h4 h5 hb => by have := Fc.relabel_impl A' qs.length c' (Fc.vals qs) B' C' nx ny d' e' zx zy W h3.rdt (ht.below hb h0.1) (by rw [Fc.vals_same hv3]; omega) h4 hn.1 h5 hn.2.1; rw [hv3] at this; exact this)

set_option maxRecDepth 100000 in
theorem exactRelabelTriangulation_lifted (os : Os) (started : os.Started) (H : Type) (enc : TypeId × Value → H) :
    ReturnsInHanded {} Tryd.checked os 8 .any (fun w args => (Rows.fnExactRelabelTriangulationSpec.pre enc Tryd.prog Tryd.f8 [] false w args ∧ laidMetH Tryd.prog Fc.lawLaid w) ∧ sizedMet enc Tryd.prog Tryd.f8 (OpenSpec.ofChange Rows.fnExactRelabelTriangulationSpec) false w args)
      (Rows.fnExactRelabelTriangulationSpec.post enc Tryd.prog Tryd.f8 false true false false) := by
  refine returnsInHanded_of_change_and (C := Tryd.checked) (X := fun w _ => laidMetH Tryd.prog Fc.lawLaid w) (fun _ _ _ hh h => h.of_heap hh) own started (by kernel_rfl) Tryd.func8
    (ChangeSpec.witness_shaped (enc := enc) (C := Tryd.checked) (os := os) (X := fun w _ => laidMetH Tryd.prog Fc.lawLaid w) false (World.doorLaid Tryd.prog Fc.doorN os) #[.agg #[.slice none 0 0], .slice none 0 0, .slice none 0 0] 8 rfl (World.shaped_of_RefB (by kernel_rfl) (by kernel_rfl)) (by kernel_rfl) (by kernel_rfl) (by kernel_rfl) (Fc.door_met os _)) ?_
  intro W base args ds gs before hval0 hW _ _ hL _
  have hval : ∀ (j : Nat) t v, Tryd.f8.params[j]? = some t → args[j]? = some v → Value.okWide Tryd.prog W .any base t v := hval0
  have hW' := hW
  obtain ⟨p, q, hA0, hV, rfl, hfz, hnd⟩ := hW
  have hA : DataW.TrodAll enc Tryd.prog W 0 (fun _ => true) true Tryd.f8.params.toList args.toList ds p := hA0
  have hV1 : DataW.TrodVars enc Tryd.prog W (fun _ => true) ["loop.example/g00870/impl.boundaryFace", "loop.example/g00870/impl.perm4s"] gs q := hV
  have kV := hV1
  obtain ⟨gg, gt, gcs, gfuel, gd, gp, gg2, gt2, gcs2, gfuel2, gd2, gp2, rfl, _, _, _, _, _⟩ := trodVars_two hV1
  rw [Tryd.params8] at hA hval
  obtain ⟨v0, vs0, d0, ds0, p0, q0, hargs, rfl, rfl, h0, r0⟩ := trodAll_cons hA
  obtain ⟨v1, vs1, d1, ds1, p1, q1, rfl, rfl, rfl, h1, r1⟩ := trodAll_cons r0
  obtain ⟨v2, vs2, d2, ds2, p2, q2, rfl, rfl, rfl, h2, r2⟩ := trodAll_cons r1
  obtain ⟨rfl, rfl, rfl⟩ := trodAll_nil r2
  obtain rfl : args = #[v0, v1, v2] := by cases args; simp_all
  have k0_ := h0
  have lt0 : ∀ x ∈ p0, x.block < W.heap.size := by obtain ⟨m, hm⟩ := k0_; exact DataW.trod_lt m _ _ _ hm
  obtain ⟨A0, c0, rs0, rfl, hi0, hm0⟩ := Fc.openTri (hval 0 24 v0 rfl rfl) h0
  have k1_ := h1
  have lt1 : ∀ x ∈ p1, x.block < W.heap.size := by obtain ⟨m, hm⟩ := k1_; exact DataW.trod_lt m _ _ _ hm
  obtain ⟨A1, n1, c1, zs1, rfl, hi1, hm1⟩ := openW (hval 1 39 v1 rfl rfl) h1
  have k2_ := h2
  have lt2 : ∀ x ∈ p2, x.block < W.heap.size := by obtain ⟨m, hm⟩ := k2_; exact DataW.trod_lt m _ _ _ hm
  obtain ⟨A2, n2, c2, zs2, rfl, hi2, hm2⟩ := openW (hval 2 39 v2 rfl rfl) h2
  clear hA0 hval0
  refine (allRelabelTriangulation A0 c0 rs0 A1 n1 c1 zs1 A2 n2 c2 zs2 W hi0 hm0 hi1 hm1 hi2 hm2 (Fc.vs_of_laid hL)).mono fun e W' ⟨he, bel⟩ => ?_
  subst he
  exact ⟨_, rfl, _, _, _, [], _, _, hW', trodAll_mk1 (shut_bool Tryd.underlying4 _), (trodAll_cons_mk (Below.trod laidOut (by kernel_rfl) (of_decide_eq_true (by kernel_rfl)) k0_ bel lt0) (trodAll_cons_mk (Below.trod laidOut (by kernel_rfl) (of_decide_eq_true (by kernel_rfl)) k1_ bel lt1) (trodAll_cons_mk (Below.trod laidOut (by kernel_rfl) (of_decide_eq_true (by kernel_rfl)) k2_ bel lt2) trodAll_mk0))), Below.trodVars laidOut bel (by kernel_rfl) kV, bel.frame _, fun h => by cases h⟩

theorem exactRelabelTriangulation_holds : Rows.FnExactRelabelTriangulationSaid :=
  OpenClaim.holds_of_wide 8 Tryd.f8 rfl rfl rfl rfl rfl rfl rfl ⟨rfl, rfl, rfl, rfl, rfl⟩ rfl rfl rfl rfl rfl exactRelabelTriangulation_named Tryd.func8 exactRelabelTriangulation_facts
    (of_decide_eq_true (by kernel_rfl)) (by unfold Func.isWrapper; first | (rw [if_pos (by decide +kernel)]; kernel_rfl) | (rw [if_neg (by decide +kernel)]; exact ⟨rfl, rfl⟩))
    (fun os started H enc _ => exactRelabelTriangulation_lifted os started H enc)

theorem exactRelabelTriangulation_card : Rows.FnExactRelabelTriangulationCardSaid :=
  Claim7.holds_tied_plain_at .later [] [.wider, .data] true Rows.fnExactRelabelTriangulationCard.stood.harness Rows.fnExactRelabelTriangulationCard.stood.looks
    exactRelabelTriangulation_holds (fun _ h => by cases h) exactRelabelTriangulation_wf (fun _ h => by cases h) fnExactRelabelTriangulation_row_tie rfl ⟨rfl, rfl⟩ exactRelabelTriangulation_main rfl
    (fun f fn hf hfn => by
      obtain rfl : f = 8 := Option.some.inj (exactRelabelTriangulation_named.symm.trans hf) |>.symm
      obtain rfl : fn = Tryd.f8 := (Option.some.inj (Tryd.func8.symm.trans hfn)).symm
      exact ⟨exactRelabelTriangulation_looks, fun j t ht => by
        rw [Tryd.params8] at ht
        have hm : t ∈ [24, 39] := by simpa using Array.mem_of_getElem? ht
        have hall : ([24, 39].all fun u => !Tryd.prog.wantsStandIn u) = true := by kernel_rfl
        exact (show Tryd.prog.wantsStandIn t = false by simpa using List.all_eq_true.1 hall t hm)⟩)
    exactRelabelTriangulation_goes
#print axioms exactRelabelTriangulation_card

end Go.Proofs.YtajbahfbldmckaaDoor
