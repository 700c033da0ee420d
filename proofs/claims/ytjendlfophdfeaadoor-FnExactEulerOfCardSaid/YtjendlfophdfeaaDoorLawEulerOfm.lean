/- The law FnExactEulerOf returns true for every triangulation that is passed in and changes no memory that was there. The card. No condition but the row's own. -/
import Derived.Test.YtjendlfophdfeaaDoorFactEulerOf
import Derived.Test.YtjendlfophdfeaaDoorCrdEulerOf
import Derived.Test.YtjendlfophdfeaaDoorFcD
import Derived.Test.YtjendlfophdfeaaDoorFcN
import Derived.Test.YtjendlfophdfeaaDoorSkSm
import Derived.Test.YtjendlfophdfeaaDoorG0a
import Derived.Deep.RegionHeld3
import Derived.Outline
import Derived.Deep.Cut
namespace Go.Proofs.YtjendlfophdfeaaDoor
open Go Go.ChangeShapes Go.WideShapes Go.ChangeAt Go.RowKit

theorem Sk.euler_specS (A : Option Addr) (c : Nat) (rs : List Fc.Rw) (w : World) (h : Fc.RdS w w.heap.size A rs) (hn : rs.length ≤ 1048576) : Calls Tryd.prog 49 #[.agg #[.slice A rs.length c]] w fun e w' => e = .returned (.tuple #[.int .i64 (Sk.euV (Fc.vals rs)), .int .i64 (Sk.euC (Fc.vals rs))]) ∧ Below w.heap.size w w' := Sk.euler_spec A rs.length c (Fc.vals rs) w h.rdt hn
theorem Sk.euler_implS (A : Option Addr) (c : Nat) (rs : List Fc.Rw) (w : World) (h : Fc.RdS w w.heap.size A rs) (hn : rs.length ≤ 1048576) (hv : Sk.Ws w) : Calls Tryd.prog 50 #[.agg #[.slice A rs.length c]] w fun e w' => e = .returned (.tuple #[.int .i64 (Sk.euV (Fc.vals rs)), .int .i64 (Sk.euC (Fc.vals rs))]) ∧ Below w.heap.size w w' := Sk.euler_impl A rs.length c (Fc.vals rs) w h.rdt hv hn
set_option maxRecDepth 100000 in
set_option maxHeartbeats 8000000 in
theorem allEulerOf (A : Option Addr) (c : Nat) (rs : List Fc.Rw) (w : World) (h : Fc.RdS w w.heap.size A rs) (hm : rs.length ≤ maxLen) (ht : Sk.Ws w) :
    Calls Tryd.prog 9 #[.agg #[.slice A rs.length c]] w fun e w' => e = .returned (.bool true) ∧ Below w.heap.size w w' := by
  have H := Lib.hid h
  have HT := Lib.hid ht
  have h0 := ht.1.pos
  clear h ht
  by_cases hs : (1048576 : Int) < rs.length + Fc.cnt rs
  · go_enter Tryd.func9, Tryd.ntmps9
    go_wp2_with fail
    refine (Fc.szT_any A c rs 1048576 _ (H.out.into (al1 _ _)) hm (by omega) (by omega)).mono ?_
    rintro e w' ⟨rfl, hb⟩
    rw [if_pos (by omega)]
    have D := Lib.hid (on1 _ hb)
    clear hb
    go_wp2
    go_ret
    exact ⟨rfl, D.out⟩
  have hn : rs.length ≤ 1048576 := by omega
  have ROW := Lib.hid (show ∀ r ∈ rs, r.zs.length / 2 ≤ 1048576 from fun r hr => by have := Fc.row_le_cnt hr; omega)
  have TOT := Lib.hid (show rs.length + Fc.cnt rs ≤ 1048576 from by omega)
  obtain ⟨q, hq⟩ : ∃ q : Int, (1048576 : Int) - rs.length - Fc.cnt rs = q := ⟨_, rfl⟩
  have q0 : 0 ≤ q := by omega
  have qf : decide (q < 0) = false := by simp; omega
  go_enter Tryd.func9, Tryd.ntmps9
  go_wp2_with fail
  refine (Fc.szT_any A c rs 1048576 _ (H.out.into (al1 _ _)) hm (by omega) (by omega)).mono ?_
  rintro e w0 ⟨rfl, hb⟩
  rw [if_neg (by omega), hq]
  have D0 := Lib.hid (on1 _ hb)
  have QA := Lib.hid (show w0.cell? ⟨w.heap.size, 0, none⟩ = some (.slice A rs.length c) from (hb.cell (p := ⟨w.heap.size, 0, none⟩) (by simp)).trans (by simp [go_sem]))
  have za : w.heap.size < w0.heap.size := by have := hb.size; simp at this; omega
  clear hb hs hm hq
  have qa := QA.out
  go_wp2_with fail
  refine (Fc.toT_any A c rs _ (H.out.into D0.out) hn ROW.out).mono ?_
  rintro e w1 ⟨g1, c1, rs1, rfl, ho1, hv1, hb1⟩
  have O1 := Lib.hid ho1.rd
  have V1 := Lib.hid hv1
  have L1 := Lib.hid (Fc.vals_same hv1)
  have D1 := Lib.hid (D0.out.trans (hb1.mono (by omega)))
  have z1 := hb1.size
  have QA := Lib.hid ((hb1.cell (p := ⟨w.heap.size, 0, none⟩) za).trans QA.out)
  clear ho1 hv1 hb1 qa
  have qa := QA.out
  go_wp2_with fail
  refine (Sk.euler_specS _ _ rs1 _ O1.out (by have := L1.out; omega)).mono ?_
  rintro e w2 ⟨rfl, hb2⟩
  rw [V1.out]
  have D2 := Lib.hid (D1.out.trans (hb2.mono (by omega)))
  have z2 := hb2.size
  have QA := Lib.hid ((hb2.cell (p := ⟨w.heap.size, 0, none⟩) (by dsimp only; omega)).trans QA.out)
  clear hb2 qa
  have qa := QA.out
  go_wp2_with fail
  refine (Fc.toT_any A c rs _ (H.out.into D2.out) hn ROW.out).mono ?_
  rintro e w3 ⟨g3, c3, rs3, rfl, ho3, hv3, hb3⟩
  have O3 := Lib.hid ho3.rd
  have V3 := Lib.hid hv3
  have L3 := Lib.hid (Fc.vals_same hv3)
  have D3 := Lib.hid (D2.out.trans (hb3.mono (by omega)))
  have z3 := hb3.size
  have QA := Lib.hid ((hb3.cell (p := ⟨w.heap.size, 0, none⟩) (by dsimp only; omega)).trans QA.out)
  clear ho3 hv3 hb3 qa
  have qa := QA.out
  go_wp2_with fail
  refine (Sk.euler_implS _ _ rs3 _ (O3.out.into (al1 _ _)) (by have := L3.out; omega) (HT.out.below (D3.out.trans ((al1 _ _).mono (by omega))) (Nat.le_refl _))).mono ?_
  rintro e w4 ⟨rfl, hb4⟩
  rw [V3.out]
  have O4 := Lib.hid ((O3.out.below (al1 _ _)).below (hb4.mono (by simp)))
  have D4 := Lib.hid (D3.out.trans ((on1 _ hb4).mono (by omega)))
  have QX := Lib.hid (show w4.cell? ⟨w3.heap.size, 0, none⟩ = some (.slice (some ⟨g3, 0, none⟩) rs3.length c3) from (hb4.cell (p := ⟨w3.heap.size, 0, none⟩) (by simp)).trans (by simp [go_sem]))
  have zx : w3.heap.size < w4.heap.size := by have := hb4.size; simp at this; omega
  have QA := Lib.hid (((on1 _ hb4).cell (p := ⟨w.heap.size, 0, none⟩) (by dsimp only; omega)).trans QA.out)
  clear hb4 qa
  obtain ⟨r9, hr9⟩ : ∃ r, Sk.euV (Fc.vals rs) = r := ⟨_, rfl⟩
  obtain ⟨s9, hs9⟩ : ∃ s, Sk.euC (Fc.vals rs) = s := ⟨_, rfl⟩
  rw [hr9, hs9]
  clear hr9 hs9
  have qa := QA.out
  have qx := QX.out
  go_upto_region 10 with fail
  go_region_held3 (fun W => W.cell? ⟨w3.heap.size, 0, none⟩ = some (.slice (some ⟨g3, 0, none⟩) rs3.length c3) ∧ W.cell? ⟨w.heap.size, 0, none⟩ = some (.slice A rs.length c)) (go_keep)
    (first
      | (go_at_call 16; (with_reducible refine (Fc.toT_any A c rs _ (by exact H.out.into D4.out.drew) hn ROW.out).mono ?_); rintro e w5 ⟨g5, c5, rs5, rfl, ho5, hv5, hb5'⟩; have hb5 := undrew hb5'; have O5 := Lib.hid ho5.rd; have V5 := Lib.hid hv5; have B5 := Lib.hid hb5; have z5 := hb5.size; have e0 := (hb5.cell (p := ⟨w3.heap.size, 0, none⟩) (by dsimp only; omega)).trans qx; have e1 := (hb5.cell (p := ⟨w.heap.size, 0, none⟩) (by dsimp only; omega)).trans qa; clear ho5 hv5 hb5 hb5')
      | (go_at_call 18; (with_reducible refine (Fc.eqT_any _ _ _ _ rs3 rs5 w3.heap.size w5.heap.size _ (by exact O4.out.below (B5.out.mono (by omega))) (by exact O5.out) (V3.out.trans V5.out.symm) (by omega) (Nat.le_refl _) (by have := L3.out; omega) (Fc.rows_same V3.out ROW.out)).mono ?_); rintro e w6 ⟨rfl, hb6⟩; have B6 := Lib.hid (B5.out.trans (hb6.mono B5.out.size)); have f0 := (hb6.cell (p := ⟨w3.heap.size, 0, none⟩) (by dsimp only; omega)).trans e0; have f1 := (hb6.cell (p := ⟨w.heap.size, 0, none⟩) (by dsimp only; omega)).trans e1; clear hb6))
  all_goals
    go_wp2
    go_ret
    exact ⟨rfl, D4.out.trans (B6.out.mono (by omega))⟩

set_option maxRecDepth 100000 in
theorem exactEulerOf_lifted (os : Os) (started : os.Started) (H : Type) (enc : TypeId × Value → H) :
    ReturnsInHanded {} Tryd.checked os 9 .any (fun w args => (Rows.fnExactEulerOfSpec.pre enc Tryd.prog Tryd.f9 [] false w args ∧ laidMetH Tryd.prog Sk.lawLaid w) ∧ sizedMet enc Tryd.prog Tryd.f9 (OpenSpec.ofChange Rows.fnExactEulerOfSpec) false w args)
      (Rows.fnExactEulerOfSpec.post enc Tryd.prog Tryd.f9 false true false false) := by
  refine returnsInHanded_of_change_and (C := Tryd.checked) (X := fun w _ => laidMetH Tryd.prog Sk.lawLaid w) (fun _ _ _ hh h => h.of_heap hh) own started (by kernel_rfl) Tryd.func9
    (ChangeSpec.witness_shaped (enc := enc) (C := Tryd.checked) (os := os) (X := fun w _ => laidMetH Tryd.prog Sk.lawLaid w) false (World.doorLaid Tryd.prog Sk.doorN os) #[.agg #[.slice none 0 0]] 8 rfl (World.shaped_of_RefB (by kernel_rfl) (by kernel_rfl)) (by kernel_rfl) (by kernel_rfl) (by kernel_rfl) (Sk.door_met os _)) ?_
  intro W base args ds gs before hval0 hW _ _ hL _
  have hval : ∀ (j : Nat) t v, Tryd.f9.params[j]? = some t → args[j]? = some v → Value.okWide Tryd.prog W .any base t v := hval0
  have hW' := hW
  obtain ⟨p, q, hA0, hV, rfl, hfz, hnd⟩ := hW
  have hA : DataW.TrodAll enc Tryd.prog W 0 (fun _ => true) true Tryd.f9.params.toList args.toList ds p := hA0
  have hV1 : DataW.TrodVars enc Tryd.prog W (fun _ => true) ["loop.example/g00870/impl.boundaryFace", "loop.example/g00870/impl.perm4s", "loop.example/g00870/impl.edgeEnds", "loop.example/g00870/impl.edgeNumbers"] gs q := hV
  have kV := hV1
  obtain ⟨ga, gb, gc, gd, rfl⟩ := Sk.vars_four hV1
  rw [Tryd.params9] at hA hval
  obtain ⟨v0, vs0, d0, ds0, p0, q0, hargs, rfl, rfl, h0, r0⟩ := trodAll_cons hA
  obtain ⟨rfl, rfl, rfl⟩ := trodAll_nil r0
  obtain rfl : args = #[v0] := by cases args; simp_all
  have k0_ := h0
  have lt0 : ∀ x ∈ p0, x.block < W.heap.size := by obtain ⟨m, hm⟩ := k0_; exact DataW.trod_lt m _ _ _ hm
  obtain ⟨A0, c0, rs0, rfl, hi0, hm0⟩ := Fc.openTri (hval 0 24 v0 rfl rfl) h0
  clear hA0 hval0
  refine (allEulerOf A0 c0 rs0 W hi0 hm0 (Sk.ws_laid hL)).mono fun e W' ⟨he, bel⟩ => ?_
  subst he
  exact ⟨_, rfl, _, _, _, [], _, _, hW', trodAll_mk1 (shut_bool Tryd.underlying4 _), (trodAll_cons_mk (Below.trod laidOut (by kernel_rfl) (of_decide_eq_true (by kernel_rfl)) k0_ bel lt0) trodAll_mk0), Below.trodVars laidOut bel (by kernel_rfl) kV, bel.frame _, fun h => by cases h⟩

theorem exactEulerOf_holds : Rows.FnExactEulerOfSaid :=
  OpenClaim.holds_of_wide 9 Tryd.f9 rfl rfl rfl rfl rfl rfl rfl ⟨rfl, rfl, rfl, rfl, rfl⟩ rfl rfl rfl rfl rfl exactEulerOf_named Tryd.func9 exactEulerOf_facts
    (of_decide_eq_true (by kernel_rfl)) (by unfold Func.isWrapper; first | (rw [if_pos (by decide +kernel)]; kernel_rfl) | (rw [if_neg (by decide +kernel)]; exact ⟨rfl, rfl⟩))
    (fun os started H enc _ => exactEulerOf_lifted os started H enc)

theorem exactEulerOf_card : Rows.FnExactEulerOfCardSaid :=
  Claim7.holds_tied_plain_at .later [] [.wider, .data, .data, .data] true Rows.fnExactEulerOfCard.stood.harness Rows.fnExactEulerOfCard.stood.looks
    exactEulerOf_holds (fun _ h => by cases h) exactEulerOf_wf (fun _ h => by cases h) fnExactEulerOf_row_tie rfl ⟨rfl, rfl⟩ exactEulerOf_main rfl
    (fun f fn hf hfn => by
      obtain rfl : f = 9 := Option.some.inj (exactEulerOf_named.symm.trans hf) |>.symm
      obtain rfl : fn = Tryd.f9 := (Option.some.inj (Tryd.func9.symm.trans hfn)).symm
      exact ⟨exactEulerOf_looks, fun j t ht => by
        rw [Tryd.params9] at ht
        have hm : t ∈ [24] := by simpa using Array.mem_of_getElem? ht
        have hall : ([24].all fun u => !Tryd.prog.wantsStandIn u) = true := by kernel_rfl
        exact (show Tryd.prog.wantsStandIn t = false by simpa using List.all_eq_true.1 hall t hm)⟩)
    exactEulerOf_goes
#print axioms exactEulerOf_card

end Go.Proofs.YtjendlfophdfeaaDoor
