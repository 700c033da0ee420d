/- The law FnExtend returns true for every code that is passed in and changes no memory that was there. The card. No condition but the row's own. -/
import Derived.Test.YtoegfldpadpohaaDoorPfL
import Derived.Test.YtoegfldpadpohaaDoorLiftB
import Derived.Test.YtoegfldpadpohaaDoorPfW
import Derived.Test.YtoegfldpadpohaaDoorPfT
import Derived.Deep.RegionHeld3
import Derived.StillTailTactics
namespace Go.Proofs.YtoegfldpadpohaaDoor
open Go Go.ChangeShapes Go.WideShapes Go.ChangeAt Go.RowKit

namespace P4
/-- The images of the first k numbers of an order. -/
def ims (p s k : Nat) : List Int := ((im s).take k).map fun x => (im p).getD x.toNat 0
theorem ext3 : ∀ p, p < 24 → ∀ s, s < 24 → first ((im s).take 3) (ims p s 3) 3 24 = some p := by decide +kernel
theorem ext1 : ∀ p, p < 24 → ∀ s, s < 24 → ∃ q, q ≤ p ∧ first ((im s).take 1) (ims p s 1) 1 24 = some q ∧ (im q).getD ((im s).getD 0 0).toNat 0 = (im p).getD ((im s).getD 0 0).toNat 0 := by decide +kernel
theorem vs_from : ∀ s, s < 24 → ∀ k, k < 4 → vs ((im s).take k) = true := by decide +kernel
theorem vs_to : ∀ p, p < 24 → ∀ s, s < 24 → ∀ k, k < 4 → vs (ims p s k) = true := by decide +kernel
theorem ims_snoc {p s k : Nat} (hs : s < 24) (hk : k < 4) : ims p s (k + 1) = ims p s k ++ [(im p).getD ((im s).getD k 0).toNat 0] := by
  unfold ims
  rw [Wd.take_snoc (im s) (by rw [im_len s hs]; exact hk), List.map_append]
  rfl
theorem ims_len {p s k : Nat} (hs : s < 24) (hk : k ≤ 4) : (ims p s k).length = k := by
  unfold ims
  rw [List.length_map, List.length_take, im_len s hs]
  omega
end P4
theorem Ints.pre {w : World} {B b n m : Nat} {zs : List Int} (h : Ints w B (some ⟨b, 0, none⟩) n zs) (hm : m ≤ n) : Ints w B (some ⟨b, 0, none⟩) m (zs.take m) := ⟨by rw [List.length_take, h.1]; omega, fun h0 => by
  obtain ⟨b', off, e, hb, hc⟩ := h.2 (by omega)
  cases e
  refine ⟨b, 0, rfl, hb, fun j hj => ?_⟩
  rw [hc j (by omega)]
  congr 2
  rw [List.getD_eq_getElem?_getD, List.getD_eq_getElem?_getD, List.getElem?_take_of_lt hj]⟩

theorem own_cap' {w : World} {lo hi g n c : Nat} {l : List Int} (h : Own w lo hi (some ⟨g, 0, none⟩) n c l) : n ≤ c ∧ c ≤ 9223372036854775807 := by have := Wd.own_cap h; unfold maxLen at this; omega
set_option maxRecDepth 100000 in
set_option maxHeartbeats 8000000 in
theorem allExtend (A : Option Addr) (n c : Nat) (bs : List Int) (w : World) (h : Bys w w.heap.size A n bs) (ht : Tb w) :
    Calls Tryd.prog 4 #[.slice A n c] w fun e w' => e = .returned (.bool true) ∧ Below w.heap.size w w' := by
  have HT := Lib.hid ht
  have h0 := ht.pos
  have H := Lib.hid h
  clear ht h
  by_cases hn : n ≤ 4096
  case neg =>
    have t0 : decide ((4096 : Int) < (n : Int)) = true := by simp; omega
    have BG := Lib.hid (big_impl A n c w)
    rw [t0] at BG
    clear t0
    go_enter Tryd.func4, Tryd.ntmps4
    go_wp2_with fail
    refine BG.out.mono ?_
    rintro e w1 ⟨rfl, rfl⟩
    go_wp2
    go_ret
    exact ⟨rfl, Below.refl _ _⟩
  have t0 : decide ((4096 : Int) < (n : Int)) = false := by simp; omega
  have BG := Lib.hid (big_impl A n c w)
  rw [t0] at BG
  clear t0
  go_enter Tryd.func4, Tryd.ntmps4
  go_wp2_with fail
  refine BG.out.mono ?_
  rintro e w1 ⟨rfl, rfl⟩
  go_wp2_with fail
  refine (roll_impl A n c bs 502 w H.out hn).mono ?_
  rintro e w1 ⟨g, x, rfl, hd1, hg0, hg1, hb1⟩
  have D1 := Lib.hid hb1
  have C1 := Lib.hid hd1
  clear hb1 hd1
  go_wp2_with fail
  refine (below_impl g A n c bs 24 _ _ _ ((H.out.below D1.out).more hg0) hn C1.out (by omega) (by omega)).mono ?_
  rintro e w2 ⟨v1, a1, x1, rfl, v10, v11, hd2, hk2⟩
  obtain ⟨p, rfl⟩ : ∃ p : Nat, v1 = p := ⟨v1.toNat, by omega⟩
  have hp : p < 24 := by omega
  have D2 := Lib.hid (D1.out.trans (hk2.below hg0 D1.out.size))
  have C2 := Lib.hid hd2
  have z2 : w.heap.size ≤ w2.heap.size := D2.out.size
  clear hd2 hk2 v10 v11
  go_wp2_with fail
  refine (order4_impl g A n c bs _ _ _ ((H.out.below D2.out).more hg0) hn C2.out).mono ?_
  rintro e w3 ⟨b, c3, s, a3, x3, hs, rfl, ho3, hb30, hb31, hd3, hk3⟩
  have D3 := Lib.hid (D2.out.trans (hk3.below hg0 z2))
  have O3 := Lib.hid ho3
  have z3 : w.heap.size ≤ w3.heap.size := D3.out.size
  have cc := own_cap' ho3
  clear hd3 hk3 ho3 C1 C2
  have OB := Lib.hid (Wd.own_nil w3)
  have DB := Lib.hid (al1 w3 (Obj.cells #[] 2))
  have i4 : (3 : Int) ≤ (c3 : Int) := by omega
  go_wp2
  go_loopw [7, 8] (fun o i W => ∃ k : Nat, k ≤ 3 ∧ i = .int .i64 k ∧ ∃ b2 c2, o = .slice (some ⟨b2, 0, none⟩) k c2 ∧ Own W w3.heap.size W.heap.size (some ⟨b2, 0, none⟩) k c2 (P4.ims p s k) ∧ Below w3.heap.size w3 W) (fun _ i _ => 3 - (intOf i).toNat)
  case atStart => exact ⟨0, Nat.zero_le _, rfl, _, _, rfl, OB.out.wide (Nat.le_refl _) (by simp), DB.out⟩
  case round =>
    obtain ⟨k, hk, rfl, b2, c2, rfl, ho, hbel⟩ := hrel
    have O := Lib.hid ho
    have D := Lib.hid hbel
    have zD := hbel.size
    have OF := Lib.hid (O3.out.below D.out (by omega))
    have cb2 := own_cap' ho
    clear ho hbel OB DB
    by_cases hlt : k < 3
    · obtain ⟨b', z, e1, _, _, hz, hc, hf⟩ := OF.out.at_ (k := k) (by omega)
      cases e1
      obtain ⟨Z, hZ, hZ4⟩ := (L4.im hs).nat (k := k) (by omega)
      rw [hz] at hZ
      subst hZ
      have AP := Lib.hid (fun W ht => apply_impl p Z W hp hZ4 ht)
      have NX := Lib.hid (show P4.ims p s (k + 1) = P4.ims p s k ++ [(P4.im p).getD Z 0] from by rw [P4.ims_snoc hs (by omega), hz, Int.toNat_natCast])
      obtain ⟨y, hy⟩ : ∃ y, (P4.im p).getD Z 0 = y := ⟨_, rfl⟩
      rw [hy] at AP NX
      have i1 : (k : Int) < 3 := by omega
      clear hz hf hy
      go_wp2_with (first | (go_at_call 22; refine (AP.out _ ((HT.out.below D3.out h0).below D.out (by omega))).mono ?_; rintro e w5 ⟨rfl, hb5⟩; have O5 := Lib.hid (O.out.below hb5 (Nat.le_refl _)); have D5 := Lib.hid (D.out.trans (hb5.mono zD)); have z5 := hb5.size; clear hb5) | (at_builtin; refine Wd.push_int rfl _ _ rfl w3.heap.size wr.heap.size c2 w5.heap.size k (some ⟨b2, 0, none⟩) _ y rfl (by exact O5.out.below (al1 w5 _) z5) rfl (by exact Wd.alloc_first _ _ _ _ rfl) (by simp; omega) (by omega) ?_; intro A7 c7 w7 h5 h6; obtain ⟨g7, z7, rfl, hg7, hg7', hx1, hx2, hx3⟩ := h5.at_ (k := k) (by omega); clear hx1 hx2 hx3; have O7 := Lib.hid h5; have D7 := Lib.hid ((D5.out.trans ((al1 w5 _).mono (by omega))).trans (h6.below (Nat.le_refl _) (by simp; omega))); clear h5 h6))
      go_roundw
      case rel => exact ⟨k + 1, by omega, by go_num, g7, c7, rfl, by rw [NX.out]; exact O7.out, D7.out⟩
      case measure => simp [intOf]; omega
    · obtain rfl : k = 3 := by omega
      have DW := Lib.hid (D3.out.trans (D.out.mono z3))
      have TW := Lib.hid (HT.out.below DW.out h0)
      have IF := Lib.hid (OF.out.ints.more (show b + 1 ≤ wr.heap.size by omega))
      have IT := Lib.hid O.out.ints
      have X3 := Lib.hid (show ∀ W, Ints W W.heap.size (some ⟨b, 0, none⟩) 3 ((P4.im s).take 3) → Ints W W.heap.size (some ⟨b2, 0, none⟩) 3 (P4.ims p s 3) → Tb W → Calls Tryd.prog 24 #[.slice (some ⟨b, 0, none⟩) 3 c3, .slice (some ⟨b2, 0, none⟩) 3 c2] W (fun e w' => e = .returned (.tuple #[.int .i64 (p : Int), .bool true]) ∧ Below W.heap.size W w') from fun W h1 h2 ht => by
        have h := extend_impl _ _ 3 3 c3 c2 _ _ W h1 h2 (by omega) (by omega) ht
        rw [P4.ext_yes (P4.vs_from s hs 3 (by omega)) (P4.vs_to p hp s hs 3 (by omega)), P4.ext3 p hp s hs] at h
        exact h)
      obtain ⟨q, hqp, hq1, hq2⟩ := P4.ext1 p hp s hs
      have X1 := Lib.hid (show ∀ W, Ints W W.heap.size (some ⟨b, 0, none⟩) 1 ((P4.im s).take 1) → Ints W W.heap.size (some ⟨b2, 0, none⟩) 1 (P4.ims p s 1) → Tb W → Calls Tryd.prog 24 #[.slice (some ⟨b, 0, none⟩) 1 c3, .slice (some ⟨b2, 0, none⟩) 1 c2] W (fun e w' => e = .returned (.tuple #[.int .i64 (q : Int), .bool true]) ∧ Below W.heap.size W w') from fun W h1 h2 ht => by
        have h := extend_impl _ _ 1 1 c3 c2 _ _ W h1 h2 (by omega) (by omega) ht
        rw [P4.ext_yes (P4.vs_from s hs 1 (by omega)) (P4.vs_to p hp s hs 1 (by omega)), hq1] at h
        exact h)
      obtain ⟨F0, hF0, hF4⟩ := (L4.im hs).nat (k := 0) (by omega)
      obtain ⟨Y0, hY0, hY4⟩ := (L4.im hp).nat (k := F0) hF4
      rw [hF0, Int.toNat_natCast, hY0] at hq2
      have AQ := Lib.hid (show ∀ W, Tb W → Calls Tryd.prog 22 #[.int .i64 (q : Int), .int .i64 (F0 : Int)] W (ResI W (Y0 : Int)) from fun W ht => by have h := apply_impl q F0 W (by omega) hF4 ht; rw [hq2] at h; exact h)
      have T0 := Lib.hid (show (P4.ims p s 3).getD 0 0 = (Y0 : Int) from by
        have e1 := P4.ims_snoc (p := p) (s := s) (k := 0) hs (by omega)
        have e2 := P4.ims_snoc (p := p) (s := s) (k := 1) hs (by omega)
        have e3 := P4.ims_snoc (p := p) (s := s) (k := 2) hs (by omega)
        have e0 : P4.ims p s 0 = [] := rfl
        rw [e3, e2, e1, e0, hF0, Int.toNat_natCast, hY0]
        rfl)
      have TT1 := Lib.hid (show (P4.ims p s 3).take 1 = P4.ims p s 1 from by unfold P4.ims; rw [← List.map_take, List.take_take]; rfl)
      have F00 := Lib.hid hF0
      clear hq1 hq2 hF0 hY0
      go_wp2_with fail
      refine (X3.out _ (IF.out.pre (m := 3) (by omega)) IT.out TW.out).mono ?_
      rintro e w6 ⟨rfl, hb6⟩
      have D6 := Lib.hid (DW.out.trans (hb6.mono DW.out.size))
      have T6 := Lib.hid (TW.out.below hb6 (by omega))
      have IF6 := Lib.hid ((IF.out.below hb6).more hb6.size)
      have IT6 := Lib.hid ((IT.out.below hb6).more hb6.size)
      clear hb6
      have i5 : (1 : Int) ≤ (c2 : Int) := by omega
      have i6 : (1 : Int) ≤ (c3 : Int) := by omega
      have T7 := Lib.hid (show Tb w6.drew from T6.out)
      have P1 := Lib.hid (show Ints w6.drew w6.drew.heap.size (some ⟨b, 0, none⟩) 1 ((P4.im s).take 1) from IF6.out.pre (m := 1) (by omega))
      have P2 := Lib.hid (show Ints w6.drew w6.drew.heap.size (some ⟨b2, 0, none⟩) 1 (P4.ims p s 1) from by rw [← TT1.out]; exact IT6.out.pre (m := 1) (by omega))
      obtain ⟨b', off', z', e1, hbb, hzz, hc0⟩ := IF6.out.at_z (k := 0) (by omega)
      cases e1
      obtain ⟨b', off', y', e2, hby, hyy, hd0⟩ := IT6.out.at_z (k := 0) (by omega)
      cases e2
      rw [F00.out] at hzz
      subst hzz
      rw [T0.out] at hyy
      subst hyy
      have hc1 : w6.cell? ⟨b, 0, none⟩ = some (.int .i64 (F0 : Int)) := hc0
      have hd1 : w6.cell? ⟨b2, 0, none⟩ = some (.int .i64 (Y0 : Int)) := hd0
      clear hc0 hd0
      go_wp2_with fail
      go_region_held3 (fun W => W.cell? ⟨b, 0, none⟩ = some (.int .i64 (F0 : Int)) ∧ W.cell? ⟨b2, 0, none⟩ = some (.int .i64 (Y0 : Int))) (go_keep)
        ((go_at_call 24; (with_reducible refine (X1.out _ (by exact P1.out) (by exact P2.out) (by exact T7.out)).mono ?_); rintro e w8 ⟨rfl, hb8'⟩; have hb8 := undrew hb8'; have hc0 := (hb8.cell (p := ⟨b, 0, none⟩) hbb).trans hc1; have hd0 := (hb8.cell (p := ⟨b2, 0, none⟩) hby).trans hd1; have D8 := Lib.hid (D6.out.trans (hb8.mono D6.out.size)); have T8 := Lib.hid (show Tb w8.drew from T6.out.below hb8.drew (by have := D6.out.size; omega)); have z8 := hb8.size; clear hb8 hb8'))
      clear hc1 hd1
      have t1 : ((p : Int) == (p : Int)) = true := by simp
      have t2 : decide ((q : Int) ≤ (p : Int)) = true := by simp; omega
      have t3 : (q : Int) ≤ (p : Int) := by omega
      have t4 : ((Y0 : Int) == (Y0 : Int)) = true := by simp
      have h1 : b < w8.heap.size := by omega
      have h2 : b2 < w8.heap.size := by omega
      go_wp2_with fail
      go_region_held3 (fun W => W.cell? ⟨b, 0, none⟩ = some (.int .i64 (F0 : Int)) ∧ W.cell? ⟨b2, 0, none⟩ = some (.int .i64 (Y0 : Int))) (go_keep)
        ((go_at_call 22; (with_reducible refine (AQ.out _ (by exact T8.out)).mono ?_); rintro e w9 ⟨rfl, hb9'⟩; have hb9 := undrew hb9'; have e0 := (hb9.cell (p := ⟨b, 0, none⟩) h1).trans hc0; have e1 := (hb9.cell (p := ⟨b2, 0, none⟩) h2).trans hd0; have D9 := Lib.hid (D8.out.trans (hb9.mono (by have := D8.out.size; omega))); clear hb9 hb9'))
      all_goals
        go_wp2
        go_ret
        exact ⟨rfl, D9.out⟩

set_option maxRecDepth 100000 in
theorem extend_lifted (os : Os) (started : os.Started) (H : Type) (enc : TypeId × Value → H) :
    ReturnsInHanded {} Tryd.checked os 4 .any (fun w args => (Rows.fnExtendSpec.pre enc Tryd.prog Tryd.f4 [] false w args ∧ laidMetH Tryd.prog lawLaid w) ∧ sizedMet enc Tryd.prog Tryd.f4 (OpenSpec.ofChange Rows.fnExtendSpec) false w args)
      (Rows.fnExtendSpec.post enc Tryd.prog Tryd.f4 false true false false) := by
  refine returnsInHanded_of_change_and (C := Tryd.checked) (X := fun w _ => laidMetH Tryd.prog lawLaid w) (fun _ _ _ hh h => h.of_heap hh) own started (by kernel_rfl) Tryd.func4
    (ChangeSpec.witness_shaped (enc := enc) (C := Tryd.checked) (os := os) (X := fun w _ => laidMetH Tryd.prog lawLaid w) false (World.doorLaid Tryd.prog 38 os) #[.slice none 0 0] 8 rfl (World.shaped_of_RefB (by kernel_rfl) (by kernel_rfl)) (by kernel_rfl) (by kernel_rfl) (by kernel_rfl) (door_met os _)) ?_
  intro W base args ds gs before hval0 hW _ _ hL _
  have hval : ∀ (j : Nat) t v, Tryd.f4.params[j]? = some t → args[j]? = some v → Value.okWide Tryd.prog W .any base t v := hval0
  have hW' := hW
  obtain ⟨p, q, hA0, hV, rfl, hfz, hnd⟩ := hW
  have hA : DataW.TrodAll enc Tryd.prog W 0 (fun _ => true) true Tryd.f4.params.toList args.toList ds p := hA0
  have hV1 : DataW.TrodVars enc Tryd.prog W (fun _ => true) ["loop.example/g00870/impl.perm4s"] gs q := hV
  have kV := hV1
  obtain ⟨gg, gt, gcs, gfuel, gd, gp, rfl, _, _, _, _, _⟩ := trodVars_one hV1
  rw [Tryd.params4] at hA hval
  obtain ⟨v0, vs0, d0, ds0, p0, q0, hargs, rfl, rfl, h0, r0⟩ := trodAll_cons hA
  obtain ⟨rfl, rfl, rfl⟩ := trodAll_nil r0
  obtain rfl : args = #[v0] := by cases args; simp_all
  have k0_ := h0
  have lt0 : ∀ x ∈ p0, x.block < W.heap.size := by obtain ⟨m, hm⟩ := k0_; exact DataW.trod_lt m _ _ _ hm
  obtain ⟨A0, n0, c0, bs0, rfl, hi0⟩ := openB (hval 0 22 v0 rfl rfl) h0
  clear hA0 hval0
  refine (allExtend A0 n0 c0 bs0 W hi0 (tb_of_laid hL)).mono fun e W' ⟨he, bel⟩ => ?_
  subst he
  exact ⟨_, rfl, _, _, _, [], _, _, hW', trodAll_mk1 (shut_bool Tryd.underlying4 _), (trodAll_cons_mk (Below.trod laidOut (by kernel_rfl) (of_decide_eq_true (by kernel_rfl)) k0_ bel lt0) trodAll_mk0), Below.trodVars laidOut bel (by kernel_rfl) kV, bel.frame _, fun h => by cases h⟩

theorem extend_holds : Rows.FnExtendSaid :=
  OpenClaim.holds_of_wide 4 Tryd.f4 rfl rfl rfl rfl rfl rfl rfl ⟨rfl, rfl, rfl, rfl, rfl⟩ rfl rfl rfl rfl rfl (by kernel_rfl) Tryd.func4 (by kernel_rfl)
    (of_decide_eq_true (by kernel_rfl)) (by unfold Func.isWrapper; first | (rw [if_pos (by decide +kernel)]; kernel_rfl) | (rw [if_neg (by decide +kernel)]; exact ⟨rfl, rfl⟩))
    (fun os started H enc _ => extend_lifted os started H enc)

theorem extend_card : Rows.FnExtendCardSaid :=
  Claim7.holds_tied_plain_at .later [] [.wider] true Rows.fnExtendCard.stood.harness false
    extend_holds (fun _ h => by cases h) (by kernel_rfl) (fun _ h => by cases h) fnExtend_row_tie rfl ⟨rfl, rfl⟩ (by kernel_rfl) rfl
    (fun f fn hf hfn => by
      obtain rfl : f = 4 := Option.some.inj ((show Tryd.prog.funcNamed "loop.example/g00870/laws.FnExtend" = some 4 by kernel_rfl).symm.trans hf) |>.symm
      obtain rfl : fn = Tryd.f4 := (Option.some.inj (Tryd.func4.symm.trans hfn)).symm
      exact ⟨by kernel_rfl, fun j t ht => by
        rw [Tryd.params4] at ht
        have hm : t ∈ [22] := by simpa using Array.mem_of_getElem? ht
        have hall : ([22].all fun u => !Tryd.prog.wantsStandIn u) = true := by kernel_rfl
        exact (show Tryd.prog.wantsStandIn t = false by simpa using List.all_eq_true.1 hall t hm)⟩)
    (by kernel_rfl)
#print axioms extend_card

end Go.Proofs.YtoegfldpadpohaaDoor
