/- The law FnPermGroup returns true for every code that is passed in and changes no memory that was there. The card. No condition but the row's own. -/
import Derived.Test.YtoegfldpadpohaaDoorPfL
import Derived.Test.YtoegfldpadpohaaDoorLiftB
import Derived.Test.YtoegfldpadpohaaDoorDic
import Derived.Test.YtoegfldpadpohaaDoorPfV
import Derived.Test.YtoegfldpadpohaaDoorPfR
namespace Go.Proofs.YtoegfldpadpohaaDoor
open Go Go.ChangeShapes Go.WideShapes Go.ChangeAt Go.RowKit

set_option maxRecDepth 100000 in
set_option maxHeartbeats 8000000 in
theorem allPermGroup (A : Option Addr) (n c : Nat) (bs : List Int) (w : World) (h : Bys w w.heap.size A n bs) (ht : Tb w) :
    Calls Tryd.prog 3 #[.slice A n c] w fun e w' => e = .returned (.bool true) ∧ Below w.heap.size w w' := by
  have HT := Lib.hid ht
  have h0 := ht.pos
  have H := Lib.hid h
  clear ht h
  by_cases hn : n ≤ 4096
  case neg =>
    have t0 : decide ((4096 : Int) < (n : Int)) = true := by simp; omega
    have BG := Lib.hid (big_impl A n c w)
    rw [t0] at BG
    clear t0
    go_enter Tryd.func3, Tryd.ntmps3
    go_wp2_with fail
    refine BG.out.mono ?_
    rintro e w1 ⟨rfl, rfl⟩
    go_wp2
    go_ret
    exact ⟨rfl, Below.refl _ _⟩
  have t0 : decide ((4096 : Int) < (n : Int)) = false := by simp; omega
  have BG := Lib.hid (big_impl A n c w)
  rw [t0] at BG
  clear t0
  go_enter Tryd.func3, Tryd.ntmps3
  go_wp2_with fail
  refine BG.out.mono ?_
  rintro e w1 ⟨rfl, rfl⟩
  go_wp2_with fail
  refine (roll_impl A n c bs 501 w H.out hn).mono ?_
  rintro e w1 ⟨g, x, rfl, hd1, hg0, hg1, hb1⟩
  have D1 := Lib.hid hb1
  have C1 := Lib.hid hd1
  clear hb1 hd1
  go_wp2_with fail
  refine (below_impl g A n c bs 24 _ _ _ ((H.out.below D1.out).more hg0) hn C1.out (by omega) (by omega)).mono ?_
  rintro e w2 ⟨v1, a1, x1, rfl, v10, v11, hd2, hk2⟩
  obtain ⟨p, rfl⟩ : ∃ p : Nat, v1 = p := ⟨v1.toNat, by omega⟩
  have hp : p < 24 := by omega
  have D2 := Lib.hid (D1.out.trans (hk2.below hg0 D1.out.size))
  have C2 := Lib.hid hd2
  clear hd2 hk2 v10 v11
  go_wp2_with fail
  refine (below_impl g A n c bs 24 _ _ _ ((H.out.below D2.out).more hg0) hn C2.out (by omega) (by omega)).mono ?_
  rintro e w3 ⟨v2, a2, x2, rfl, v20, v21, hd3, hk3⟩
  obtain ⟨q, rfl⟩ : ∃ q : Nat, v2 = q := ⟨v2.toNat, by omega⟩
  have hq : q < 24 := by omega
  have D3 := Lib.hid (D2.out.trans (hk3.below hg0 D2.out.size))
  have C3 := Lib.hid hd3
  clear hd3 hk3 v20 v21
  go_wp2_with fail
  refine (below_impl g A n c bs 24 _ _ _ ((H.out.below D3.out).more hg0) hn C3.out (by omega) (by omega)).mono ?_
  rintro e w4 ⟨v3, a3, x3, rfl, v30, v31, hd4, hk4⟩
  obtain ⟨r, rfl⟩ : ∃ r : Nat, v3 = r := ⟨v3.toNat, by omega⟩
  have hr : r < 24 := by omega
  have D4 := Lib.hid (D3.out.trans (hk4.below hg0 D3.out.size))
  have C4 := Lib.hid hd4
  clear hd4 hk4 v30 v31
  clear C1 C2 C3 C4
  have T4 := Lib.hid (HT.out.below D4.out h0)
  have z4 : w.heap.size ≤ w4.heap.size := D4.out.size
  have CO := Lib.hid (fun (a b : Nat) (ha : a < 24) (hb : b < 24) W ht => compose_impl a b W ha hb ht)
  have C3 := Lib.hid (fun W ht => by have h := compose_impl p (P4.thn q r) W hp (P4.thn_lt hq hr) ht; rw [P4.thn_assoc hp hq hr] at h; exact h)
  have IV := Lib.hid (fun W ht => invert_impl p W hp ht)
  have C4 := Lib.hid (show ∀ W, Tb W → Calls Tryd.prog 16 #[.int .i64 (p : Int), .int .i64 (P4.ivt p : Int)] W (ResI W 0) from fun W ht => by have h := compose_impl p (P4.ivt p) W hp (P4.ivt_lt hp) ht; rw [P4.thn_ivt p hp] at h; exact h)
  have C5 := Lib.hid (show ∀ W, Tb W → Calls Tryd.prog 16 #[.int .i64 (P4.ivt p : Int), .int .i64 (p : Int)] W (ResI W 0) from fun W ht => by have h := compose_impl (P4.ivt p) p W (P4.ivt_lt hp) hp ht; rw [P4.ivt_thn p hp] at h; exact h)
  have S1 := Lib.hid (fun W ht => by have h := sign_impl (P4.thn p q) W (P4.thn_lt hp hq) ht; rw [P4.sg_thn p hp q hq] at h; exact h)
  have S2 := Lib.hid (fun W ht => sign_impl p W hp ht)
  have S3 := Lib.hid (fun W ht => sign_impl q W hq ht)
  have SA := P4.sgO_in (P4.im p) 4
  have SB := P4.sgO_in (P4.im q) 4
  obtain ⟨sa, hsa⟩ : ∃ sa, P4.sgO (P4.im p) 4 = sa := ⟨_, rfl⟩
  obtain ⟨sb, hsb⟩ : ∃ sb, P4.sgO (P4.im q) 4 = sb := ⟨_, rfl⟩
  rw [hsa, hsb] at S1
  rw [hsa] at S2 SA
  rw [hsb] at S3 SB
  clear hsa hsb
  have SC : sa * sb = 1 ∨ sa * sb = -1 := by rcases SA with rfl | rfl <;> rcases SB with rfl | rfl <;> decide
  obtain ⟨sc, hsc⟩ : ∃ sc, sa * sb = sc := ⟨_, rfl⟩
  rw [hsc] at SC S1
  have SW : IntKind.i64.wrap sc = sc := by rcases SC with rfl | rfl <;> rfl
  have SN2 : (sa == 0) = false := by rcases SA with rfl | rfl <;> rfl
  have sc0 : -1 ≤ sc := by omega
  have sc1 : sc ≤ 1 := by omega
  have SN : (sa != 0) = true := by rcases SA with rfl | rfl <;> rfl
  have sa0 : -1 ≤ sa := by omega
  have sa1 : sa ≤ 1 := by omega
  have sb0 : -1 ≤ sb := by omega
  have sb1 : sb ≤ 1 := by omega
  clear SA SB SC
  go_wp2_with fail
  refine (CO.out p q hp hq _ T4.out).mono ?_
  rintro e w5 ⟨rfl, hb5⟩
  have D5 := Lib.hid (D4.out.trans (hb5.mono z4))
  have T5 := Lib.hid (T4.out.below hb5 (by omega))
  have z5 : w.heap.size ≤ w5.heap.size := D5.out.size
  clear hb5
  go_wp2_with fail
  refine (CO.out (P4.thn p q) r (P4.thn_lt hp hq) hr _ T5.out).mono ?_
  rintro e w6 ⟨rfl, hb6⟩
  have D6 := Lib.hid (D5.out.trans (hb6.mono z5))
  have T6 := Lib.hid (T5.out.below hb6 (by omega))
  have z6 : w.heap.size ≤ w6.heap.size := D6.out.size
  clear hb6
  go_wp2_with fail
  refine (CO.out q r hq hr _ T6.out).mono ?_
  rintro e w7 ⟨rfl, hb7⟩
  have D7 := Lib.hid (D6.out.trans (hb7.mono z6))
  have T7 := Lib.hid (T6.out.below hb7 (by omega))
  have z7 : w.heap.size ≤ w7.heap.size := D7.out.size
  clear hb7
  go_wp2_with fail
  refine (C3.out _ T7.out).mono ?_
  rintro e w8 ⟨rfl, hb8⟩
  have D8 := Lib.hid (D7.out.trans (hb8.mono z7))
  have T8 := Lib.hid (T7.out.below hb8 (by omega))
  have z8 : w.heap.size ≤ w8.heap.size := D8.out.size
  clear hb8
  go_wp2_with fail
  refine (IV.out _ T8.out).mono ?_
  rintro e w9 ⟨rfl, hb9⟩
  have D9 := Lib.hid (D8.out.trans (hb9.mono z8))
  have T9 := Lib.hid (T8.out.below hb9 (by omega))
  have z9 : w.heap.size ≤ w9.heap.size := D9.out.size
  clear hb9
  go_wp2_with fail
  refine (C4.out _ T9.out).mono ?_
  rintro e w10 ⟨rfl, hb10⟩
  have D10 := Lib.hid (D9.out.trans (hb10.mono z9))
  have T10 := Lib.hid (T9.out.below hb10 (by omega))
  have z10 : w.heap.size ≤ w10.heap.size := D10.out.size
  clear hb10
  go_wp2_with fail
  refine (IV.out _ T10.out).mono ?_
  rintro e w11 ⟨rfl, hb11⟩
  have D11 := Lib.hid (D10.out.trans (hb11.mono z10))
  have T11 := Lib.hid (T10.out.below hb11 (by omega))
  have z11 : w.heap.size ≤ w11.heap.size := D11.out.size
  clear hb11
  go_wp2_with fail
  refine (C5.out _ T11.out).mono ?_
  rintro e w12 ⟨rfl, hb12⟩
  have D12 := Lib.hid (D11.out.trans (hb12.mono z11))
  have T12 := Lib.hid (T11.out.below hb12 (by omega))
  have z12 : w.heap.size ≤ w12.heap.size := D12.out.size
  clear hb12
  go_wp2_with fail
  refine (CO.out p q hp hq _ T12.out).mono ?_
  rintro e w13 ⟨rfl, hb13⟩
  have D13 := Lib.hid (D12.out.trans (hb13.mono z12))
  have T13 := Lib.hid (T12.out.below hb13 (by omega))
  have z13 : w.heap.size ≤ w13.heap.size := D13.out.size
  clear hb13
  go_wp2_with fail
  refine (S1.out _ T13.out).mono ?_
  rintro e w14 ⟨rfl, hb14⟩
  have D14 := Lib.hid (D13.out.trans (hb14.mono z13))
  have T14 := Lib.hid (T13.out.below hb14 (by omega))
  have z14 : w.heap.size ≤ w14.heap.size := D14.out.size
  clear hb14
  go_wp2_with fail
  refine (S2.out _ T14.out).mono ?_
  rintro e w15 ⟨rfl, hb15⟩
  have D15 := Lib.hid (D14.out.trans (hb15.mono z14))
  have T15 := Lib.hid (T14.out.below hb15 (by omega))
  have z15 : w.heap.size ≤ w15.heap.size := D15.out.size
  clear hb15
  go_wp2_with fail
  refine (S3.out _ T15.out).mono ?_
  rintro e w16 ⟨rfl, hb16⟩
  have D16 := Lib.hid (D15.out.trans (hb16.mono z15))
  have T16 := Lib.hid (T15.out.below hb16 (by omega))
  have z16 : w.heap.size ≤ w16.heap.size := D16.out.size
  clear hb16
  go_wp2_with fail
  refine (S2.out _ T16.out).mono ?_
  rintro e w17 ⟨rfl, hb17⟩
  have D17 := Lib.hid (D16.out.trans (hb17.mono z16))
  have T17 := Lib.hid (T16.out.below hb17 (by omega))
  have z17 : w.heap.size ≤ w17.heap.size := D17.out.size
  clear hb17
  obtain ⟨o1, o2, o3⟩ := P4.it_ord p hp
  have OR := Lib.hid (fun W ht => order_impl p W hp ht)
  have O1 := Lib.hid o1
  obtain ⟨o, ho⟩ : ∃ o, P4.ord p = o := ⟨_, rfl⟩
  rw [ho] at OR O1 o2
  clear o1 o3 ho
  obtain ⟨K, hK⟩ : ∃ K : Nat, (r : Int) % 4 = (K : Int) := ⟨r % 4, by omega⟩
  have hK4 : K < 4 := by omega
  have AV := (L4.im hp).nat hK4
  obtain ⟨u, hu, hu4⟩ := AV
  have AP := Lib.hid (show ∀ W, Tb W → Calls Tryd.prog 22 #[.int .i64 (p : Int), .int .i64 (K : Int)] W (ResI W (u : Int)) from fun W ht => by have h := apply_impl p K W hp hK4 ht; rw [hu] at h; exact h)
  have AB := Lib.hid (show ∀ W, Tb W → Calls Tryd.prog 22 #[.int .i64 (P4.ivt p : Int), .int .i64 (u : Int)] W (ResI W (K : Int)) from fun W ht => by
    have h := apply_impl (P4.ivt p) u W (P4.ivt_lt hp) hu4 ht
    have e := P4.back_at p hp K hK4
    rw [hu, Int.toNat_natCast] at e
    rw [e] at h
    exact h)
  have IX := Lib.hid (show ∀ A1 c1 W, Ints W W.heap.size A1 4 (P4.im p) → Tb W → Calls Tryd.prog 20 #[.slice A1 4 c1] W (ResI W (p : Int)) from fun A1 c1 W hI ht => by
    have h := indexOf_impl A1 4 c1 (P4.im p) W hI (by omega) ht
    rw [P4.ixr_yes hp rfl] at h
    exact h)
  clear hu CO C3 C4 C5 S1 S2 S3
  go_wp2
  go_loopw [10, 11] (fun x k W => ∃ j : Nat, j ≤ o ∧ x = .int .i64 (P4.it p j) ∧ k = .int .i64 ((j : Int) + 1) ∧ Below w.heap.size w W) (fun _ k _ => o + 1 - (intOf k).toNat)
  case atStart => exact ⟨0, Nat.zero_le _, rfl, rfl, D17.out⟩
  case round =>
    obtain ⟨j, hj, rfl, rfl, hbel⟩ := hrel
    have D100 := Lib.hid hbel
    have T100 := Lib.hid (HT.out.below hbel h0)
    have z100 : w.heap.size ≤ wr.heap.size := hbel.size
    clear hbel
    by_cases hlt : j < o
    · have IL := P4.it_lt hp j
      have NX := Lib.hid (show P4.it p (j + 1) = P4.thn (P4.it p j) p from rfl)
      have C6 := Lib.hid (fun W ht => compose_impl (P4.it p j) p W IL hp ht)
      obtain ⟨y, hy⟩ : ∃ y, P4.it p j = y := ⟨_, rfl⟩
      rw [hy] at NX C6 ⊢
      clear hy
      have t1 : decide ((j : Int) + 1 < (o : Int) + 1) = true := by simp; omega
      have t2 : decide ((j : Int) + 1 < 24) = true := by simp; omega
      go_wp2_with fail
      refine (OR.out _ T100.out).mono ?_
      rintro e w101 ⟨rfl, hb101⟩
      have D101 := Lib.hid (D100.out.trans (hb101.mono z100))
      have T101 := Lib.hid (T100.out.below hb101 (by omega))
      have z101 : w.heap.size ≤ w101.heap.size := D101.out.size
      clear hb101
      go_wp2_with fail
      refine (C6.out _ T101.out).mono ?_
      rintro e w102 ⟨rfl, hb102⟩
      have D102 := Lib.hid (D101.out.trans (hb102.mono z101))
      have T102 := Lib.hid (T101.out.below hb102 (by omega))
      have z102 : w.heap.size ≤ w102.heap.size := D102.out.size
      clear hb102
      go_wp2
      go_roundw
      case rel => exact ⟨j + 1, by omega, by rw [NX.out], by go_num, D102.out⟩
      case measure => simp [intOf]; omega
    · obtain rfl : j = o := by omega
      rw [O1.out]
      have t1 : decide ((j : Int) + 1 < (j : Int) + 1) = false := by simp
      go_wp2_with fail
      refine (OR.out _ T100.out).mono ?_
      rintro e w101 ⟨rfl, hb101⟩
      have D101 := Lib.hid (D100.out.trans (hb101.mono z100))
      have T101 := Lib.hid (T100.out.below hb101 (by omega))
      have z101 : w.heap.size ≤ w101.heap.size := D101.out.size
      clear hb101
      go_wp2_with fail
      refine (perm4_impl p _ hp T101.out).mono ?_
      rintro e w102 ⟨A1, c1, rfl, ho1, hb102⟩
      have I1 := Lib.hid ho1.ints
      have D102 := Lib.hid (D101.out.trans (hb102.mono z101))
      have T102 := Lib.hid (T101.out.below hb102 (by omega))
      have z102 : w.heap.size ≤ w102.heap.size := D102.out.size
      clear ho1 hb102
      go_wp2_with fail
      refine (IX.out A1 c1 _ I1.out T102.out).mono ?_
      rintro e w103 ⟨rfl, hb103⟩
      have D103 := Lib.hid (D102.out.trans (hb103.mono z102))
      have T103 := Lib.hid (T102.out.below hb103 (by omega))
      have z103 : w.heap.size ≤ w103.heap.size := D103.out.size
      clear hb103
      go_wp2_with fail
      refine (IV.out _ T103.out).mono ?_
      rintro e w104 ⟨rfl, hb104⟩
      have D104 := Lib.hid (D103.out.trans (hb104.mono z103))
      have T104 := Lib.hid (T103.out.below hb104 (by omega))
      have z104 : w.heap.size ≤ w104.heap.size := D104.out.size
      clear hb104
      go_wp2_with fail
      refine (AP.out _ T104.out).mono ?_
      rintro e w105 ⟨rfl, hb105⟩
      have D105 := Lib.hid (D104.out.trans (hb105.mono z104))
      have T105 := Lib.hid (T104.out.below hb105 (by omega))
      have z105 : w.heap.size ≤ w105.heap.size := D105.out.size
      clear hb105
      go_wp2_with fail
      refine (AB.out _ T105.out).mono ?_
      rintro e w106 ⟨rfl, hb106⟩
      have D106 := Lib.hid (D105.out.trans (hb106.mono z105))
      have T106 := Lib.hid (T105.out.below hb106 (by omega))
      have z106 : w.heap.size ≤ w106.heap.size := D106.out.size
      clear hb106
      go_wp2
      go_ret
      exact ⟨by simp, D106.out⟩

set_option maxRecDepth 100000 in
theorem permGroup_lifted (os : Os) (started : os.Started) (H : Type) (enc : TypeId × Value → H) :
    ReturnsInHanded {} Tryd.checked os 3 .any (fun w args => (Rows.fnPermGroupSpec.pre enc Tryd.prog Tryd.f3 [] false w args ∧ laidMetH Tryd.prog lawLaid w) ∧ sizedMet enc Tryd.prog Tryd.f3 (OpenSpec.ofChange Rows.fnPermGroupSpec) false w args)
      (Rows.fnPermGroupSpec.post enc Tryd.prog Tryd.f3 false true false false) := by
  refine returnsInHanded_of_change_and (C := Tryd.checked) (X := fun w _ => laidMetH Tryd.prog lawLaid w) (fun _ _ _ hh h => h.of_heap hh) own started (by kernel_rfl) Tryd.func3
    (ChangeSpec.witness_shaped (enc := enc) (C := Tryd.checked) (os := os) (X := fun w _ => laidMetH Tryd.prog lawLaid w) false (World.doorLaid Tryd.prog 38 os) #[.slice none 0 0] 8 rfl (World.shaped_of_RefB (by kernel_rfl) (by kernel_rfl)) (by kernel_rfl) (by kernel_rfl) (by kernel_rfl) (door_met os _)) ?_
  intro W base args ds gs before hval0 hW _ _ hL _
  have hval : ∀ (j : Nat) t v, Tryd.f3.params[j]? = some t → args[j]? = some v → Value.okWide Tryd.prog W .any base t v := hval0
  have hW' := hW
  obtain ⟨p, q, hA0, hV, rfl, hfz, hnd⟩ := hW
  have hA : DataW.TrodAll enc Tryd.prog W 0 (fun _ => true) true Tryd.f3.params.toList args.toList ds p := hA0
  have hV1 : DataW.TrodVars enc Tryd.prog W (fun _ => true) ["loop.example/g00870/impl.perm4s"] gs q := hV
  have kV := hV1
  obtain ⟨gg, gt, gcs, gfuel, gd, gp, rfl, _, _, _, _, _⟩ := trodVars_one hV1
  rw [Tryd.params3] at hA hval
  obtain ⟨v0, vs0, d0, ds0, p0, q0, hargs, rfl, rfl, h0, r0⟩ := trodAll_cons hA
  obtain ⟨rfl, rfl, rfl⟩ := trodAll_nil r0
  obtain rfl : args = #[v0] := by cases args; simp_all
  have k0_ := h0
  have lt0 : ∀ x ∈ p0, x.block < W.heap.size := by obtain ⟨m, hm⟩ := k0_; exact DataW.trod_lt m _ _ _ hm
  obtain ⟨A0, n0, c0, bs0, rfl, hi0⟩ := openB (hval 0 22 v0 rfl rfl) h0
  clear hA0 hval0
  refine (allPermGroup A0 n0 c0 bs0 W hi0 (tb_of_laid hL)).mono fun e W' ⟨he, bel⟩ => ?_
  subst he
  exact ⟨_, rfl, _, _, _, [], _, _, hW', trodAll_mk1 (shut_bool Tryd.underlying4 _), (trodAll_cons_mk (Below.trod laidOut (by kernel_rfl) (of_decide_eq_true (by kernel_rfl)) k0_ bel lt0) trodAll_mk0), Below.trodVars laidOut bel (by kernel_rfl) kV, bel.frame _, fun h => by cases h⟩

theorem permGroup_holds : Rows.FnPermGroupSaid :=
  OpenClaim.holds_of_wide 3 Tryd.f3 rfl rfl rfl rfl rfl rfl rfl ⟨rfl, rfl, rfl, rfl, rfl⟩ rfl rfl rfl rfl rfl (by kernel_rfl) Tryd.func3 (by kernel_rfl)
    (of_decide_eq_true (by kernel_rfl)) (by unfold Func.isWrapper; first | (rw [if_pos (by decide +kernel)]; kernel_rfl) | (rw [if_neg (by decide +kernel)]; exact ⟨rfl, rfl⟩))
    (fun os started H enc _ => permGroup_lifted os started H enc)

theorem permGroup_card : Rows.FnPermGroupCardSaid :=
  Claim7.holds_tied_plain_at .later [] [.wider] true Rows.fnPermGroupCard.stood.harness false
    permGroup_holds (fun _ h => by cases h) (by kernel_rfl) (fun _ h => by cases h) fnPermGroup_row_tie rfl ⟨rfl, rfl⟩ (by kernel_rfl) rfl
    (fun f fn hf hfn => by
      obtain rfl : f = 3 := Option.some.inj ((show Tryd.prog.funcNamed "loop.example/g00870/laws.FnPermGroup" = some 3 by kernel_rfl).symm.trans hf) |>.symm
      obtain rfl : fn = Tryd.f3 := (Option.some.inj (Tryd.func3.symm.trans hfn)).symm
      exact ⟨by kernel_rfl, fun j t ht => by
        rw [Tryd.params3] at ht
        have hm : t ∈ [22] := by simpa using Array.mem_of_getElem? ht
        have hall : ([22].all fun u => !Tryd.prog.wantsStandIn u) = true := by kernel_rfl
        exact (show Tryd.prog.wantsStandIn t = false by simpa using List.all_eq_true.1 hall t hm)⟩)
    (by kernel_rfl)
#print axioms permGroup_card

end Go.Proofs.YtoegfldpadpohaaDoor
