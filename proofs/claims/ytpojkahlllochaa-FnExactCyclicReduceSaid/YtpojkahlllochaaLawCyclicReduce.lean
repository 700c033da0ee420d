/- The law FnExactCyclicReduce returns true for every list that is passed in and changes no memory that was there. No condition. -/
import Derived.Test.YtpojkahlllochaaLiftW
import Derived.Test.YtpojkahlllochaaWdD
namespace Go.Proofs.Ytpojkahlllochaa
open Go.ChangeShapes Go.WideShapes Go.ChangeAt Go.RowKit

set_option maxRecDepth 100000 in
set_option maxHeartbeats 16000000 in
theorem exactCyclicReduce (Aa : Option Addr) (na ca : Nat) (za : List Int) (ll : List Int) (w : World) (ha : Ints w w.heap.size Aa na za) (hna : na ≤ 1048576) (hz : ll.length ≤ 1048576)
    (hs : ∀ (W : World) (A : Option Addr), Ints W W.heap.size A na za → Calls Try.prog 31 #[.slice A na na] W (ResLM W ll))
    (hi : ∀ (W : World) (A : Option Addr), Ints W W.heap.size A na za → Calls Try.prog 19 #[.slice A na na] W (ResLM W ll)) :
    Calls Try.prog 8 #[.slice Aa na ca] w fun e w' => e = .returned (.bool true) ∧ Below w.heap.size w w' := by
  have HS := Lib.hid hs
  have HI := Lib.hid hi
  clear hs hi
  have HB := Lib.hid (Below.refl w.heap.size w)
  have Ha := Lib.hid ha
  have hla := Lib.hid ha.1
  clear ha
  have t0 : decide ((1048576 : Int) < (na : Int)) = false := by simp; omega
  go_enter Try.func8, Try.ntmps8
  go_wp2_with fail
  refine (toInts_any Aa na ca za _ (Ha.out.into HB.out) hna).mono ?_
  rintro e w1 ⟨rfl, hk, hb⟩
  have X1_1 := Lib.hid (Mine.of_blk (lo := w.heap.size) (hi := w1.heap.size) hk (Nat.le_refl _) hk.lt hla.out)
  clear hk
  have D1 := Lib.hid hb
  have s1 : w.heap.size ≤ w1.heap.size := hb.size
  have HB1 := Lib.hid (HB.out.trans (D1.out.mono (by omega)))
  clear HB
  have HB := HB1
  clear HB1 hb
  go_wp2_with fail
  refine (HS.out _ _ (X1_1.out.ints.more (by omega))).mono ?_
  rintro e w2 ⟨R2, t2, rfl, _, hown, hb⟩
  have Y2_2 := Lib.hid hown
  clear hown
  have D2 := Lib.hid hb
  have s2 : w1.heap.size ≤ w2.heap.size := hb.size
  have X1_2 := Lib.hid (X1_1.out.below D2.out (by omega))
  clear X1_1
  have HB2 := Lib.hid (HB.out.trans (D2.out.mono (by omega)))
  clear HB
  have HB := HB2
  clear HB2 hb
  clear X1_2
  go_wp2_with fail
  refine (toInts_any Aa na ca za _ (Ha.out.into HB.out) hna).mono ?_
  rintro e w3 ⟨rfl, hk, hb⟩
  have X3_3 := Lib.hid (Mine.of_blk (lo := w2.heap.size) (hi := w3.heap.size) hk (Nat.le_refl _) hk.lt hla.out)
  clear hk
  have D3 := Lib.hid hb
  have s3 : w2.heap.size ≤ w3.heap.size := hb.size
  have Y2_3 := Lib.hid (Y2_2.out.below D3.out (by omega))
  clear Y2_2
  have HB3 := Lib.hid (HB.out.trans (D3.out.mono (by omega)))
  clear HB
  have HB := HB3
  clear HB3 hb
  go_wp2_with fail
  refine (HI.out _ _ (X3_3.out.ints.more (by omega))).mono ?_
  rintro e w4 ⟨R4, t4, rfl, _, hown, hb⟩
  have Y4_4 := Lib.hid hown
  clear hown
  have D4 := Lib.hid hb
  have s4 : w3.heap.size ≤ w4.heap.size := hb.size
  have Y2_4 := Lib.hid (Y2_3.out.below D4.out (by omega))
  clear Y2_3
  have X3_4 := Lib.hid (X3_3.out.below D4.out (by omega))
  clear X3_3
  have HB4 := Lib.hid (HB.out.trans (D4.out.mono (by omega)))
  clear HB
  have HB := HB4
  clear HB4 hb
  go_wp2_with fail
  refine (eqInts_any _ _ _ _ _ ll (w4.heap.size) (w2.heap.size) _ Y4_4.out.ints Y2_4.out.ints hz).mono ?_
  rintro e w5 ⟨rfl, hm⟩
  have hb : Below w4.heap.size w4 w5 := by obtain ⟨m, rfl⟩ := hm; exact Go.Joins.below_draws _ _ _
  clear hm
  have D5 := Lib.hid hb
  have s5 : w4.heap.size ≤ w5.heap.size := hb.size
  have Y2_5 := Lib.hid (Y2_4.out.below D5.out (by omega))
  clear Y2_4
  have X3_5 := Lib.hid (X3_4.out.below D5.out (by omega))
  clear X3_4
  have Y4_5 := Lib.hid (Y4_4.out.below D5.out (by omega))
  clear Y4_4
  have HB5 := Lib.hid (HB.out.trans (D5.out.mono (by omega)))
  clear HB
  have HB := HB5
  clear HB5 hb
  go_wp2_with fail
  refine (toInts_any Aa na ca za _ (Ha.out.into HB.out) hna).mono ?_
  rintro e w6 ⟨rfl, hk, hb⟩
  have X6_6 := Lib.hid (Mine.of_blk (lo := w5.heap.size) (hi := w6.heap.size) hk (Nat.le_refl _) hk.lt hla.out)
  clear hk
  have D6 := Lib.hid hb
  have s6 : w5.heap.size ≤ w6.heap.size := hb.size
  have Y2_6 := Lib.hid (Y2_5.out.below D6.out (by omega))
  clear Y2_5
  have X3_6 := Lib.hid (X3_5.out.below D6.out (by omega))
  clear X3_5
  have Y4_6 := Lib.hid (Y4_5.out.below D6.out (by omega))
  clear Y4_5
  have HB6 := Lib.hid (HB.out.trans (D6.out.mono (by omega)))
  clear HB
  have HB := HB6
  clear HB6 hb
  go_wp2_with fail
  refine (eqInts_any _ _ _ _ _ za (w3.heap.size) (w6.heap.size) _ X3_6.out.ints X6_6.out.ints hna).mono ?_
  rintro e w7 ⟨rfl, hm⟩
  have hb : Below w6.heap.size w6 w7 := by obtain ⟨m, rfl⟩ := hm; exact Go.Joins.below_draws _ _ _
  clear hm
  have D7 := Lib.hid hb
  have s7 : w6.heap.size ≤ w7.heap.size := hb.size
  have Y2_7 := Lib.hid (Y2_6.out.below D7.out (by omega))
  clear Y2_6
  have X3_7 := Lib.hid (X3_6.out.below D7.out (by omega))
  clear X3_6
  have Y4_7 := Lib.hid (Y4_6.out.below D7.out (by omega))
  clear Y4_6
  have X6_7 := Lib.hid (X6_6.out.below D7.out (by omega))
  clear X6_6
  have HB7 := Lib.hid (HB.out.trans (D7.out.mono (by omega)))
  clear HB
  have HB := HB7
  clear HB7 hb
  clear X6_7
  go_wp2_with fail
  refine (markMine_any (some ⟨w2.heap.size, 0, none⟩) na _ (1) za (w2.heap.size) (w3.heap.size) _ X3_7.out hna (by omega) (by omega)).mono ?_
  rintro e w8 ⟨rfl, hown, hk⟩
  have X3_8 := Lib.hid hown
  clear X3_7 hown
  have D8 := Lib.hid hk
  have s8 : w7.heap.size ≤ w8.heap.size := hk.size
  have Y2_8 := Lib.hid (Y2_7.out.kept D8.out (by omega) (by omega))
  clear Y2_7
  have Y4_8 := Lib.hid (Y4_7.out.kept D8.out (by omega) (by omega))
  clear Y4_7
  have HB8 := Lib.hid (HB.out.trans (D8.out.below (by omega) (by omega)))
  clear HB
  have HB := HB8
  clear HB8 hk
  go_wp2_with fail
  refine (eqInts_any _ _ _ _ _ ll (w4.heap.size) (w2.heap.size) _ Y4_8.out.ints Y2_8.out.ints hz).mono ?_
  rintro e w9 ⟨rfl, hm⟩
  have hb : Below w8.heap.size w8 w9 := by obtain ⟨m, rfl⟩ := hm; exact Go.Joins.below_draws _ _ _
  clear hm
  have D9 := Lib.hid hb
  have s9 : w8.heap.size ≤ w9.heap.size := hb.size
  have Y2_9 := Lib.hid (Y2_8.out.below D9.out (by omega))
  clear Y2_8
  have X3_9 := Lib.hid (X3_8.out.below D9.out (by omega))
  clear X3_8
  have Y4_9 := Lib.hid (Y4_8.out.below D9.out (by omega))
  clear Y4_8
  have HB9 := Lib.hid (HB.out.trans (D9.out.mono (by omega)))
  clear HB
  have HB := HB9
  clear HB9 hb
  go_wp2_with fail
  refine (markMine_any R4 ll.length _ (1) ll (w3.heap.size) (w4.heap.size) _ Y4_9.out hz (by omega) (by omega)).mono ?_
  rintro e w10 ⟨rfl, hown, hk⟩
  have Y4_10 := Lib.hid hown
  clear Y4_9 hown
  have D10 := Lib.hid hk
  have s10 : w9.heap.size ≤ w10.heap.size := hk.size
  have Y2_10 := Lib.hid (Y2_9.out.kept D10.out (by omega) (by omega))
  clear Y2_9
  have X3_10 := Lib.hid (X3_9.out.kept D10.out (by omega) (by omega))
  clear X3_9
  have HB10 := Lib.hid (HB.out.trans (D10.out.below (by omega) (by omega)))
  clear HB
  have HB := HB10
  clear HB10 hk
  have tq : decide ((1 : Int) + (ll.length : Int) < 0) = false := by simp; omega
  go_wp2_with fail
  refine (heldInts_any R4 ll.length _ 1 (w4.heap.size) _ Y4_10.out.ints hz (by omega) (by omega)).mono ?_
  rintro e w' ⟨rfl, rfl⟩
  go_wp2_with fail
  refine (toInts_any Aa na ca za _ (Ha.out.into HB.out) hna).mono ?_
  rintro e w11 ⟨rfl, hk, hb⟩
  have X11_11 := Lib.hid (Mine.of_blk (lo := w10.heap.size) (hi := w11.heap.size) hk (Nat.le_refl _) hk.lt hla.out)
  clear hk
  have D11 := Lib.hid hb
  have s11 : w10.heap.size ≤ w11.heap.size := hb.size
  have Y2_11 := Lib.hid (Y2_10.out.below D11.out (by omega))
  clear Y2_10
  have X3_11 := Lib.hid (X3_10.out.below D11.out (by omega))
  clear X3_10
  have Y4_11 := Lib.hid (Y4_10.out.below D11.out (by omega))
  clear Y4_10
  have HB11 := Lib.hid (HB.out.trans (D11.out.mono (by omega)))
  clear HB
  have HB := HB11
  clear HB11 hb
  go_wp2_with fail
  refine (HI.out _ _ (X11_11.out.ints.more (by omega))).mono ?_
  rintro e w12 ⟨R12, t12, rfl, _, hown, hb⟩
  have Y12_12 := Lib.hid hown
  clear hown
  have D12 := Lib.hid hb
  have s12 : w11.heap.size ≤ w12.heap.size := hb.size
  have Y2_12 := Lib.hid (Y2_11.out.below D12.out (by omega))
  clear Y2_11
  have X3_12 := Lib.hid (X3_11.out.below D12.out (by omega))
  clear X3_11
  have Y4_12 := Lib.hid (Y4_11.out.below D12.out (by omega))
  clear Y4_11
  have X11_12 := Lib.hid (X11_11.out.below D12.out (by omega))
  clear X11_11
  have HB12 := Lib.hid (HB.out.trans (D12.out.mono (by omega)))
  clear HB
  have HB := HB12
  clear HB12 hb
  clear X11_12
  go_wp2_with fail
  refine (eqInts_any _ _ _ _ _ ll (w12.heap.size) (w2.heap.size) _ Y12_12.out.ints Y2_12.out.ints hz).mono ?_
  rintro e w13 ⟨rfl, hm⟩
  have hb : Below w12.heap.size w12 w13 := by obtain ⟨m, rfl⟩ := hm; exact Go.Joins.below_draws _ _ _
  clear hm
  have D13 := Lib.hid hb
  have s13 : w12.heap.size ≤ w13.heap.size := hb.size
  have Y2_13 := Lib.hid (Y2_12.out.below D13.out (by omega))
  clear Y2_12
  have X3_13 := Lib.hid (X3_12.out.below D13.out (by omega))
  clear X3_12
  have Y4_13 := Lib.hid (Y4_12.out.below D13.out (by omega))
  clear Y4_12
  have Y12_13 := Lib.hid (Y12_12.out.below D13.out (by omega))
  clear Y12_12
  have HB13 := Lib.hid (HB.out.trans (D13.out.mono (by omega)))
  clear HB
  have HB := HB13
  clear HB13 hb
  go_wp2_with fail
  refine (heldInts_any R4 ll.length _ 1 (w4.heap.size) _ Y4_13.out.ints hz (by omega) (by omega)).mono ?_
  rintro e w' ⟨rfl, rfl⟩
  go_wp2
  go_ret
  exact ⟨rfl, HB.out⟩

set_option maxHeartbeats 1000000 in
theorem bigCyclicReduce (A : Option Addr) (n c : Nat) (w : World) (hm : n ≤ maxLen) (hn : ¬ n ≤ 1048576) :
    Calls Try.prog 8 #[.slice A n c] w fun e w' => e = .returned (.bool true) ∧ Below w.heap.size w w' := by
  unfold maxLen at hm
  have t0 : decide ((1048576 : Int) < (n : Int)) = true := by simp; omega
  go_enter Try.func8, Try.ntmps8
  go_wp2
  go_ret
  exact ⟨rfl, Below.refl _ _⟩
theorem allCyclicReduce (A : Option Addr) (n c : Nat) (zs : List Int) (w : World) (h : Ints w w.heap.size A n zs) (hm : n ≤ maxLen) :
    Calls Try.prog 8 #[.slice A n c] w fun e w' => e = .returned (.bool true) ∧ Below w.heap.size w w' := by
  by_cases hn : n ≤ 1048576
  case neg => exact bigCyclicReduce A n c w hm hn
  · exact exactCyclicReduce A n c zs (Wd.ifW zs (Wd.cyc (Wd.rd zs))) w h hn (by have := Wd.ifW_len (l := zs) (Nat.le_trans (Wd.cyc_len _) (Wd.rd_len zs)); have := h.1; omega) (fun W A h => cyclic_spec A n n zs W h hn) (fun W A h => cyclic_impl A n n zs W h hn)

set_option maxRecDepth 100000 in
theorem exactCyclicReduce_lifted (os : Os) (started : os.Started) (H : Type) (enc : TypeId × Value → H) :
    ReturnsInHanded {} Try.checked os 8 .any (Rows.fnExactCyclicReduceSpec.pre6 enc Try.prog Try.f8 Rows.fnExactCyclicReduceRow.domain false) (Rows.fnExactCyclicReduceSpec.post enc Try.prog Try.f8 false true false false) := by
  refine returnsInHanded_of_change (C := Try.checked) own started (by kernel_rfl) Try.func8
    (ChangeSpec.witness6 (enc := enc) (C := Try.checked) false ⟨#[], #[.slice none 0 0], []⟩ 8 (by kernel_rfl) (by kernel_rfl) (by kernel_rfl) (by kernel_rfl)) ?_
  intro W base args ds gs before hval0 hW _ _
  have hval : ∀ (j : Nat) t v, Try.f8.params[j]? = some t → args[j]? = some v → Value.okWide Try.prog W .any base t v := hval0
  have hW' := hW
  obtain ⟨p, q, hA0, hV, rfl, hfz, hnd⟩ := hW
  have hA : DataW.TrodAll enc Try.prog W 0 (fun _ => true) true Try.f8.params.toList args.toList ds p := hA0
  rw [Try.params8] at hA hval
  obtain ⟨v0, vs0, d0, ds0, p0, q0, hargs, rfl, rfl, h0, r0⟩ := trodAll_cons hA
  obtain ⟨rfl, rfl, rfl⟩ := trodAll_nil r0
  obtain rfl : args = #[v0] := by cases args; simp_all
  obtain ⟨rfl, rfl⟩ := trodVars_none hV
  have k0_ := h0
  have lt0 : ∀ x ∈ p0, x.block < W.heap.size := by obtain ⟨m, hm⟩ := k0_; exact DataW.trod_lt m _ _ _ hm
  obtain ⟨A0, n0, c0, zs0, rfl, hi0, hm0⟩ := openW (hval 0 24 v0 rfl rfl) h0
  clear hA0 hval0
  refine (allCyclicReduce A0 n0 c0 zs0 W hi0 hm0).mono fun e W' ⟨he, bel⟩ => ?_
  subst he
  exact ⟨_, rfl, _, _, _, [], _, [], hW', trodAll_mk1 (shut_bool Try.underlying4 _), (trodAll_cons_mk (Below.trod laidOut (by kernel_rfl) (of_decide_eq_true (by kernel_rfl)) k0_ bel lt0) trodAll_mk0), rfl, bel.frame _, fun h => by cases h⟩

theorem exactCyclicReduce_holds : Rows.FnExactCyclicReduceSaid :=
  OpenClaim.holds_of_wide 8 Try.f8 rfl rfl rfl rfl rfl rfl rfl ⟨rfl, rfl, rfl, rfl, rfl⟩ rfl rfl rfl rfl rfl (by kernel_rfl) Try.func8 (by kernel_rfl)
    (of_decide_eq_true (by kernel_rfl)) (by unfold Func.isWrapper; first | (rw [if_pos (by decide +kernel)]; kernel_rfl) | (rw [if_neg (by decide +kernel)]; exact ⟨rfl, rfl⟩))
    (fun os started H enc _ => exactCyclicReduce_lifted os started H enc)

#print axioms exactCyclicReduce_holds

end Go.Proofs.Ytpojkahlllochaa
