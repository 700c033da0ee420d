/- The law FnExactIsWord returns true for every list that is passed in and changes no memory that was there. No condition. -/
import Derived.Test.YtpojkahlllochaaLiftW
import Derived.Test.YtpojkahlllochaaWdB
namespace Go.Proofs.Ytpojkahlllochaa
open Go.ChangeShapes Go.WideShapes Go.ChangeAt Go.RowKit

set_option maxRecDepth 100000 in
set_option maxHeartbeats 16000000 in
theorem exactIsWord (Aa : Option Addr) (na ca : Nat) (za : List Int) (bb : Bool) (w : World) (ha : Ints w w.heap.size Aa na za) (hna : na ≤ 1048576)
    (hs : ∀ (W : World) (A : Option Addr), Ints W W.heap.size A na za → Calls Try.prog 16 #[.slice A na na] W (ResB W bb))
    (hi : ∀ (W : World) (A : Option Addr), Ints W W.heap.size A na za → Calls Try.prog 25 #[.slice A na na] W (ResB W bb)) :
    Calls Try.prog 5 #[.slice Aa na ca] w fun e w' => e = .returned (.bool true) ∧ Below w.heap.size w w' := by
  have HS := Lib.hid hs
  have HI := Lib.hid hi
  clear hs hi
  have HB := Lib.hid (Below.refl w.heap.size w)
  have Ha := Lib.hid ha
  have hla := Lib.hid ha.1
  clear ha
  have t0 : decide ((1048576 : Int) < (na : Int)) = false := by simp; omega
  cases bb
  all_goals
    go_enter Try.func5, Try.ntmps5
    go_wp2_with fail
    refine (toInts_any Aa na ca za _ (Ha.out.into HB.out) hna).mono ?_
    rintro e w1 ⟨rfl, hk, hb⟩
    have X1_1 := Lib.hid (Mine.of_blk (lo := w.heap.size) (hi := w1.heap.size) hk (Nat.le_refl _) hk.lt hla.out)
    clear hk
    have D1 := Lib.hid hb
    have s1 : w.heap.size ≤ w1.heap.size := hb.size
    have HB1 := Lib.hid (HB.out.trans (D1.out.mono (by omega)))
    clear HB
    have HB := HB1
    clear HB1 hb
    go_wp2_with fail
    refine (HS.out _ _ (X1_1.out.ints.more (by omega))).mono ?_
    rintro e w2 ⟨rfl, hb⟩
    have D2 := Lib.hid hb
    have s2 : w1.heap.size ≤ w2.heap.size := hb.size
    have X1_2 := Lib.hid (X1_1.out.below D2.out (by omega))
    clear X1_1
    have HB2 := Lib.hid (HB.out.trans (D2.out.mono (by omega)))
    clear HB
    have HB := HB2
    clear HB2 hb
    clear X1_2
    go_wp2_with fail
    refine (toInts_any Aa na ca za _ (Ha.out.into HB.out) hna).mono ?_
    rintro e w3 ⟨rfl, hk, hb⟩
    have X3_3 := Lib.hid (Mine.of_blk (lo := w2.heap.size) (hi := w3.heap.size) hk (Nat.le_refl _) hk.lt hla.out)
    clear hk
    have D3 := Lib.hid hb
    have s3 : w2.heap.size ≤ w3.heap.size := hb.size
    have HB3 := Lib.hid (HB.out.trans (D3.out.mono (by omega)))
    clear HB
    have HB := HB3
    clear HB3 hb
    go_wp2_with fail
    refine (HI.out _ _ (X3_3.out.ints.more (by omega))).mono ?_
    rintro e w4 ⟨rfl, hb⟩
    have D4 := Lib.hid hb
    have s4 : w3.heap.size ≤ w4.heap.size := hb.size
    have X3_4 := Lib.hid (X3_3.out.below D4.out (by omega))
    clear X3_3
    have HB4 := Lib.hid (HB.out.trans (D4.out.mono (by omega)))
    clear HB
    have HB := HB4
    clear HB4 hb
    go_wp2_with fail
    refine (toInts_any Aa na ca za _ (Ha.out.into HB.out) hna).mono ?_
    rintro e w5 ⟨rfl, hk, hb⟩
    have X5_5 := Lib.hid (Mine.of_blk (lo := w4.heap.size) (hi := w5.heap.size) hk (Nat.le_refl _) hk.lt hla.out)
    clear hk
    have D5 := Lib.hid hb
    have s5 : w4.heap.size ≤ w5.heap.size := hb.size
    have X3_5 := Lib.hid (X3_4.out.below D5.out (by omega))
    clear X3_4
    have HB5 := Lib.hid (HB.out.trans (D5.out.mono (by omega)))
    clear HB
    have HB := HB5
    clear HB5 hb
    go_wp2_with fail
    refine (eqInts_any _ _ _ _ _ za (w3.heap.size) (w5.heap.size) _ X3_5.out.ints X5_5.out.ints hna).mono ?_
    rintro e w6 ⟨rfl, hm⟩
    have hb : Below w5.heap.size w5 w6 := by obtain ⟨m, rfl⟩ := hm; exact Go.Joins.below_draws _ _ _
    clear hm
    have D6 := Lib.hid hb
    have s6 : w5.heap.size ≤ w6.heap.size := hb.size
    have X3_6 := Lib.hid (X3_5.out.below D6.out (by omega))
    clear X3_5
    have X5_6 := Lib.hid (X5_5.out.below D6.out (by omega))
    clear X5_5
    have HB6 := Lib.hid (HB.out.trans (D6.out.mono (by omega)))
    clear HB
    have HB := HB6
    clear HB6 hb
    go_wp2
    go_ret
    exact ⟨rfl, HB.out⟩

set_option maxHeartbeats 1000000 in
theorem bigIsWord (A : Option Addr) (n c : Nat) (w : World) (hm : n ≤ maxLen) (hn : ¬ n ≤ 1048576) :
    Calls Try.prog 5 #[.slice A n c] w fun e w' => e = .returned (.bool true) ∧ Below w.heap.size w w' := by
  unfold maxLen at hm
  have t0 : decide ((1048576 : Int) < (n : Int)) = true := by simp; omega
  go_enter Try.func5, Try.ntmps5
  go_wp2
  go_ret
  exact ⟨rfl, Below.refl _ _⟩
theorem allIsWord (A : Option Addr) (n c : Nat) (zs : List Int) (w : World) (h : Ints w w.heap.size A n zs) (hm : n ≤ maxLen) :
    Calls Try.prog 5 #[.slice A n c] w fun e w' => e = .returned (.bool true) ∧ Below w.heap.size w w' := by
  by_cases hn : n ≤ 1048576
  case neg => exact bigIsWord A n c w hm hn
  · exact exactIsWord A n c zs (Wd.isW 24 zs) w h hn (fun W A h => isWord_specB A n n zs W h hn) (fun W A h => isWord_implB A n n zs W h hn)

set_option maxRecDepth 100000 in
theorem exactIsWord_lifted (os : Os) (started : os.Started) (H : Type) (enc : TypeId × Value → H) :
    ReturnsInHanded {} Try.checked os 5 .any (Rows.fnExactIsWordSpec.pre6 enc Try.prog Try.f5 Rows.fnExactIsWordRow.domain false) (Rows.fnExactIsWordSpec.post enc Try.prog Try.f5 false true false false) := by
  refine returnsInHanded_of_change (C := Try.checked) own started (by kernel_rfl) Try.func5
    (ChangeSpec.witness6 (enc := enc) (C := Try.checked) false ⟨#[], #[.slice none 0 0], []⟩ 8 (by kernel_rfl) (by kernel_rfl) (by kernel_rfl) (by kernel_rfl)) ?_
  intro W base args ds gs before hval0 hW _ _
  have hval : ∀ (j : Nat) t v, Try.f5.params[j]? = some t → args[j]? = some v → Value.okWide Try.prog W .any base t v := hval0
  have hW' := hW
  obtain ⟨p, q, hA0, hV, rfl, hfz, hnd⟩ := hW
  have hA : DataW.TrodAll enc Try.prog W 0 (fun _ => true) true Try.f5.params.toList args.toList ds p := hA0
  rw [Try.params5] at hA hval
  obtain ⟨v0, vs0, d0, ds0, p0, q0, hargs, rfl, rfl, h0, r0⟩ := trodAll_cons hA
  obtain ⟨rfl, rfl, rfl⟩ := trodAll_nil r0
  obtain rfl : args = #[v0] := by cases args; simp_all
  obtain ⟨rfl, rfl⟩ := trodVars_none hV
  have k0_ := h0
  have lt0 : ∀ x ∈ p0, x.block < W.heap.size := by obtain ⟨m, hm⟩ := k0_; exact DataW.trod_lt m _ _ _ hm
  obtain ⟨A0, n0, c0, zs0, rfl, hi0, hm0⟩ := openW (hval 0 24 v0 rfl rfl) h0
  clear hA0 hval0
  refine (allIsWord A0 n0 c0 zs0 W hi0 hm0).mono fun e W' ⟨he, bel⟩ => ?_
  subst he
  exact ⟨_, rfl, _, _, _, [], _, [], hW', trodAll_mk1 (shut_bool Try.underlying4 _), (trodAll_cons_mk (Below.trod laidOut (by kernel_rfl) (of_decide_eq_true (by kernel_rfl)) k0_ bel lt0) trodAll_mk0), rfl, bel.frame _, fun h => by cases h⟩

theorem exactIsWord_holds : Rows.FnExactIsWordSaid :=
  OpenClaim.holds_of_wide 5 Try.f5 rfl rfl rfl rfl rfl rfl rfl ⟨rfl, rfl, rfl, rfl, rfl⟩ rfl rfl rfl rfl rfl (by kernel_rfl) Try.func5 (by kernel_rfl)
    (of_decide_eq_true (by kernel_rfl)) (by unfold Func.isWrapper; first | (rw [if_pos (by decide +kernel)]; kernel_rfl) | (rw [if_neg (by decide +kernel)]; exact ⟨rfl, rfl⟩))
    (fun os started H enc _ => exactIsWord_lifted os started H enc)

#print axioms exactIsWord_holds

end Go.Proofs.Ytpojkahlllochaa
