/- The law FnExactMatrixRank returns true for every matrix that is passed in and changes no memory that was there. No condition. -/
import Derived.Test.YtdbljeglnhefmaaLift
import Derived.Test.YtdbljeglnhefmaaInvD
import Derived.Deep.RegionHeld3
namespace Go.Proofs.Ytdbljeglnhefmaa
open Go.ChangeShapes Go.WideShapes Go.ChangeAt Go.RowKit

set_option maxHeartbeats 1000000 in
theorem rank_spec (r q : Int) (A : Option Addr) (n c : Nat) (l : List Int) (code : Int) (w : World) (_hl : l.length ≤ 2304) (hI : Calls Try.prog 36 #[.agg #[.int .i64 r, .int .i64 q, .slice A n c]] (w.alloc (Obj.cells #[.int .i64 r, .int .i64 q, .slice A n c] 27)) (ResL (w.alloc (Obj.cells #[.int .i64 r, .int .i64 q, .slice A n c] 27)) l code)) :
    Calls Try.prog 41 #[.agg #[.int .i64 r, .int .i64 q, .slice A n c]] w fun e w' => e = .returned (.tuple #[.int .i64 (l.length : Int), .int .i64 code]) ∧ Below w.heap.size w w' := by
  have H := Lib.hid hI
  clear hI
  go_enter Try.func41, Try.ntmps41
  go_wp2_with fail
  refine H.out.mono ?_
  rintro e w1 ⟨A2, c2, rfl, _, hb⟩
  go_wp2
  go_ret2
  exact ⟨rfl, on1 _ hb⟩

set_option maxHeartbeats 1000000 in
theorem rank_impl (r q : Int) (A : Option Addr) (n c : Nat) (l : List Int) (code : Int) (w : World) (_hl : l.length ≤ 2304) (hI : Calls Try.prog 37 #[.agg #[.int .i64 r, .int .i64 q, .slice A n c]] (w.alloc (Obj.cells #[.int .i64 r, .int .i64 q, .slice A n c] 27)) (ResL (w.alloc (Obj.cells #[.int .i64 r, .int .i64 q, .slice A n c] 27)) l code)) :
    Calls Try.prog 42 #[.agg #[.int .i64 r, .int .i64 q, .slice A n c]] w fun e w' => e = .returned (.tuple #[.int .i64 (l.length : Int), .int .i64 code]) ∧ Below w.heap.size w w' := by
  have H := Lib.hid hI
  clear hI
  go_enter Try.func42, Try.ntmps42
  go_wp2_with fail
  refine H.out.mono ?_
  rintro e w1 ⟨A2, c2, rfl, _, hb⟩
  go_wp2
  go_ret2
  exact ⟨rfl, on1 _ hb⟩

set_option maxHeartbeats 1000000 in
theorem exactMatrixRank (r q : Int) (A : Option Addr) (n c : Nat) (zs : List Int) (x b : Int) (w : World) (h : Ints w w.heap.size A n zs) (hn : n ≤ 1048576) (hm : n ≤ maxLen)
    (hs : ∀ (W : World) (A : Option Addr) (c : Nat), Ints W W.heap.size A n zs → Calls Try.prog 41 #[.agg #[.int .i64 r, .int .i64 q, .slice A n c]] W fun e w' => e = .returned (.tuple #[.int .i64 x, .int .i64 b]) ∧ Below W.heap.size W w')
    (hi : ∀ (W : World) (A : Option Addr) (c : Nat), Ints W W.heap.size A n zs → Calls Try.prog 42 #[.agg #[.int .i64 r, .int .i64 q, .slice A n c]] W fun e w' => e = .returned (.tuple #[.int .i64 x, .int .i64 b]) ∧ Below W.heap.size W w') :
    Calls Try.prog 11 #[.agg #[.int .i64 r, .int .i64 q, .slice A n c]] w fun e w' => e = .returned (.bool true) ∧ Below w.heap.size w w' := by
  have HS := Lib.hid hs
  have HM := Lib.hid hi
  clear hs hi
  have H := Lib.hid h
  clear h
  have K0 := Lib.hid (Box3.new w 24 (.int .i64 r) (.int .i64 q) (.slice A n c))
  go_enter Try.func11, Try.ntmps11
  go_wp2_with fail
  refine (szM_any r q A n c _ _ hm (by omega) (by omega)).mono ?_
  rintro e w1 ⟨rfl, hb⟩
  rw [if_neg (by omega)]
  have z1 : w.heap.size < w1.heap.size := by have := hb.size; simp at this; omega
  have K1 := Lib.hid (K0.out.below hb (by simp))
  have HB1 := Lib.hid (on1 _ hb)
  have hl := Lib.hid H.out.1
  clear hb K0
  obtain ⟨c0, c1, c2⟩ := K1.out
  go_wp2_with fail
  refine (toM_any r q A n c zs _ (H.out.into HB1.out) hn).mono ?_
  rintro e w2 ⟨g2, rfl, hk2, hg2, hb2⟩
  clear c0 c1 c2
  have K2 := Lib.hid (K1.out.below hb2 z1)
  have HB2 := Lib.hid (HB1.out.trans (hb2.mono HB1.out.size))
  have z2 : w.heap.size < w2.heap.size := by have := hb2.size; omega
  have I2 := Lib.hid (hk2.ints hl.out)
  clear hk2 hb2 K1 HB1
  obtain ⟨c0, c1, c2⟩ := K2.out
  go_wp2_with fail
  refine (HS.out _ _ _ I2.out).mono ?_
  rintro e w3 ⟨rfl, hb3⟩
  clear c0 c1 c2
  clear I2
  have K3 := Lib.hid (K2.out.below hb3 z2)
  have HB3 := Lib.hid (HB2.out.trans (hb3.mono HB2.out.size))
  have z3 : w.heap.size < w3.heap.size := by have := hb3.size; omega
  clear hb3 K2 HB2
  obtain ⟨c0, c1, c2⟩ := K3.out
  go_wp2_with fail
  refine (toM_any r q A n c zs _ (H.out.into HB3.out) hn).mono ?_
  rintro e w4 ⟨g4, rfl, hk4, hg4, hb4⟩
  clear c0 c1 c2
  have K4 := Lib.hid (K3.out.below hb4 z3)
  have HB4 := Lib.hid (HB3.out.trans (hb4.mono HB3.out.size))
  have z4 : w.heap.size < w4.heap.size := by have := hb4.size; omega
  have HK4 := Lib.hid hk4
  clear hk4 hb4 K3 HB3
  obtain ⟨c0, c1, c2⟩ := K4.out
  go_wp2_with fail
  refine (HM.out _ _ _ ((HK4.out.ints hl.out).into (al1 _ _))).mono ?_
  rintro e w5 ⟨rfl, hb5⟩
  clear c0 c1 c2
  have z5 : w4.heap.size < w5.heap.size := by have := hb5.size; simp at this; omega
  have X5 := Lib.hid ((Box3.new w4 27 (.int .i64 r) (.int .i64 q) (.slice (some ⟨g4, 0, none⟩) n n)).below hb5 (by simp))
  have K5 := Lib.hid (K4.out.below (on1 _ hb5) z4)
  have HK5 := Lib.hid (HK4.out.below (on1 _ hb5) HK4.out.lt)
  have HB5 := Lib.hid (HB4.out.trans ((on1 _ hb5).mono HB4.out.size))
  have G4 := HK4.out.lt
  clear hb5 K4 HB4 HK4
  obtain ⟨c0, c1, c2⟩ := K5.out
  obtain ⟨d0, d1, d2⟩ := X5.out
  go_wp2_with fail
  go_region_held3 (fun W => W.cell? ⟨w.heap.size, 0, none⟩ = some (.int .i64 r) ∧ W.cell? ⟨w.heap.size, 1, none⟩ = some (.int .i64 q) ∧ W.cell? ⟨w.heap.size, 2, none⟩ = some (.slice A n c) ∧
      W.cell? ⟨w4.heap.size, 0, none⟩ = some (.int .i64 r) ∧ W.cell? ⟨w4.heap.size, 1, none⟩ = some (.int .i64 q) ∧ W.cell? ⟨w4.heap.size, 2, none⟩ = some (.slice (some ⟨g4, 0, none⟩) n n)) (go_keep)
    (first
      | (go_at_call 16; refine (toM_any r q A n c zs _ (by exact H.out.into HB5.out.drew) hn).mono ?_; rintro e w6 ⟨g6, rfl, hk6, hg6, hb6'⟩; have hb6 := undrew hb6'; have K6 := Lib.hid hk6; have B6 := Lib.hid hb6; obtain ⟨e0, e1, e2⟩ := K5.out.below hb6 (by omega); obtain ⟨f0, f1, f2⟩ := X5.out.below hb6 (by omega); clear hk6 hb6 hb6')
      | (go_at_call 18; refine (eqM_any r q _ _ n _ _ zs w5.heap.size _ _ (by exact B6.out.size) (Nat.le_refl _) (by exact (HK5.out.ints hl.out).below B6.out) (by exact K6.out.ints hl.out) hn).mono ?_; rintro e w7 ⟨rfl, hb7⟩; have z6 := B6.out.size; obtain ⟨m0, m1, m2⟩ := (K5.out.below B6.out (by omega)).below hb7 (by omega); obtain ⟨n0, n1, n2⟩ := (X5.out.below B6.out (by omega)).below hb7 (by omega)))
  go_wp2
  go_ret
  exact ⟨rfl, HB5.out.trans (((B6.out.mono HB5.out.size).trans (hb7.mono (Nat.le_trans HB5.out.size B6.out.size))))⟩


set_option maxHeartbeats 1000000 in
theorem bigMatrixRank (r q : Int) (A : Option Addr) (n c : Nat) (w : World) (hm : n ≤ maxLen) (hn : ¬ n ≤ 1048576) :
    Calls Try.prog 11 #[.agg #[.int .i64 r, .int .i64 q, .slice A n c]] w fun e w' => e = .returned (.bool true) ∧ Below w.heap.size w w' := by
  have hm' := hm
  unfold maxLen at hm'
  go_enter Try.func11, Try.ntmps11
  go_wp2_with fail
  refine (szM_any r q A n c _ _ hm (by omega) (by omega)).mono ?_
  rintro e w1 ⟨rfl, hb⟩
  rw [if_pos (by omega)]
  go_wp2
  go_ret
  exact ⟨rfl, on1 _ hb⟩

theorem invOut_len {R C : Nat} (hR : R ≤ 48) (o : Option Sm.St) : (invOut R C o).1.length ≤ 2304 := by
  cases o with
  | none => simp [invOut]
  | some s => have := nz_diag_len C s.d (min R C); simp only [invOut]; omega
theorem allMatrixRank (r q : Int) (A : Option Addr) (n c : Nat) (zs : List Int) (w : World) (h : Ints w w.heap.size A n zs) (hm : n ≤ maxLen) :
    Calls Try.prog 11 #[.agg #[.int .i64 r, .int .i64 q, .slice A n c]] w fun e w' => e = .returned (.bool true) ∧ Below w.heap.size w w' := by
  by_cases hn : n ≤ 1048576
  case neg => exact bigMatrixRank r q A n c w hm hn
  by_cases hP : MOk r q zs
  · obtain ⟨R, rfl⟩ := Int.eq_ofNat_of_zero_le hP.1
    obtain ⟨C, rfl⟩ := Int.eq_ofNat_of_zero_le hP.2.2.1
    have hR : R ≤ 48 := by have := hP.2.1; omega
    have hC : C ≤ 48 := by have := hP.2.2.2.1; omega
    obtain ⟨o, ho, hg⟩ := Sm.outcome_end (R := R) (C := C) (min R C) 0 (start R C zs) (by omega) (by omega) (start_good hP) (start_ck _ _ _)
    have ho2 := ho.two (min R C) 0 (start R C zs) o (by omega) (by omega) (start_good hP) (start_ck _ _ _)
    exact exactMatrixRank R C A n c zs ((invOut R C o).1.length : Int) (invOut R C o).2 w h hn hm (fun W A c h => rank_spec _ _ A n c _ _ W (invOut_len hR o) (inv_spec_yes R C A n c zs o _ (h.into (al1 _ _)) hR hC hP ho hg)) (fun W A c h => rank_impl _ _ A n c _ _ W (invOut_len hR o) (inv_impl_yes R C A n c zs o _ (h.into (al1 _ _)) hR hC hP ho2 hg))
  · exact exactMatrixRank r q A n c zs 0 1 w h hn hm (fun W A c h => rank_spec _ _ A n c [] _ W (by simp) (inv_spec_no r q A n c zs _ (h.into (al1 _ _)) hn hP)) (fun W A c h => rank_impl _ _ A n c [] _ W (by simp) (inv_impl_no r q A n c zs _ (h.into (al1 _ _)) hn hP))

set_option maxRecDepth 100000 in
theorem exactMatrixRank_lifted (os : Os) (started : os.Started) (H : Type) (enc : TypeId × Value → H) :
    ReturnsInHanded {} Try.checked os 11 .any (Rows.fnExactMatrixRankSpec.pre6 enc Try.prog Try.f11 Rows.fnExactMatrixRankRow.domain false) (Rows.fnExactMatrixRankSpec.post enc Try.prog Try.f11 false true false false) := by
  refine returnsInHanded_of_change (C := Try.checked) own started (by kernel_rfl) Try.func11
    (ChangeSpec.witness6 (enc := enc) (C := Try.checked) false ⟨#[], #[.agg #[.int .i64 0, .int .i64 0, .slice none 0 0]], []⟩ 8 (by kernel_rfl) (by kernel_rfl) (by kernel_rfl) (by kernel_rfl)) ?_
  intro W base args ds gs before hval0 hW _ _
  have hval : ∀ (j : Nat) t v, Try.f11.params[j]? = some t → args[j]? = some v → Value.okWide Try.prog W .any base t v := hval0
  have hW' := hW
  obtain ⟨p, q, hA0, hV, rfl, hfz, hnd⟩ := hW
  have hA : DataW.TrodAll enc Try.prog W 0 (fun _ => true) true Try.f11.params.toList args.toList ds p := hA0
  rw [Try.params11] at hA hval
  obtain ⟨v0, vs0, d0, ds0, p0, q0, hargs, rfl, rfl, h0, r0⟩ := trodAll_cons hA
  obtain ⟨rfl, rfl, rfl⟩ := trodAll_nil r0
  obtain rfl : args = #[v0] := by cases args; simp_all
  obtain ⟨rfl, rfl⟩ := trodVars_none hV
  have k0 := h0
  have lt0 : ∀ x ∈ p0, x.block < W.heap.size := by obtain ⟨m, hm⟩ := k0; exact DataW.trod_lt m _ _ _ hm
  obtain ⟨ra0, qa0, A0, n0, c0, zs0, rfl, hi0, hm0, _, _⟩ := openM (hval 0 24 v0 rfl rfl) h0
  clear hA0 hval0
  refine (allMatrixRank ra0 qa0 A0 n0 c0 zs0 W hi0 hm0).mono fun e W' ⟨he, bel⟩ => ?_
  subst he
  exact ⟨_, rfl, _, _, _, [], _, [], hW', trodAll_mk1 (shut_bool Try.underlying4 _), (trodAll_cons_mk (Below.trod laidOut (by kernel_rfl) (of_decide_eq_true (by kernel_rfl)) k0 bel lt0) trodAll_mk0), rfl, bel.frame _, fun h => by cases h⟩

theorem exactMatrixRank_holds : Rows.FnExactMatrixRankSaid :=
  OpenClaim.holds_of_wide 11 Try.f11 rfl rfl rfl rfl rfl rfl rfl ⟨rfl, rfl, rfl, rfl, rfl⟩ rfl rfl rfl rfl rfl (by kernel_rfl) Try.func11 (by kernel_rfl)
    (of_decide_eq_true (by kernel_rfl)) (by unfold Func.isWrapper; first | (rw [if_pos (by decide +kernel)]; kernel_rfl) | (rw [if_neg (by decide +kernel)]; exact ⟨rfl, rfl⟩))
    (fun os started H enc _ => exactMatrixRank_lifted os started H enc)

#print axioms exactMatrixRank_holds

end Go.Proofs.Ytdbljeglnhefmaa
