/- The law FnExactApplyTietze returns true for every presentation and move that are passed in and changes no memory that was there. No condition. -/
import Derived.Test.YtjommpdblbbkdaaLiftP
import Derived.Test.YtjommpdblbbkdaaLiftT
import Derived.Test.YtjommpdblbbkdaaMvA
import Derived.Test.YtjommpdblbbkdaaTzVL
import Derived.Deep.RegionHeld3
namespace Go.Proofs.Ytjommpdblbbkdaa
open Go.ChangeShapes Go.WideShapes Go.ChangeAt Go.RowKit


set_option maxHeartbeats 1000000 in
theorem bigApplyTietze (r : Int) (A : Option Addr) (c : Nat) (rs : List Rw) (K I J : Int) (Aw : Option Addr) (nw cw : Nat) (w : World) (h : RdS w w.heap.size A rs) (hm : rs.length ≤ maxLen) (hmw : nw ≤ maxLen) (hn : ¬ rs.length + tot rs + nw ≤ 1048576) :
    Calls Try.prog 4 #[.agg #[.int .i64 r, .slice A rs.length c], .agg #[.int .i64 K, .int .i64 I, .int .i64 J, .slice Aw nw cw]] w fun e w' => e = .returned (.bool true) ∧ Below w.heap.size w w' := by
  have H := Lib.hid (h.into (al2 w (Obj.cells #[.int .i64 r, .slice A rs.length c] 38) (Obj.cells #[.int .i64 K, .int .i64 I, .int .i64 J, .slice Aw nw cw] 39)))
  have M0 := Lib.hid (show BoxT ((w.alloc (Obj.cells #[.int .i64 r, .slice A rs.length c] 38)).alloc (Obj.cells #[.int .i64 K, .int .i64 I, .int .i64 J, .slice Aw nw cw] 39)) (w.heap.size + 1) (.int .i64 K) (.int .i64 I) (.int .i64 J) (.slice Aw nw cw) from by simpa using BoxT.new (w.alloc (Obj.cells #[.int .i64 r, .slice A rs.length c] 38)) 39 (.int .i64 K) (.int .i64 I) (.int .i64 J) (.slice Aw nw cw))
  clear h
  by_cases h1 : rs.length + tot rs ≤ 1048576
  · have tl0 : decide ((1048576 : Int) - (rs.length : Int) - (tot rs : Int) < 0) = false := by simp; omega
    go_enter Try.func4, Try.ntmps4
    go_wp2_with fail
    refine (szP_any r A c rs _ _ H.out hm (by omega) (by omega)).mono ?_
    rintro e w1 ⟨rfl, hb⟩
    rw [if_neg (by omega)]
    have B1 := Lib.hid hb
    obtain ⟨m0, m1, m2, m3⟩ := M0.out.below hb (by simp)
    clear hb
    go_wp2_with fail
    refine (szM_any K I J Aw nw cw _ _ hmw (by omega) (by omega)).mono ?_
    rintro e w2 ⟨rfl, hb2⟩
    rw [if_pos (by omega)]
    clear m0 m1 m2 m3
    go_wp2
    go_ret
    exact ⟨rfl, (on2 _ _ B1.out).trans (hb2.mono (by have := B1.out.size; simp at this; omega))⟩
  · go_enter Try.func4, Try.ntmps4
    go_wp2_with fail
    refine (szP_any r A c rs _ _ H.out hm (by omega) (by omega)).mono ?_
    rintro e w1 ⟨rfl, hb⟩
    rw [if_pos (by omega)]
    go_wp2
    go_ret
    exact ⟨rfl, on2 _ _ hb⟩
theorem sized_applied (r : Int) (rs : List Rw) (K I J : Int) (ws : List Int) : Sized (applied r (vals rs) K I J ws).2.1 := by
  have key : ∀ r2 chg, Sized (fin 0 r2 chg).2.1 := fun r2 chg => by
    unfold fin
    rw [if_neg (by omega)]
    split
    · rename_i h
      exact sized_isP h
    · exact sized_nil
  unfold applied
  split
  · exact sized_nil
  split
  · exact sized_nil
  by_cases h : mvCode r (vals rs) K I J ws = 0
  · rw [h]; exact key _ _
  · unfold fin; rw [if_pos h]; exact sized_nil
theorem allApplyTietze (r : Int) (A : Option Addr) (c : Nat) (rs : List Rw) (K I J : Int) (Aw : Option Addr) (nw cw : Nat) (zw : List Int) (w : World) (h : RdS w w.heap.size A rs) (hm : rs.length ≤ maxLen) (hw : Ints w w.heap.size Aw nw zw) (hmw : nw ≤ maxLen) :
    Calls Try.prog 4 #[.agg #[.int .i64 r, .slice A rs.length c], .agg #[.int .i64 K, .int .i64 I, .int .i64 J, .slice Aw nw cw]] w fun e w' => e = .returned (.bool true) ∧ Below w.heap.size w w' := by
  by_cases hn : rs.length + tot rs + nw ≤ 1048576
  case neg => exact bigApplyTietze r A c rs K I J Aw nw cw w h hm hmw hn
  · have hrow : ∀ r ∈ rs, r.zs.length ≤ 1048576 := fun q hq => by have := row_le_tot hq; omega
    exact exactApplyTietze r A c rs K I J Aw nw cw zw _ _ _ w h hw hn (sized_applied r rs K I J zw)
      (fun W A' A2 c' c2 qs h' hv h2 => hv ▸ apply_spec K I J r A' A2 c' nw c2 qs zw W h' h2 (by rw [len_of_ hv]; omega) (rows_of hv hrow) (by omega))
      (fun W A' A2 c' c2 qs h' hv h2 => hv ▸ apply_impl K I J r A' A2 c' nw c2 qs zw W h' h2 (by rw [len_of_ hv]; omega) (rows_of hv hrow) (by omega))

set_option maxRecDepth 100000 in
set_option maxHeartbeats 4000000 in
theorem exactApplyTietze_lifted (os : Os) (started : os.Started) (H : Type) (enc : TypeId × Value → H) :
    ReturnsInHanded {} Try.checked os 4 .any (Rows.fnExactApplyTietzeSpec.pre6 enc Try.prog Try.f4 Rows.fnExactApplyTietzeRow.domain false) (Rows.fnExactApplyTietzeSpec.post enc Try.prog Try.f4 false true false false) := by
  refine returnsInHanded_of_change (C := Try.checked) own started (by kernel_rfl) Try.func4
    (ChangeSpec.witness6 (enc := enc) (C := Try.checked) false ⟨#[], #[.agg #[.int .i64 0, .slice none 0 0], .agg #[.int .i64 0, .int .i64 0, .int .i64 0, .slice none 0 0]], []⟩ 8 (by kernel_rfl) (by kernel_rfl) (by kernel_rfl) (by kernel_rfl)) ?_
  intro W base args ds gs before hval0 hW _ _
  have hval : ∀ (j : Nat) t v, Try.f4.params[j]? = some t → args[j]? = some v → Value.okWide Try.prog W .any base t v := hval0
  have hW' := hW
  obtain ⟨p, q, hA0, hV, rfl, hfz, hnd⟩ := hW
  have hA : DataW.TrodAll enc Try.prog W 0 (fun _ => true) true Try.f4.params.toList args.toList ds p := hA0
  rw [Try.params4] at hA hval
  obtain ⟨v0, vs0, d0, ds0, p0, q0, hargs, rfl, rfl, h0, r0⟩ := trodAll_cons hA
  obtain ⟨v1, vs1, d1, ds1, p1, q1, rfl, rfl, rfl, h1, r1⟩ := trodAll_cons r0
  obtain ⟨rfl, rfl, rfl⟩ := trodAll_nil r1
  obtain rfl : args = #[v0, v1] := by cases args; simp_all
  obtain ⟨rfl, rfl⟩ := trodVars_none hV
  have k0_ := h0
  have lt0 : ∀ x ∈ p0, x.block < W.heap.size := by obtain ⟨m, hm⟩ := k0_; exact DataW.trod_lt m _ _ _ hm
  obtain ⟨pr0, A0, c0, rs0, rfl, hi0, hm0, _⟩ := openP (hval 0 38 v0 rfl rfl) h0
  have k1_ := h1
  have lt1 : ∀ x ∈ p1, x.block < W.heap.size := by obtain ⟨m, hm⟩ := k1_; exact DataW.trod_lt m _ _ _ hm
  obtain ⟨k1, i1, j1, A1, n1, c1, zs1, rfl, hi1, hm1, _⟩ := openT (hval 1 39 v1 rfl rfl) h1
  clear hA0 hval0
  refine (allApplyTietze pr0 A0 c0 rs0 k1 i1 j1 A1 n1 c1 zs1 W hi0 hm0 hi1 hm1).mono fun e W' ⟨he, bel⟩ => ?_
  subst he
  exact ⟨_, rfl, _, _, _, [], _, [], hW', trodAll_mk1 (shut_bool Try.underlying4 _), (trodAll_cons_mk (Below.trod laidOut (by kernel_rfl) (of_decide_eq_true (by kernel_rfl)) k0_ bel lt0) (trodAll_cons_mk (Below.trod laidOut (by kernel_rfl) (of_decide_eq_true (by kernel_rfl)) k1_ bel lt1) trodAll_mk0)), rfl, bel.frame _, fun h => by cases h⟩

theorem exactApplyTietze_holds : Rows.FnExactApplyTietzeSaid :=
  OpenClaim.holds_of_wide 4 Try.f4 rfl rfl rfl rfl rfl rfl rfl ⟨rfl, rfl, rfl, rfl, rfl⟩ rfl rfl rfl rfl rfl (by kernel_rfl) Try.func4 (by kernel_rfl)
    (of_decide_eq_true (by kernel_rfl)) (by unfold Func.isWrapper; first | (rw [if_pos (by decide +kernel)]; kernel_rfl) | (rw [if_neg (by decide +kernel)]; exact ⟨rfl, rfl⟩))
    (fun os started H enc _ => exactApplyTietze_lifted os started H enc)

#print axioms exactApplyTietze_holds

end Go.Proofs.Ytjommpdblbbkdaa
