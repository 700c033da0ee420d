/- The law FnExactIsPresentation returns true for every presentation that is passed in and changes no memory that was there. No condition. -/
import Derived.Test.YtpojkahlllochaaLiftP
import Derived.Test.YtpojkahlllochaaWdP
import Derived.Deep.RegionHeld3
namespace Go.Proofs.Ytpojkahlllochaa
open Go.ChangeShapes Go.WideShapes Go.ChangeAt Go.RowKit

theorem rows_of {rs qs : List Rw} (h : vals rs = vals qs) (hq : ∀ r ∈ qs, r.zs.length ≤ 1048576) : ∀ r ∈ rs, r.zs.length ≤ 1048576 := fun r hr => by
  have h1 : r.zs ∈ vals qs := by rw [← h]; exact List.mem_map_of_mem hr
  obtain ⟨q, hq1, hq2⟩ := List.mem_map.1 h1
  rw [← hq2]
  exact hq q hq1

set_option maxRecDepth 100000 in
set_option maxHeartbeats 16000000 in
theorem exactIsPresentation (ra : Int) (Aa : Option Addr) (ca : Nat) (rsa : List Rw) (bb : Bool) (w : World) (ha : RdS w w.heap.size Aa rsa) (hna : rsa.length + tot rsa ≤ 1048576)
    (hs : ∀ (W : World) (A : Option Addr) (c : Nat) (rs : List Rw), RdS W W.heap.size A rs → vals rs = vals rsa → Calls Try.prog 22 #[.agg #[.int .i64 ra, .slice A rs.length c]] W (ResB W bb))
    (hi : ∀ (W : World) (A : Option Addr) (c : Nat) (rs : List Rw), RdS W W.heap.size A rs → vals rs = vals rsa → Calls Try.prog 34 #[.agg #[.int .i64 ra, .slice A rs.length c]] W (ResB W bb)) :
    Calls Try.prog 9 #[.agg #[.int .i64 ra, .slice Aa rsa.length ca]] w fun e w' => e = .returned (.bool true) ∧ Below w.heap.size w w' := by
  have HS := Lib.hid hs
  have HI := Lib.hid hi
  clear hs hi
  have HB := Lib.hid (Below.refl w.heap.size w)
  have Ha := Lib.hid ha
  clear ha
  have hnl : rsa.length ≤ 1048576 := by omega
  have hml : rsa.length ≤ maxLen := Nat.le_trans hnl (by unfold maxLen; omega)
  have ROW := Lib.hid (show ∀ r ∈ rsa, r.zs.length ≤ 1048576 from fun r hr => by have := row_le_tot hr; omega)
  cases bb
  all_goals
    go_enter Try.func9, Try.ntmps9
    go_wp2_with fail
    refine (szP_any ra Aa ca rsa _ _ (Ha.out.into (al1 _ _)) hml (by omega) (by omega)).mono ?_
    rintro e w1 ⟨rfl, hb⟩
    rw [if_neg (by omega)]
    have D1 := Lib.hid (on1 _ hb)
    have s1 : w.heap.size + 1 ≤ w1.heap.size := by have := hb.size; (try simp at this); omega
    have aa_1 := Lib.hid ((BoxG.new w 42 (.int .i64 ra) (.slice Aa rsa.length ca)).below hb (by simp))
    have HB1 := Lib.hid (HB.out.trans (D1.out.mono (by omega)))
    clear HB
    have HB := HB1
    clear HB1 hb
    have z_aa : w.heap.size < w1.heap.size := by omega
    have tl : decide ((1048576 : Int) - (rsa.length : Int) - (tot rsa : Int) < 0) = false := by simp; omega
    obtain ⟨qaa0, qaa1⟩ := aa_1.out
    go_wp2_with fail
    refine (toP_any ra Aa ca rsa _ (Ha.out.into HB.out) hnl ROW.out).mono ?_
    rintro e w2 ⟨g2, c2, rs2, rfl, hk, hv, hb⟩
    clear qaa0 qaa1
    have X2_2 := Lib.hid (hk.wide (lo' := w1.heap.size) (hi' := w2.heap.size) (by simp) (Nat.le_refl _))
    have V2 := Lib.hid hv
    clear hk hv
    have D2 := Lib.hid (hb)
    have s2 : w1.heap.size + 0 ≤ w2.heap.size := by have := hb.size; (try simp at this); omega
    have aa_2 := Lib.hid (aa_1.out.below D2.out (by omega))
    clear aa_1
    have HB2 := Lib.hid (HB.out.trans (D2.out.mono (by omega)))
    clear HB
    have HB := HB2
    clear HB2 hb
    clear z_aa
    have z_aa : w.heap.size < w2.heap.size := by omega
    obtain ⟨qaa0, qaa1⟩ := aa_2.out
    go_wp2_with fail
    refine (HS.out _ _ _ _ (X2_2.out.rd.more (by (try simp) <;> omega)) V2.out).mono ?_
    rintro e w3 ⟨rfl, hb⟩
    clear qaa0 qaa1
    have D3 := Lib.hid (hb)
    have s3 : w2.heap.size + 0 ≤ w3.heap.size := by have := hb.size; (try simp at this); omega
    have aa_3 := Lib.hid (aa_2.out.below D3.out (by omega))
    clear aa_2
    have X2_3 := Lib.hid (X2_2.out.below D3.out (by omega))
    clear X2_2
    have HB3 := Lib.hid (HB.out.trans (D3.out.mono (by omega)))
    clear HB
    have HB := HB3
    clear HB3 hb
    clear z_aa
    have z_aa : w.heap.size < w3.heap.size := by omega
    obtain ⟨qaa0, qaa1⟩ := aa_3.out
    go_wp2_with fail
    refine (toP_any ra Aa ca rsa _ (Ha.out.into HB.out) hnl ROW.out).mono ?_
    rintro e w4 ⟨g4, c4, rs4, rfl, hk, hv, hb⟩
    clear qaa0 qaa1
    have X4_4 := Lib.hid (hk.wide (lo' := w3.heap.size) (hi' := w4.heap.size) (by simp) (Nat.le_refl _))
    have V4 := Lib.hid hv
    clear hk hv
    have D4 := Lib.hid (hb)
    have s4 : w3.heap.size + 0 ≤ w4.heap.size := by have := hb.size; (try simp at this); omega
    have aa_4 := Lib.hid (aa_3.out.below D4.out (by omega))
    clear aa_3
    have HB4 := Lib.hid (HB.out.trans (D4.out.mono (by omega)))
    clear HB
    have HB := HB4
    clear HB4 hb
    clear z_aa
    have z_aa : w.heap.size < w4.heap.size := by omega
    obtain ⟨qaa0, qaa1⟩ := aa_4.out
    go_wp2_with fail
    refine (HI.out _ _ _ _ ((X4_4.out.al (by omega) (al1 _ _)).rd.more (by (try simp) <;> omega)) V4.out).mono ?_
    rintro e w5 ⟨rfl, hb⟩
    clear qaa0 qaa1
    have D5 := Lib.hid (on1 _ hb)
    have s5 : w4.heap.size + 1 ≤ w5.heap.size := by have := hb.size; (try simp at this); omega
    have aa_5 := Lib.hid (aa_4.out.below D5.out (by omega))
    clear aa_4
    have bx_5 := Lib.hid ((BoxG.new w4 31 (.int .i64 ra) (.slice (some ⟨g4, 0, none⟩) rs4.length c4)).below hb (by simp))
    have X4_5 := Lib.hid (X4_4.out.below D5.out (by omega))
    clear X4_4
    have HB5 := Lib.hid (HB.out.trans (D5.out.mono (by omega)))
    clear HB
    have HB := HB5
    clear HB5 hb
    clear z_aa
    have z_aa : w.heap.size < w5.heap.size := by omega
    have z_bx : w4.heap.size < w5.heap.size := by omega
    obtain ⟨qaa0, qaa1⟩ := aa_5.out
    obtain ⟨qbx0, qbx1⟩ := bx_5.out
    go_wp2_with fail
    go_region_held3 (fun W => (W.cell? ⟨w4.heap.size, 0, none⟩ = some (.int .i64 ra) ∧ W.cell? ⟨w4.heap.size, 1, none⟩ = some (.slice (some ⟨g4, 0, none⟩) rs4.length c4)) ∧ (W.cell? ⟨w.heap.size, 0, none⟩ = some (.int .i64 ra) ∧ W.cell? ⟨w.heap.size, 1, none⟩ = some (.slice Aa rsa.length ca))) (go_keep)
      (first
        | (go_at_call 33; (with_reducible refine (toP_any ra Aa ca rsa _ (by exact Ha.out.into HB.out.drew) hnl ROW.out).mono ?_); rintro e w6 ⟨g6, c6, rs6, rfl, hk6, hv6, hb6'⟩; have hb6 := undrew hb6'; have K6 := Lib.hid hk6; have B6 := Lib.hid hb6; have V6 := Lib.hid hv6; have z6 := hb6.size; obtain ⟨e0, e1⟩ := bx_5.out.below hb6 (by omega); obtain ⟨f0, f1⟩ := aa_5.out.below hb6 (by omega); clear hk6 hv6 hb6 hb6')
        | (go_at_call 35; (with_reducible refine (eqP_any ra _ _ _ _ rs4 _ w4.heap.size _ _ (by exact X4_5.out.rd.below (B6.out.mono (by omega))) (by exact K6.out.rd) (V4.out.trans V6.out.symm) (by have := B6.out.size; omega) (Nat.le_refl _) (by have h1 := congrArg List.length V4.out; rw [vals_len, vals_len] at h1; omega) (rows_of V4.out ROW.out)).mono ?_); rintro e w7 ⟨rfl, hb7⟩; obtain ⟨m0, m1⟩ := (bx_5.out.below B6.out (by omega)).below hb7 (by omega); obtain ⟨y0, y1⟩ := (aa_5.out.below B6.out (by omega)).below hb7 (by omega)))
    clear e0 e1 f0 f1 m0 m1 y0 y1 K6 V6
    clear qaa0 qaa1 qbx0 qbx1
    have hb6 := B6.out
    clear B6
    have D6 := Lib.hid (hb6)
    have s6 : w5.heap.size + 0 ≤ w6.heap.size := by have := hb6.size; (try simp at this); omega
    have aa_6 := Lib.hid (aa_5.out.below D6.out (by omega))
    clear aa_5
    have bx_6 := Lib.hid (bx_5.out.below D6.out (by omega))
    clear bx_5
    have X4_6 := Lib.hid (X4_5.out.below D6.out (by omega))
    clear X4_5
    have HB6 := Lib.hid (HB.out.trans (D6.out.mono (by omega)))
    clear HB
    have HB := HB6
    clear HB6 hb6
    clear z_aa
    have z_aa : w.heap.size < w6.heap.size := by omega
    clear z_bx
    have z_bx : w4.heap.size < w6.heap.size := by omega
    have D7 := Lib.hid (hb7)
    have s7 : w6.heap.size + 0 ≤ w7.heap.size := by have := hb7.size; (try simp at this); omega
    have aa_7 := Lib.hid (aa_6.out.below D7.out (by omega))
    clear aa_6
    have bx_7 := Lib.hid (bx_6.out.below D7.out (by omega))
    clear bx_6
    have X4_7 := Lib.hid (X4_6.out.below D7.out (by omega))
    clear X4_6
    have HB7 := Lib.hid (HB.out.trans (D7.out.mono (by omega)))
    clear HB
    have HB := HB7
    clear HB7 hb7
    clear z_aa
    have z_aa : w.heap.size < w7.heap.size := by omega
    clear z_bx
    have z_bx : w4.heap.size < w7.heap.size := by omega
    go_wp2
    go_ret
    exact ⟨rfl, HB.out⟩

set_option maxHeartbeats 1000000 in
theorem bigIsPresentation (r : Int) (A : Option Addr) (c : Nat) (rs : List Rw) (w : World) (h : RdS w w.heap.size A rs) (hm : rs.length ≤ maxLen) (hn : ¬ rs.length + tot rs ≤ 1048576) :
    Calls Try.prog 9 #[.agg #[.int .i64 r, .slice A rs.length c]] w fun e w' => e = .returned (.bool true) ∧ Below w.heap.size w w' := by
  have H := Lib.hid (h.into (al1 w (Obj.cells #[.int .i64 r, .slice A rs.length c] 42)))
  clear h
  go_enter Try.func9, Try.ntmps9
  go_wp2_with fail
  refine (szP_any r A c rs _ _ H.out hm (by omega) (by omega)).mono ?_
  rintro e w1 ⟨rfl, hb⟩
  rw [if_pos (by omega)]
  go_wp2
  go_ret
  exact ⟨rfl, on1 _ hb⟩
theorem allIsPresentation (r : Int) (A : Option Addr) (c : Nat) (rs : List Rw) (w : World) (h : RdS w w.heap.size A rs) (hm : rs.length ≤ maxLen) :
    Calls Try.prog 9 #[.agg #[.int .i64 r, .slice A rs.length c]] w fun e w' => e = .returned (.bool true) ∧ Below w.heap.size w w' := by
  by_cases hn : rs.length + tot rs ≤ 1048576
  case neg => exact bigIsPresentation r A c rs w h hm hn
  · have hrow : ∀ r ∈ rs, r.zs.length ≤ 1048576 := fun q hq => by have := row_le_tot hq; omega
    exact exactIsPresentation r A c rs (Wd.isP r (vals rs)) w h hn
      (fun W A' c' qs h' hv => hv ▸ isPres_spec r A' c' qs W h' (by have h1 := congrArg List.length hv; rw [vals_len, vals_len] at h1; omega) (rows_of hv hrow))
      (fun W A' c' qs h' hv => hv ▸ isPres_impl r A' c' qs W h' (by have h1 := congrArg List.length hv; rw [vals_len, vals_len] at h1; omega) (rows_of hv hrow))

set_option maxRecDepth 100000 in
theorem exactIsPresentation_lifted (os : Os) (started : os.Started) (H : Type) (enc : TypeId × Value → H) :
    ReturnsInHanded {} Try.checked os 9 .any (Rows.fnExactIsPresentationSpec.pre6 enc Try.prog Try.f9 Rows.fnExactIsPresentationRow.domain false) (Rows.fnExactIsPresentationSpec.post enc Try.prog Try.f9 false true false false) := by
  refine returnsInHanded_of_change (C := Try.checked) own started (by kernel_rfl) Try.func9
    (ChangeSpec.witness6 (enc := enc) (C := Try.checked) false ⟨#[], #[.agg #[.int .i64 0, .slice none 0 0]], []⟩ 8 (by kernel_rfl) (by kernel_rfl) (by kernel_rfl) (by kernel_rfl)) ?_
  intro W base args ds gs before hval0 hW _ _
  have hval : ∀ (j : Nat) t v, Try.f9.params[j]? = some t → args[j]? = some v → Value.okWide Try.prog W .any base t v := hval0
  have hW' := hW
  obtain ⟨p, q, hA0, hV, rfl, hfz, hnd⟩ := hW
  have hA : DataW.TrodAll enc Try.prog W 0 (fun _ => true) true Try.f9.params.toList args.toList ds p := hA0
  rw [Try.params9] at hA hval
  obtain ⟨v0, vs0, d0, ds0, p0, q0, hargs, rfl, rfl, h0, r0⟩ := trodAll_cons hA
  obtain ⟨rfl, rfl, rfl⟩ := trodAll_nil r0
  obtain rfl : args = #[v0] := by cases args; simp_all
  obtain ⟨rfl, rfl⟩ := trodVars_none hV
  have k0_ := h0
  have lt0 : ∀ x ∈ p0, x.block < W.heap.size := by obtain ⟨m, hm⟩ := k0_; exact DataW.trod_lt m _ _ _ hm
  obtain ⟨r0, A0, c0, rs0, rfl, hi0, hm0, _⟩ := openP (hval 0 42 v0 rfl rfl) h0
  clear hA0 hval0
  refine (allIsPresentation r0 A0 c0 rs0 W hi0 hm0).mono fun e W' ⟨he, bel⟩ => ?_
  subst he
  exact ⟨_, rfl, _, _, _, [], _, [], hW', trodAll_mk1 (shut_bool Try.underlying4 _), (trodAll_cons_mk (Below.trod laidOut (by kernel_rfl) (of_decide_eq_true (by kernel_rfl)) k0_ bel lt0) trodAll_mk0), rfl, bel.frame _, fun h => by cases h⟩

theorem exactIsPresentation_holds : Rows.FnExactIsPresentationSaid :=
  OpenClaim.holds_of_wide 9 Try.f9 rfl rfl rfl rfl rfl rfl rfl ⟨rfl, rfl, rfl, rfl, rfl⟩ rfl rfl rfl rfl rfl (by kernel_rfl) Try.func9 (by kernel_rfl)
    (of_decide_eq_true (by kernel_rfl)) (by unfold Func.isWrapper; first | (rw [if_pos (by decide +kernel)]; kernel_rfl) | (rw [if_neg (by decide +kernel)]; exact ⟨rfl, rfl⟩))
    (fun os started H enc _ => exactIsPresentation_lifted os started H enc)

#print axioms exactIsPresentation_holds

end Go.Proofs.Ytpojkahlllochaa
