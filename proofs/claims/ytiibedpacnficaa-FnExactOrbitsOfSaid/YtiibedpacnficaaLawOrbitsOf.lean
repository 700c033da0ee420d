/- The law FnExactOrbitsOf returns true for every number and list of lists that are passed in and changes no memory that was there. No condition. -/
import Derived.Test.YtiibedpacnficaaLiftS
import Derived.Test.YtiibedpacnficaaOrG
namespace Go.Proofs.Ytiibedpacnficaa
open Go.ChangeShapes Go.WideShapes Go.ChangeAt Go.RowKit

theorem Ob.small_row {rs : List Rw} {ll : List (List Int)} (h : vals rs = ll) (hz : ll.length ≤ 4 ∧ ∀ z ∈ ll, z.length ≤ 4) : ∀ r ∈ rs, r.zs.length ≤ 1048576 := fun r hr => by
  have := hz.2 r.zs (by rw [← h]; exact List.mem_map_of_mem hr)
  omega
theorem Ob.sum_small : ∀ (l : List (List Int)), (∀ z ∈ l, z.length ≤ 4) → (l.map List.length).sum ≤ 4 * l.length
  | [], _ => by simp
  | z :: l, h => by
    have h1 := h z (List.mem_cons_self ..)
    have h2 := sum_small l fun y hy => h y (List.mem_cons_of_mem _ hy)
    simp only [List.map_cons, List.sum_cons, List.length_cons]
    omega
theorem Ob.small_tot {rs : List Rw} {ll : List (List Int)} (h : vals rs = ll) (hz : ll.length ≤ 4 ∧ ∀ z ∈ ll, z.length ≤ 4) : rs.length + tot rs ≤ 1048576 := by
  rw [tot_sum, h, ← vals_len, h]
  have := Ob.sum_small ll hz.2
  omega
theorem Ob.outs_small (n : Int) (zss : List (List Int)) (x : Nat) : ∀ z ∈ Ob.outs n zss x, z.length ≤ 4 := by
  induction x with
  | zero => intro z hz; simp [Ob.outs] at hz
  | succ x ih =>
    unfold Ob.outs
    split
    · intro z hz
      rcases List.mem_append.1 hz with h | h
      · exact ih z h
      · simp at h
        subst h
        exact List.length_filter_le _ _
    · exact ih
theorem orbits_small (n : Int) (zss : List (List Int)) : (orbits n zss).length ≤ 4 ∧ ∀ z ∈ orbits n zss, z.length ≤ 4 := by
  unfold orbits
  split
  · rename_i h
    have := (Rp.arePm_iff.1 h).1
    exact ⟨Nat.le_trans (Ob.outs_len _ _ _) (by omega), Ob.outs_small _ _ _⟩
  · exact ⟨by simp, by simp⟩

theorem rows_of {rs qs : List Rw} (h : vals rs = vals qs) (hq : ∀ r ∈ qs, r.zs.length ≤ 1048576) : ∀ r ∈ rs, r.zs.length ≤ 1048576 := fun r hr => by
  have h1 : r.zs ∈ vals qs := by rw [← h]; exact List.mem_map_of_mem hr
  obtain ⟨q, hq1, hq2⟩ := List.mem_map.1 h1
  rw [← hq2]
  exact hq q hq1

set_option maxRecDepth 100000 in
set_option maxHeartbeats 16000000 in
theorem exactOrbitsOf (n : Int) (Ai : Option Addr) (ci : Nat) (rsi : List Rw) (ll : List (List Int)) (w : World) (hi0 : RdS w w.heap.size Ai rsi) (hna : rsi.length + tot rsi ≤ 1048576) (hz : ll.length ≤ 4 ∧ ∀ z ∈ ll, z.length ≤ 4)
    (hs : ∀ (W : World) (A : Option Addr) (c : Nat) (qs : List Rw), RdS W W.heap.size A qs → vals qs = vals rsi → qs.length ≤ c → c ≤ maxLen → Calls Try.prog 31 #[.int .i64 n, .slice A qs.length c] W (ResRows W ll))
    (hi : ∀ (W : World) (A : Option Addr) (c : Nat) (qs : List Rw), RdS W W.heap.size A qs → vals qs = vals rsi → qs.length ≤ c → c ≤ maxLen → Calls Try.prog 33 #[.int .i64 n, .slice A qs.length c] W (ResRows W ll)) :
    Calls Try.prog 7 #[.int .i64 n, .slice Ai rsi.length ci] w fun e w' => e = .returned (.bool true) ∧ Below w.heap.size w w' := by
  have HS := Lib.hid hs
  have HI := Lib.hid hi
  clear hs hi
  have HB := Lib.hid (Below.refl w.heap.size w)
  have Hi := Lib.hid hi0
  have HZ := Lib.hid hz
  clear hi0 hz
  have hnl2 : rsi.length ≤ 1048576 := by omega
  have hml2 : rsi.length ≤ maxLen := Nat.le_trans hnl2 (by unfold maxLen; omega)
  have ROWI := Lib.hid (show ∀ r ∈ rsi, r.zs.length ≤ 1048576 from fun r hr => by have := row_le_tot hr; omega)
  have tl1 : decide ((1048576 : Int) - (rsi.length : Int) - (tot rsi : Int) < 0) = false := by simp; omega
  go_enter Try.func7, Try.ntmps7
  go_wp2_with fail
  refine (szSS_any Ai ci rsi _ w.heap.size _ (Hi.out.below HB.out) hml2 (by omega) (by omega)).mono ?_
  rintro e w' ⟨rfl, rfl⟩
  rw [if_neg (by omega)]
  go_wp2_with fail
  refine (toSS_any Ai ci rsi _ (Hi.out.into HB.out) hnl2 ROWI.out).mono ?_
  rintro e w1 ⟨g1, c1, rs1, rfl, hk, hv, hb⟩
  have X1_1 := Lib.hid (hk.wide (lo' := w.heap.size) (hi' := w1.heap.size) (by simp) (Nat.le_refl _))
  have V1 := Lib.hid hv
  clear hk hv
  have D1 := Lib.hid (hb)
  have s1 : w.heap.size + 0 ≤ w1.heap.size := by have := hb.size; (try simp at this); omega
  have HB1 := Lib.hid (HB.out.trans (D1.out.mono (by omega)))
  clear HB
  have HB := HB1
  clear HB1 hb
  go_wp2_with fail
  refine (HS.out _ _ _ _ (X1_1.out.rd.more (by omega)) V1.out X1_1.out.cap.1 X1_1.out.cap.2).mono ?_
  rintro e w2 ⟨R2, t2, rs2, rfl, hown, hv, hb⟩
  have Y2_2 := Lib.hid hown
  have V2 := Lib.hid hv
  clear hown hv
  have D2 := Lib.hid (hb)
  have s2 : w1.heap.size + 0 ≤ w2.heap.size := by have := hb.size; (try simp at this); omega
  have X1_2 := Lib.hid (X1_1.out.below D2.out (by omega))
  clear X1_1
  have HB2 := Lib.hid (HB.out.trans (D2.out.mono (by omega)))
  clear HB
  have HB := HB2
  clear HB2 hb
  clear X1_2
  as_aux_lemma =>
    go_wp2_with fail
    refine (toSS_any Ai ci rsi _ (Hi.out.into HB.out) hnl2 ROWI.out).mono ?_
    rintro e w3 ⟨g3, c3, rs3, rfl, hk, hv, hb⟩
    have X3_3 := Lib.hid (hk.wide (lo' := w2.heap.size) (hi' := w3.heap.size) (by simp) (Nat.le_refl _))
    have V3 := Lib.hid hv
    clear hk hv
    have D3 := Lib.hid (hb)
    have s3 : w2.heap.size + 0 ≤ w3.heap.size := by have := hb.size; (try simp at this); omega
    have Y2_3 := Lib.hid (Y2_2.out.below D3.out (by omega))
    clear Y2_2
    have HB3 := Lib.hid (HB.out.trans (D3.out.mono (by omega)))
    clear HB
    have HB := HB3
    clear HB3 hb
    go_wp2_with fail
    refine (HI.out _ _ _ _ (X3_3.out.rd.more (by omega)) V3.out X3_3.out.cap.1 X3_3.out.cap.2).mono ?_
    rintro e w4 ⟨R4, t4, rs4, rfl, hown, hv, hb⟩
    have Y4_4 := Lib.hid hown
    have V4 := Lib.hid hv
    clear hown hv
    have D4 := Lib.hid (hb)
    have s4 : w3.heap.size + 0 ≤ w4.heap.size := by have := hb.size; (try simp at this); omega
    have Y2_4 := Lib.hid (Y2_3.out.below D4.out (by omega))
    clear Y2_3
    have X3_4 := Lib.hid (X3_3.out.below D4.out (by omega))
    clear X3_3
    have HB4 := Lib.hid (HB.out.trans (D4.out.mono (by omega)))
    clear HB
    have HB := HB4
    clear HB4 hb
    as_aux_lemma =>
      go_wp2_with fail
      refine (eqSS_any _ _ _ _ rs4 rs2 (w4.heap.size) (w2.heap.size) _ Y4_4.out.rd Y2_4.out.rd (V4.out.trans V2.out.symm) (by omega) (by omega) (by have h1 := Ob.small_tot V4.out HZ.out; omega) (Ob.small_row V4.out HZ.out)).mono ?_
      rintro e w5 ⟨rfl, hb⟩
      have D5 := Lib.hid (hb)
      have s5 : w4.heap.size + 0 ≤ w5.heap.size := by have := hb.size; (try simp at this); omega
      have Y2_5 := Lib.hid (Y2_4.out.below D5.out (by omega))
      clear Y2_4
      have X3_5 := Lib.hid (X3_4.out.below D5.out (by omega))
      clear X3_4
      have Y4_5 := Lib.hid (Y4_4.out.below D5.out (by omega))
      clear Y4_4
      have HB5 := Lib.hid (HB.out.trans (D5.out.mono (by omega)))
      clear HB
      have HB := HB5
      clear HB5 hb
      go_wp2_with fail
      refine (toSS_any Ai ci rsi _ (Hi.out.into HB.out) hnl2 ROWI.out).mono ?_
      rintro e w6 ⟨g6, c6, rs6, rfl, hk, hv, hb⟩
      have X6_6 := Lib.hid (hk.wide (lo' := w5.heap.size) (hi' := w6.heap.size) (by simp) (Nat.le_refl _))
      have V6 := Lib.hid hv
      clear hk hv
      have D6 := Lib.hid (hb)
      have s6 : w5.heap.size + 0 ≤ w6.heap.size := by have := hb.size; (try simp at this); omega
      have Y2_6 := Lib.hid (Y2_5.out.below D6.out (by omega))
      clear Y2_5
      have X3_6 := Lib.hid (X3_5.out.below D6.out (by omega))
      clear X3_5
      have Y4_6 := Lib.hid (Y4_5.out.below D6.out (by omega))
      clear Y4_5
      have HB6 := Lib.hid (HB.out.trans (D6.out.mono (by omega)))
      clear HB
      have HB := HB6
      clear HB6 hb
      go_wp2_with fail
      refine (eqSS_any _ _ _ _ rs3 rs6 (w3.heap.size) (w6.heap.size) _ X3_6.out.rd X6_6.out.rd (V3.out.trans V6.out.symm) (by omega) (by omega) (by have h1 := congrArg List.length V3.out; rw [vals_len, vals_len] at h1; omega) (rows_of V3.out ROWI.out)).mono ?_
      rintro e w7 ⟨rfl, hb⟩
      have D7 := Lib.hid (hb)
      have s7 : w6.heap.size + 0 ≤ w7.heap.size := by have := hb.size; (try simp at this); omega
      have Y2_7 := Lib.hid (Y2_6.out.below D7.out (by omega))
      clear Y2_6
      have X3_7 := Lib.hid (X3_6.out.below D7.out (by omega))
      clear X3_6
      have Y4_7 := Lib.hid (Y4_6.out.below D7.out (by omega))
      clear Y4_6
      have X6_7 := Lib.hid (X6_6.out.below D7.out (by omega))
      clear X6_6
      have HB7 := Lib.hid (HB.out.trans (D7.out.mono (by omega)))
      clear HB
      have HB := HB7
      clear HB7 hb
      clear X6_7
      as_aux_lemma =>
        go_wp2_with fail
        have tx := tot_vals V3.out
        have lx : rs3.length = rsi.length := by have h1 := congrArg List.length V3.out; rw [vals_len, vals_len] at h1; exact h1
        refine (markSS_any (some ⟨g3, 0, none⟩) c3 1 rs3 (w2.heap.size) (w3.heap.size) _ X3_7.out (by omega) (by omega) (by omega) (by omega)).mono ?_
        rintro e w8 ⟨rfl, hown, hk⟩
        clear X3_7 hown lx
        have TX := Lib.hid tx
        clear tx
        have D8 := Lib.hid (hk)
        have s8 : w7.heap.size ≤ w8.heap.size := hk.size
        have Y2_8 := Lib.hid (Y2_7.out.kept D8.out (by omega) (by omega))
        clear Y2_7
        have Y4_8 := Lib.hid (Y4_7.out.kept D8.out (by omega) (by omega))
        clear Y4_7
        have HB8 := Lib.hid (HB.out.trans (D8.out.below (by omega) (by omega)))
        clear HB
        have HB := HB8
        clear HB8 hk
        have tx9 : tot rs3 ≤ tot rsi := by have := TX.out; omega
        have tx1 : decide ((1 : Int) + (tot rs3 : Int) < 0) = false := by simp; omega
        clear tx9
        go_wp2_with fail
        refine (eqSS_any _ _ _ _ rs4 rs2 (w4.heap.size) (w2.heap.size) _ Y4_8.out.rd Y2_8.out.rd (V4.out.trans V2.out.symm) (by omega) (by omega) (by have h1 := Ob.small_tot V4.out HZ.out; omega) (Ob.small_row V4.out HZ.out)).mono ?_
        rintro e w9 ⟨rfl, hb⟩
        have D9 := Lib.hid (hb)
        have s9 : w8.heap.size + 0 ≤ w9.heap.size := by have := hb.size; (try simp at this); omega
        have Y2_9 := Lib.hid (Y2_8.out.below D9.out (by omega))
        clear Y2_8
        have Y4_9 := Lib.hid (Y4_8.out.below D9.out (by omega))
        clear Y4_8
        have HB9 := Lib.hid (HB.out.trans (D9.out.mono (by omega)))
        clear HB
        have HB := HB9
        clear HB9 hb
        as_aux_lemma =>
          go_wp2_with fail
          refine (markSS_any R4 t4 1 rs4 (w3.heap.size) (w4.heap.size) _ Y4_9.out (by omega) (Ob.small_tot V4.out HZ.out) (by omega) (by omega)).mono ?_
          rintro e w10 ⟨rfl, hown, hk⟩
          have Y4_10 := Lib.hid hown
          clear Y4_9 hown
          have D10 := Lib.hid (hk)
          have s10 : w9.heap.size ≤ w10.heap.size := hk.size
          have Y2_10 := Lib.hid (Y2_9.out.kept D10.out (by omega) (by omega))
          clear Y2_9
          have HB10 := Lib.hid (HB.out.trans (D10.out.below (by omega) (by omega)))
          clear HB
          have HB := HB10
          clear HB10 hk
          have tq : decide ((1 : Int) + (tot rs4 : Int) < 0) = false := by simp; omega
          go_wp2_with fail
          refine (heldSS_any R4 t4 1 rs4 (w4.heap.size) _ Y4_10.out.rd (Ob.small_tot V4.out HZ.out) (by omega) (by omega)).mono ?_
          rintro e w' ⟨rfl, rfl⟩
          as_aux_lemma =>
            go_wp2_with fail
            refine (toSS_any Ai ci rsi _ (Hi.out.into HB.out) hnl2 ROWI.out).mono ?_
            rintro e w11 ⟨g11, c11, rs11, rfl, hk, hv, hb⟩
            have X11_11 := Lib.hid (hk.wide (lo' := w10.heap.size) (hi' := w11.heap.size) (by simp) (Nat.le_refl _))
            have V11 := Lib.hid hv
            clear hk hv
            have D11 := Lib.hid (hb)
            have s11 : w10.heap.size + 0 ≤ w11.heap.size := by have := hb.size; (try simp at this); omega
            have Y2_11 := Lib.hid (Y2_10.out.below D11.out (by omega))
            clear Y2_10
            have Y4_11 := Lib.hid (Y4_10.out.below D11.out (by omega))
            clear Y4_10
            have HB11 := Lib.hid (HB.out.trans (D11.out.mono (by omega)))
            clear HB
            have HB := HB11
            clear HB11 hb
            go_wp2_with fail
            refine (HI.out _ _ _ _ (X11_11.out.rd.more (by omega)) V11.out X11_11.out.cap.1 X11_11.out.cap.2).mono ?_
            rintro e w12 ⟨R12, t12, rs12, rfl, hown, hv, hb⟩
            have Y12_12 := Lib.hid hown
            have V12 := Lib.hid hv
            clear hown hv
            have D12 := Lib.hid (hb)
            have s12 : w11.heap.size + 0 ≤ w12.heap.size := by have := hb.size; (try simp at this); omega
            have Y2_12 := Lib.hid (Y2_11.out.below D12.out (by omega))
            clear Y2_11
            have Y4_12 := Lib.hid (Y4_11.out.below D12.out (by omega))
            clear Y4_11
            have X11_12 := Lib.hid (X11_11.out.below D12.out (by omega))
            clear X11_11
            have HB12 := Lib.hid (HB.out.trans (D12.out.mono (by omega)))
            clear HB
            have HB := HB12
            clear HB12 hb
            clear X11_12
            go_wp2_with fail
            refine (eqSS_any _ _ _ _ rs12 rs2 (w12.heap.size) (w2.heap.size) _ Y12_12.out.rd Y2_12.out.rd (V12.out.trans V2.out.symm) (by omega) (by omega) (by have h1 := Ob.small_tot V12.out HZ.out; omega) (Ob.small_row V12.out HZ.out)).mono ?_
            rintro e w13 ⟨rfl, hb⟩
            have D13 := Lib.hid (hb)
            have s13 : w12.heap.size + 0 ≤ w13.heap.size := by have := hb.size; (try simp at this); omega
            have Y2_13 := Lib.hid (Y2_12.out.below D13.out (by omega))
            clear Y2_12
            have Y4_13 := Lib.hid (Y4_12.out.below D13.out (by omega))
            clear Y4_12
            have Y12_13 := Lib.hid (Y12_12.out.below D13.out (by omega))
            clear Y12_12
            have HB13 := Lib.hid (HB.out.trans (D13.out.mono (by omega)))
            clear HB
            have HB := HB13
            clear HB13 hb
            go_wp2_with fail
            refine (heldSS_any R4 t4 1 rs4 (w4.heap.size) _ Y4_13.out.rd (Ob.small_tot V4.out HZ.out) (by omega) (by omega)).mono ?_
            rintro e w' ⟨rfl, rfl⟩
            go_wp2
            go_ret
            exact ⟨rfl, HB.out⟩

theorem len_of_ {rs qs : List Rw} (h : vals rs = vals qs) : rs.length = qs.length := by rw [← vals_len, ← vals_len, h]
set_option maxHeartbeats 2000000 in
theorem bigOrbitsOf (n : Int) (Ai : Option Addr) (ci : Nat) (qs : List Rw) (w : World) (hi : RdS w w.heap.size Ai qs) (hm2 : qs.length ≤ maxLen) (hn : ¬ qs.length + tot qs ≤ 1048576) :
    Calls Try.prog 7 #[.int .i64 n, .slice Ai qs.length ci] w fun e w' => e = .returned (.bool true) ∧ Below w.heap.size w w' := by
  have HI := Lib.hid hi
  clear hi
  go_enter Try.func7, Try.ntmps7
  go_wp2_with fail
  refine (szSS_any Ai ci qs _ w.heap.size _ HI.out hm2 (by omega) (by omega)).mono ?_
  rintro e w2 ⟨rfl, rfl⟩
  rw [if_pos (by omega)]
  go_wp2
  go_ret
  exact ⟨rfl, Below.refl _ _⟩
theorem allOrbitsOf (n : Int) (Ai : Option Addr) (ci : Nat) (qs : List Rw) (w : World) (hwf : (Lit.int .i64 n).wf = true) (hi : RdS w w.heap.size Ai qs) (hm2 : qs.length ≤ maxLen) :
    Calls Try.prog 7 #[.int .i64 n, .slice Ai qs.length ci] w fun e w' => e = .returned (.bool true) ∧ Below w.heap.size w w' := by
  by_cases hn : qs.length + tot qs ≤ 1048576
  case neg => exact bigOrbitsOf n Ai ci qs w hi hm2 hn
  · have hrow2 : ∀ r ∈ qs, r.zs.length ≤ 1048576 := fun q hq => by have := row_le_tot hq; omega
    exact exactOrbitsOf n Ai ci qs (orbits n (vals qs)) w hi hn (orbits_small _ _)
      (fun W A' c' us h2 hv2 _ _ => by have := orbits_spec n A' c' us W h2 (by rw [len_of_ hv2]; omega) (rows_of hv2 hrow2) (wf_in hwf); rw [hv2] at this; exact this)
      (fun W A' c' us h2 hv2 _ _ => by have := orbits_impl n A' c' us W h2 (by rw [len_of_ hv2]; omega) (rows_of hv2 hrow2); rw [hv2] at this; exact this)

set_option maxRecDepth 100000 in
theorem exactOrbitsOf_lifted (os : Os) (started : os.Started) (H : Type) (enc : TypeId × Value → H) :
    ReturnsInHanded {} Try.checked os 7 .any (Rows.fnExactOrbitsOfSpec.pre6 enc Try.prog Try.f7 Rows.fnExactOrbitsOfRow.domain false) (Rows.fnExactOrbitsOfSpec.post enc Try.prog Try.f7 false true false false) := by
  refine returnsInHanded_of_change (C := Try.checked) own started (by kernel_rfl) Try.func7
    (ChangeSpec.witness6 (enc := enc) (C := Try.checked) false ⟨#[], #[.int .i64 0, .slice none 0 0], []⟩ 8 (by kernel_rfl) (by kernel_rfl) (by kernel_rfl) (by kernel_rfl)) ?_
  intro W base args ds gs before hval0 hW _ _
  have hval : ∀ (j : Nat) t v, Try.f7.params[j]? = some t → args[j]? = some v → Value.okWide Try.prog W .any base t v := hval0
  have hW' := hW
  obtain ⟨p, q, hA0, hV, rfl, hfz, hnd⟩ := hW
  have hA : DataW.TrodAll enc Try.prog W 0 (fun _ => true) true Try.f7.params.toList args.toList ds p := hA0
  rw [Try.params7] at hA hval
  obtain ⟨v0, vs0, d0, ds0, p0, q0, hargs, rfl, rfl, h0, r0⟩ := trodAll_cons hA
  obtain ⟨v1, vs1, d1, ds1, p1, q1, rfl, rfl, rfl, h1, r1⟩ := trodAll_cons r0
  obtain ⟨rfl, rfl, rfl⟩ := trodAll_nil r1
  obtain rfl : args = #[v0, v1] := by cases args; simp_all
  obtain ⟨rfl, rfl⟩ := trodVars_none hV
  obtain ⟨x0, rfl, rfl, rfl, wx0⟩ := open_int Try.underlying2 (hval 0 2 v0 rfl rfl) h0
  have k1_ := h1
  have lt1 : ∀ x ∈ p1, x.block < W.heap.size := by obtain ⟨m, hm⟩ := k1_; exact DataW.trod_lt m _ _ _ hm
  obtain ⟨A1, c1, rs1, rfl, hi1, hm1⟩ := openS (hval 1 27 v1 rfl rfl) h1
  clear hA0 hval0
  refine (allOrbitsOf x0 A1 c1 rs1 W wx0 hi1 hm1).mono fun e W' ⟨he, bel⟩ => ?_
  subst he
  exact ⟨_, rfl, _, _, _, [], _, [], hW', trodAll_mk1 (shut_bool Try.underlying4 _), (trodAll_cons_mk (shut_int Try.underlying2 wx0) (trodAll_cons_mk (Below.trod laidOut (by kernel_rfl) (of_decide_eq_true (by kernel_rfl)) k1_ bel lt1) trodAll_mk0)), rfl, bel.frame _, fun h => by cases h⟩

theorem exactOrbitsOf_holds : Rows.FnExactOrbitsOfSaid :=
  OpenClaim.holds_of_wide 7 Try.f7 rfl rfl rfl rfl rfl rfl rfl ⟨rfl, rfl, rfl, rfl, rfl⟩ rfl rfl rfl rfl rfl (by kernel_rfl) Try.func7 (by kernel_rfl)
    (of_decide_eq_true (by kernel_rfl)) (by unfold Func.isWrapper; first | (rw [if_pos (by decide +kernel)]; kernel_rfl) | (rw [if_neg (by decide +kernel)]; exact ⟨rfl, rfl⟩))
    (fun os started H enc _ => exactOrbitsOf_lifted os started H enc)

#print axioms exactOrbitsOf_holds

end Go.Proofs.Ytiibedpacnficaa
