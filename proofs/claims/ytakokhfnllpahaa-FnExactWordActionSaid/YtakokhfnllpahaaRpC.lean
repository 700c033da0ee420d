/- How words act, the specification's side: l05Degree, l05Letter, l05Move, l05Trivial. No condition but those that each theorem names. -/
import Derived.Test.YtakokhfnllpahaaRpB
namespace Go.Proofs.Ytakokhfnllpahaa
open Go.RowKit

/-- The first k lists are permutations. -/
theorem arePm_vals {n : Int} {rs : List Rw} : Rp.arePm n (vals rs) = true ↔ (1 ≤ n ∧ n ≤ 4) ∧ ∀ k, k < rs.length → Rp.Pm n (rs.getD k nilRw).zs := by
  rw [Rp.arePm_iff]
  constructor
  · rintro ⟨h1, h2⟩
    exact ⟨h1, fun k hk => h2 _ (vals_mem hk)⟩
  · rintro ⟨h1, h2⟩
    refine ⟨h1, fun z hz => ?_⟩
    obtain ⟨r, hr, rfl⟩ := List.mem_map.1 hz
    obtain ⟨k, hk, rfl⟩ := List.mem_iff_getElem.1 hr
    have := h2 k hk
    rwa [List.getD_eq_getElem?_getD, List.getElem?_eq_getElem hk] at this

set_option maxHeartbeats 2000000 in
theorem degree_spec (n : Int) (A : Option Addr) (c : Nat) (rs : List Rw) (B : Nat) (w : World) (h : RdS w B A rs) (hl : rs.length ≤ 1048576) (hrow : ∀ q ∈ rs, q.zs.length ≤ 1048576) (hn : -9223372036854775808 ≤ n ∧ n ≤ 9223372036854775807) :
    Calls Try.prog 63 #[.int .i64 n, .slice A rs.length c] w fun e w' => e = .returned (.bool (Rp.arePm n (vals rs))) ∧ ∃ k, w' = w.drewN k := by
  have H := Lib.hid h
  have ROW := Lib.hid hrow
  obtain ⟨m, hm⟩ : ∃ m, rs.length = m := ⟨_, rfl⟩
  have HM := Lib.hid hm
  rw [hm] at hl ⊢
  clear h hrow hm
  go_enter Try.func63, Try.ntmps63
  go_wp2
  go_loopw [5] (fun i V => ∃ k : Nat, k ≤ m ∧ i = .int .i64 k ∧ (∀ j, j < k → Rp.Pm n (rs.getD j nilRw).zs) ∧ ∃ q, V = w.drewN q) (fun i _ => m - (intOf i).toNat)
  case atStart => exact ⟨0, Nat.zero_le _, rfl, fun i hi => by omega, 0, rfl⟩
  case round =>
    obtain ⟨k, hk, rfl, hR, hV⟩ := hrel
    have RR := Lib.hid hR
    have V := Lib.hid hV
    have HW := Lib.hid (show ∀ x, RdS (wr.drewN x) B A rs from fun x => by obtain ⟨q, rfl⟩ := hV; exact (H.out.below (Go.Joins.below_draws _ _ q)).below (Go.Joins.below_draws _ _ x))
    have i0 : (0 : Int) ≤ (k : Int) := by omega
    clear hR hV
    by_cases hlt : k < m
    · obtain ⟨b, off, Ak, ck, zk, rfl, hb, hrk, hck, hkc, hkm, hki⟩ := (HW.out 0).at_ (j := k) (by rw [HM.out]; exact hlt)
      have hcw : wr.cell? ⟨b, off + k, none⟩ = some (.slice Ak zk.length ck) := hck
      have ZK := Lib.hid hrk
      have i1 : (k : Int) < (m : Int) := by omega
      have hzl : zk.length ≤ 1048576 := by
        have := ROW.out _ (getD_mem (rs := rs) (j := k) (by rw [HM.out]; exact hlt))
        rw [hrk] at this
        exact this
      have PS := Lib.hid (perm_spec Ak zk.length ck zk n B wr hki hkc hkm hzl hn)
      clear hck hrk hkc hkm hki
      by_cases hp : Rp.Pm n zk
      · have NX := Lib.hid (show ∀ j, j < k + 1 → Rp.Pm n (rs.getD j nilRw).zs from fun j hj => by
          by_cases e : j = k
          · rw [e, ZK.out]; exact hp
          · exact RR.out j (by omega))
        rw [show decide (Rp.Pm n zk) = true from by simpa using hp] at PS
        clear hp
        go_wp2_with fail
        refine PS.out.mono ?_
        rintro e w1 ⟨rfl, q1, rfl⟩
        go_wp2
        go_roundw
        case rel => exact ⟨k + 1, by omega, by go_num, NX.out, drewN_more V.out _⟩
        case measure => simp [intOf]; omega
      · have NO := Lib.hid (show Rp.arePm n (vals rs) = false from by
          rw [Bool.eq_false_iff]
          intro h1
          have := (arePm_vals.1 h1).2 k (by rw [HM.out]; exact hlt)
          rw [ZK.out] at this
          exact hp this)
        rw [show decide (Rp.Pm n zk) = false from by simpa using hp] at PS
        clear hp
        go_wp2_with fail
        refine PS.out.mono ?_
        rintro e w1 ⟨rfl, q1, rfl⟩
        go_wp2
        go_ret
        exact ⟨ret_b NO.out, drewN_more V.out _⟩
    · obtain rfl : k = m := by omega
      have i1 : ¬ (k : Int) < (k : Int) := by omega
      by_cases hd : 1 ≤ n ∧ n ≤ 4
      · have YES := Lib.hid (show Rp.arePm n (vals rs) = true from arePm_vals.2 ⟨hd, by rw [HM.out]; exact RR.out⟩)
        have HD := Lib.hid hd
        clear hd
        go_wp2_with fail
        refine (in_yes _ _ _ _ HD.out.1 HD.out.2).mono ?_
        rintro e w1 ⟨rfl, rfl⟩
        go_wp2
        go_ret
        exact ⟨ret_b YES.out, V.out⟩
      · have NO := Lib.hid (show Rp.arePm n (vals rs) = false from by
          rw [Bool.eq_false_iff]
          exact fun h1 => hd (arePm_vals.1 h1).1)
        have HD := Lib.hid hd
        clear hd
        go_wp2_with fail
        refine (in_no _ _ _ _ HD.out).mono ?_
        rintro e w1 ⟨rfl, rfl⟩
        go_wp2
        go_ret
        exact ⟨ret_b NO.out, V.out⟩

theorem vals_get {rs : List Rw} (k : Nat) : (vals rs).getD k [] = (rs.getD k nilRw).zs := by
  rw [List.getD_eq_getElem?_getD, List.getD_eq_getElem?_getD, vals, List.getElem?_map]
  cases rs[k]? <;> rfl

set_option maxHeartbeats 2000000 in
theorem letter_spec (n : Int) (A : Option Addr) (c : Nat) (rs : List Rw) (g x : Int) (B : Nat) (w : World) (h : RdS w B A rs) (hp : Rp.arePm n (vals rs) = true) (hg0 : g ≠ 0) (hg1 : -(rs.length : Int) ≤ g) (hg2 : g ≤ rs.length) (hg3 : -1000 ≤ g ∧ g ≤ 1000) (h0 : 0 ≤ x) (h1 : x < n) :
    Calls Try.prog 92 #[.slice A rs.length c, .int .i64 g, .int .i64 x] w fun e w' => e = .returned (.int .i64 (Rp.act (vals rs) g x)) ∧ w = w' := by
  obtain ⟨⟨n1, n4⟩, hpm⟩ := arePm_vals.1 hp
  obtain ⟨X, rfl⟩ : ∃ X : Nat, x = X := ⟨x.toNat, by omega⟩
  by_cases hs : 0 < g
  · obtain ⟨i, hi⟩ : ∃ i : Nat, (g - 1).toNat = i := ⟨_, rfl⟩
    have hil : i < rs.length := by omega
    obtain ⟨b, off, Ak, ck, zk, rfl, hb, hrk, hck, hkc, hkm, hki⟩ := h.at_ (j := i) hil
    have hz := hpm i hil
    rw [hrk] at hz
    dsimp only at hz
    have hXl : X < zk.length := by have := hz.1; omega
    obtain ⟨b2, off2, v, rfl, hb2, hv, hc2⟩ := hki.at_z hXl
    have AC := Lib.hid (show Rp.act (vals rs) g X = v from by
      unfold Rp.act
      rw [if_pos hs, hi, vals_get, hrk, Int.toNat_natCast]
      exact hv)
    rw [AC.out]
    have e1 : IntKind.i64.wrap (g - 1) = (i : Int) := by rw [IntWalk.i64_in _ (by omega)]; omega
    have l0 : (0 : Int) ≤ (i : Int) := by omega
    have l1 : (i : Int) < (rs.length : Int) := by omega
    have l2 : (0 : Int) ≤ (X : Int) := by omega
    have l3 : (X : Int) < (zk.length : Int) := by omega
    clear hi hrk hv
    go_enter Try.func92, Try.ntmps92
    go_wp2
    go_ret
    exact ⟨rfl, rfl⟩
  · obtain ⟨i, hi⟩ : ∃ i : Nat, (-g - 1).toNat = i := ⟨_, rfl⟩
    have hil : i < rs.length := by omega
    obtain ⟨b, off, Ak, ck, zk, rfl, hb, hrk, hck, hkc, hkm, hki⟩ := h.at_ (j := i) hil
    have hz := hpm i hil
    rw [hrk] at hz
    dsimp only at hz
    have hmem := hz.mem h0 h1
    have HP := Rp.at_lt hmem
    have VX := Lib.hid (Rp.at_val hmem)
    have NX := Lib.hid (fun j (hj : j < Rp.at_ zk (X : Int)) => Rp.at_no hj)
    have AC := Lib.hid (show Rp.act (vals rs) g X = (Rp.at_ zk (X : Int) : Int) from by
      unfold Rp.act
      rw [if_neg hs, hi, vals_get, hrk])
    rw [AC.out]
    obtain ⟨p, hpp⟩ : ∃ p, Rp.at_ zk (X : Int) = p := ⟨_, rfl⟩
    rw [hpp] at HP VX NX ⊢
    have ZL := Lib.hid hz.1
    have KI := Lib.hid hki
    have hzl : zk.length ≤ 4 := by have := hz.1; omega
    have e0 : IntKind.i64.wrap (-g) = (i : Int) + 1 := by rw [IntWalk.i64_in _ (by omega)]; omega
    have e1 : IntKind.i64.wrap ((i : Int) + 1 - 1) = (i : Int) := by rw [IntWalk.i64_in _ (by omega)]; omega
    have e2 : IntKind.i64.wrap (i : Int) = (i : Int) := IntWalk.i64_in _ (by omega)
    have l0 : (0 : Int) ≤ (i : Int) := by omega
    have l1 : (i : Int) < (rs.length : Int) := by omega
    clear hi hrk hpp hz hmem hki
    go_enter Try.func92, Try.ntmps92
    go_wp2
    go_loop [7] (fun y => ∃ k : Nat, k ≤ p ∧ y = .int .i64 k) (fun y => zk.length - (intOf y).toNat)
    case atStart => exact ⟨0, Nat.zero_le _, rfl⟩
    case round =>
      obtain ⟨k, hk, rfl⟩ := hrel
      have hlt : k < zk.length := by omega
      obtain ⟨b2, off2, v, rfl, hb2, hv, hc2⟩ := KI.out.at_z hlt
      have l2 : (0 : Int) ≤ (k : Int) := by omega
      have l3 : (k : Int) < (zk.length : Int) := by omega
      by_cases e : k = p
      · have t0 : (v != (X : Int)) = false := by rw [← hv, e, VX.out]; simp
        clear hv
        subst e
        go_wp2
        go_ret
        exact ⟨rfl, rfl⟩
      · have t0 : (v != (X : Int)) = true := by rw [← hv]; simpa using NX.out k (by omega)
        clear hv
        go_wp2
        go_round
        case rel => exact ⟨k + 1, by omega, by go_num⟩
        case measure => simp [intOf]; omega

set_option maxHeartbeats 2000000 in
theorem moves_spec (n : Int) (A Aw : Option Addr) (c nw cw : Nat) (rs : List Rw) (ws : List Int) (x : Int) (B : Nat) (w : World) (h : RdS w B A rs) (hw : Ints w B Aw nw ws) (hwn : nw ≤ 1048576) (hp : Rp.arePm n (vals rs) = true) (hf : Rp.Fits rs.length ws) (hs : Wd.Sm ws) (h0 : 0 ≤ x) (h1 : x < n) :
    Calls Try.prog 67 #[.slice A rs.length c, .slice Aw nw cw, .int .i64 x] w fun e w' => e = .returned (.int .i64 (Rp.run (vals rs) ws x)) ∧ w = w' := by
  have HL := Lib.hid hw.1
  have H := Lib.hid h
  have HW := Lib.hid hw
  have F := Lib.hid hf
  have S := Lib.hid hs
  have HP := Lib.hid hp
  obtain ⟨m, hm⟩ : ∃ m, rs.length = m := ⟨_, rfl⟩
  have HM := Lib.hid hm
  have LS := Lib.hid (fun (g y : Int) (a1 : g ≠ 0) (a2 : -(rs.length : Int) ≤ g) (a3 : g ≤ rs.length) (a4 : -1000 ≤ g ∧ g ≤ 1000) (a5 : 0 ≤ y) (a6 : y < n) => letter_spec n A c rs g y B w h hp a1 a2 a3 a4 a5 a6)
  rw [hm] at LS ⊢
  clear h hw hf hs hm hp
  go_enter Try.func67, Try.ntmps67
  go_wp2
  go_loop [7, 2] (fun i y => ∃ (k : Nat), k ≤ nw ∧ i = .int .i64 k ∧ y = .int .i64 (Rp.run (vals rs) (ws.take k) x)) (fun i _ => nw - (intOf i).toNat)
  case atStart => exact ⟨0, Nat.zero_le _, rfl, rfl⟩
  case round =>
    obtain ⟨k, hk, rfl, rfl⟩ := hrel
    have hin := Rp.run_inside (Rp.arePm_iff.1 HP.out).2 (show Rp.Fits (vals rs).length (ws.take k) from by rw [vals_len]; exact F.out.take k) h0 h1
    obtain ⟨y, hy⟩ : ∃ y, Rp.run (vals rs) (ws.take k) x = y := ⟨_, rfl⟩
    have HY := Lib.hid hy
    rw [hy] at hin ⊢
    have HIN := Lib.hid hin
    clear hy hin
    by_cases hlt : k < nw
    · obtain ⟨b, off, g, rfl, hb, hz, hck⟩ := HW.out.at_z hlt
      have hmem : g ∈ ws := by
        rw [← hz, List.getD_eq_getElem?_getD, List.getElem?_eq_getElem (by rw [HL.out]; exact hlt)]
        exact List.getElem_mem _
      have FG := Lib.hid (F.out g hmem)
      have SG := Lib.hid (S.out g hmem)
      have NX := Lib.hid (show Rp.run (vals rs) (ws.take (k + 1)) x = Rp.act (vals rs) g y from by
        rw [Wd.take_snoc ws (by rw [HL.out]; exact hlt), Rp.run_snoc, HY.out, hz])
      clear hmem hz
      go_wp2_with fail
      refine (LS.out g y FG.out.1 (by rw [← HM.out]; exact FG.out.2.1) (by rw [← HM.out]; exact FG.out.2.2) SG.out HIN.out.1 HIN.out.2).mono ?_
      rintro e w1 ⟨rfl, rfl⟩
      go_wp2
      go_round
      case rel => exact ⟨k + 1, by omega, by go_num, by rw [NX.out]⟩
      case measure => simp [intOf]; omega
    · obtain rfl : k = nw := by omega
      have TA := Lib.hid (show y = Rp.run (vals rs) ws x from by rw [← HY.out, List.take_of_length_le (Nat.le_of_eq HL.out)])
      go_wp2
      go_ret
      exact ⟨congrArg (fun t => Ending.returned (.int .i64 t)) TA.out, rfl⟩

/-- The relators act trivially. -/
def Rp.trivial (n : Int) (zss rels : List (List Int)) : Bool := decide (∀ r ∈ rels, ∀ x, x < n.toNat → Rp.run zss r (x : Int) = (x : Int))
theorem Rp.trivial_vals {n : Int} {zss : List (List Int)} {ps : List Rw} : Rp.trivial n zss (vals ps) = true ↔ ∀ k, k < ps.length → ∀ x, x < n.toNat → Rp.run zss (ps.getD k nilRw).zs (x : Int) = (x : Int) := by
  rw [Rp.trivial, decide_eq_true_iff]
  constructor
  · exact fun h k hk => h _ (vals_mem hk)
  · intro h z hz
    obtain ⟨r, hr, rfl⟩ := List.mem_map.1 hz
    obtain ⟨k, hk, rfl⟩ := List.mem_iff_getElem.1 hr
    have := h k hk
    rwa [List.getD_eq_getElem?_getD, List.getElem?_eq_getElem hk] at this

set_option maxHeartbeats 4000000 in
theorem trivial_spec (r n : Int) (P A : Option Addr) (cp c : Nat) (ps rs : List Rw) (w : World) (hps : RdS w w.heap.size P ps) (h : RdS w w.heap.size A rs) (hp : Rp.arePm n (vals rs) = true) (hf : ∀ k, k < ps.length → Rp.Fits rs.length (ps.getD k nilRw).zs ∧ Wd.Sm (ps.getD k nilRw).zs ∧ (ps.getD k nilRw).zs.length ≤ 120) (hpl : ps.length ≤ 1048576) :
    Calls Try.prog 64 #[.agg #[.int .i64 r, .slice P ps.length cp], .int .i64 n, .slice A rs.length c] w fun e w' => e = .returned (.bool (Rp.trivial n (vals rs) (vals ps))) ∧ Below w.heap.size w w' := by
  obtain ⟨⟨n1, n4⟩, _⟩ := arePm_vals.1 hp
  obtain ⟨N, hN⟩ : ∃ N : Nat, n = N := ⟨n.toNat, by omega⟩
  subst hN
  have P0 := Lib.hid (BoxG.new w 29 (.int .i64 r) (.slice P ps.length cp))
  have MV := Lib.hid (fun (k : Nat) (hk : k < ps.length) (Aw : Option Addr) (cw : Nat) (x : Int) (W : World) (hW : Below w.heap.size w W) (hI : Ints W w.heap.size Aw (ps.getD k nilRw).zs.length (ps.getD k nilRw).zs) (a1 : 0 ≤ x) (a2 : x < (N : Int)) => moves_spec N A Aw c (ps.getD k nilRw).zs.length cw rs (ps.getD k nilRw).zs x w.heap.size W (h.below hW) hI (by have := (hf k hk).2.2; omega) hp (hf k hk).1 (hf k hk).2.1 a1 a2)
  have HP := Lib.hid hps
  obtain ⟨m, hm⟩ : ∃ m, ps.length = m := ⟨_, rfl⟩
  obtain ⟨l, hl⟩ : ∃ l, rs.length = l := ⟨_, rfl⟩
  have HM := Lib.hid hm
  rw [hm] at P0 hpl ⊢
  rw [hm, hl] at MV
  rw [hl]
  obtain ⟨zss, hz⟩ : ∃ z, vals rs = z := ⟨_, rfl⟩
  rw [hz] at MV ⊢
  clear h hps hf hm hl hz hp
  obtain ⟨V, hV⟩ : ∃ V, V = w.alloc (Obj.cells #[.int .i64 r, .slice P m cp] 29) := ⟨_, rfl⟩
  have DV := Lib.hid (show Below w.heap.size w V from by rw [hV]; exact al1 _ _)
  have PV := Lib.hid (show BoxG V w.heap.size (.int .i64 r) (.slice P m cp) from by rw [hV]; exact P0.out)
  clear P0
  go_enter Try.func64, Try.ntmps64
  go_upto_region 1 with fail
  rw [← hV]
  clear hV
  obtain ⟨p0, p1⟩ := PV.out
  go_wp2
  go_loopw [7] (fun i W => ∃ k : Nat, k ≤ m ∧ i = .int .i64 k ∧ (∀ j, j < k → ∀ x, x < N → Rp.run zss (ps.getD j nilRw).zs (x : Int) = (x : Int)) ∧ V = W) (fun i _ => m - (intOf i).toNat)
  case atStart => exact ⟨0, Nat.zero_le _, rfl, fun j hj => by omega, rfl⟩
  case round =>
    obtain ⟨k, hk, rfl, hR, rfl⟩ := hrel
    have RR := Lib.hid hR
    have i0 : (0 : Int) ≤ (k : Int) := by omega
    clear hR
    by_cases hlt : k < m
    case neg =>
      have hkm : k = m := by omega
      have i1 : ¬ (k : Int) < (m : Int) := by omega
      have YES := Lib.hid (show Rp.trivial (N : Int) zss (vals ps) = true from Rp.trivial_vals.2 (by rw [HM.out, Int.toNat_natCast]; exact fun j hj => RR.out j (by omega)))
      clear hkm
      go_wp2
      go_ret
      exact ⟨ret_b YES.out, DV.out⟩
    · obtain ⟨b, off, Ak, ck, zk, rfl, hb, hrk, hck, hkc, hkm, hki⟩ := (HP.out.below DV.out).at_ (j := k) (by rw [HM.out]; exact hlt)
      have ZK := Lib.hid hrk
      have MK := Lib.hid (MV.out k hlt Ak ck)
      rw [hrk] at MK
      dsimp only at MK
      have i1 : (k : Int) < (m : Int) := by omega
      have KI := Lib.hid hki
      clear hrk hkc hkm hki
      go_wp2
      go_loopw [8] (fun i W => ∃ x : Nat, x ≤ N ∧ i = .int .i64 x ∧ (∀ y, y < x → Rp.run zss zk (y : Int) = (y : Int)) ∧ V = W) (fun i _ => N - (intOf i).toNat)
      case atStart => exact ⟨0, Nat.zero_le _, rfl, fun j hj => by omega, rfl⟩
      case round =>
        obtain ⟨x, hx, rfl, hR2, rfl⟩ := hrel
        have R2 := Lib.hid hR2
        clear hR2
        by_cases hlx : x < N
        · have j1 : (x : Int) < (N : Int) := by omega
          have MX := Lib.hid (MK.out (x : Int) V DV.out KI.out (by omega) j1)
          by_cases e : Rp.run zss zk (x : Int) = (x : Int)
          · have NX := Lib.hid (show ∀ y, y < x + 1 → Rp.run zss zk (y : Int) = (y : Int) from fun y hy => by
              by_cases e2 : y = x
              · rw [e2]; exact e
              · exact R2.out y (by omega))
            rw [e] at MX
            clear e
            have t0 : ((x : Int) != (x : Int)) = false := by simp
            go_wp2_with fail
            refine MX.out.mono ?_
            rintro e w1 ⟨rfl, rfl⟩
            go_wp2
            go_roundw
            case rel => exact ⟨x + 1, by omega, by go_num, NX.out, by first | trivial | rfl⟩
            case measure => simp [intOf]; omega
          · have NO := Lib.hid (show Rp.trivial (N : Int) zss (vals ps) = false from by
              rw [Bool.eq_false_iff]
              intro h1
              have := Rp.trivial_vals.1 h1 k (by rw [HM.out]; exact hlt) x (by rw [Int.toNat_natCast]; exact hlx)
              rw [ZK.out] at this
              exact e this)
            obtain ⟨v, hv⟩ : ∃ v, Rp.run zss zk (x : Int) = v := ⟨_, rfl⟩
            rw [hv] at MX e
            have t0 : (v != (x : Int)) = true := by simpa using e
            clear hv e
            go_wp2_with fail
            refine MX.out.mono ?_
            rintro e w1 ⟨rfl, rfl⟩
            go_wp2
            go_ret
            exact ⟨ret_b NO.out, DV.out⟩
        · have hxn : x = N := by omega
          have j1 : ¬ (x : Int) < (N : Int) := by omega
          have NX := Lib.hid (show ∀ j, j < k + 1 → ∀ x, x < N → Rp.run zss (ps.getD j nilRw).zs (x : Int) = (x : Int) from fun j hj y hy => by
            by_cases e2 : j = k
            · rw [e2, ZK.out]; exact R2.out y (by omega)
            · exact RR.out j (by omega) y hy)
          clear hxn
          go_wp2
          go_roundw
          case rel => exact ⟨k + 1, by omega, by go_num, NX.out, by first | trivial | rfl⟩
          case measure => simp [intOf]; omega

end Go.Proofs.Ytakokhfnllpahaa
