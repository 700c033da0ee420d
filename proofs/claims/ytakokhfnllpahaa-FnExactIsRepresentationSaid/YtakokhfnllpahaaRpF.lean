/- IsRepresentation, the program's and the specification's. No condition but those that each theorem names. -/
import Derived.Test.YtakokhfnllpahaaRpE
import Derived.Deep.RegionHeld3
namespace Go.Proofs.Ytakokhfnllpahaa
open Go.RowKit

def isRep (r n : Int) (zps zss : List (List Int)) : Bool := Wd.isP r zps && decide ((zss.length : Int) = r) && Rp.arePm n zss && Rp.trivial n zss zps
theorem fits_of {r : Int} {ps : List Rw} {m : Nat} (h : Wd.isP r (vals ps) = true) (hm : (m : Int) = r) {k : Nat} (hk : k < ps.length) : Rp.Fits m (ps.getD k nilRw).zs ∧ Wd.Sm (ps.getD k nilRw).zs ∧ (ps.getD k nilRw).zs.length ≤ 120 := by
  obtain ⟨r0, r24, r48, hz⟩ := Wd.isP_iff.1 h
  have h1 := (Wd.isR_iff.1 (hz _ (vals_mem hk))).1
  have h2 := h1
  simp only [Wd.isW, decide_eq_true_eq] at h2
  refine ⟨fun g hg => ?_, Wd.isW_sm h1 (by omega), h2.1⟩
  have := h2.2 g hg
  omega

set_option maxHeartbeats 8000000 in
theorem isRep_spec (r n : Int) (P A : Option Addr) (cp c : Nat) (ps rs : List Rw) (w : World) (hP : RdS w w.heap.size P ps) (hA : RdS w w.heap.size A rs) (hpl : ps.length ≤ 1048576) (hprow : ∀ q ∈ ps, q.zs.length ≤ 1048576) (hl : rs.length ≤ 1048576) (hrow : ∀ q ∈ rs, q.zs.length ≤ 1048576) (hn : -9223372036854775808 ≤ n ∧ n ≤ 9223372036854775807) :
    Calls Try.prog 25 #[.agg #[.int .i64 r, .slice P ps.length cp], .int .i64 n, .slice A rs.length c] w (ResB w (isRep r n (vals ps) (vals rs))) := by
  have IP := Lib.hid (fun (W : World) (hb : Below w.heap.size w W) => isPres_spec r P cp ps W (hP.into hb) hpl hprow)
  have DG := Lib.hid (fun (W : World) (hb : Below w.heap.size w W) => degree_spec n A c rs w.heap.size W (hA.below hb) hl hrow hn)
  have TR := Lib.hid (fun (hp : Wd.isP r (vals ps) = true) (hm : (rs.length : Int) = r) (ha : Rp.arePm n (vals rs) = true) (W : World) (hb : Below w.heap.size w W) => trivial_spec r n P A cp c ps rs W (hP.into hb) (hA.into hb) ha (fun k hk => fits_of hp hm hk) hpl)
  have P0 := Lib.hid (BoxG.new w 29 (.int .i64 r) (.slice P ps.length cp))
  obtain ⟨V, hV⟩ : ∃ V, V = w.alloc (Obj.cells #[.int .i64 r, .slice P ps.length cp] 29) := ⟨_, rfl⟩
  have DV := Lib.hid (show Below w.heap.size w V from by rw [hV]; exact al1 _ _)
  have sV : w.heap.size < V.heap.size := by rw [hV]; simp
  have PV := Lib.hid (show BoxG V w.heap.size (.int .i64 r) (.slice P ps.length cp) from by rw [hV]; exact P0.out)
  clear P0
  clear hP hA hprow hrow
  rcases hp : Wd.isP r (vals ps) with _ | _
  · have NO := Lib.hid (show isRep r n (vals ps) (vals rs) = false from by unfold isRep; rw [hp]; rfl)
    rw [hp] at IP
    clear hp
    go_enter Try.func25, Try.ntmps25
    go_upto_region 1 with fail
    rw [← hV]
    clear hV
    obtain ⟨p0, p1⟩ := PV.out
    go_wp2_with fail
    refine (IP.out _ DV.out).mono ?_
    rintro e w1 ⟨rfl, hb1⟩
    have D1 := Lib.hid (DV.out.trans (hb1.mono (by omega)))
    clear hb1 p0 p1
    go_wp2
    go_ret
    exact ⟨ret_b NO.out, D1.out⟩
  by_cases hm : (rs.length : Int) = r
  case neg =>
    have NO := Lib.hid (show isRep r n (vals ps) (vals rs) = false from by unfold isRep; rw [hp, vals_len, show decide ((rs.length : Int) = r) = false from by simpa using hm]; rfl)
    rw [hp] at IP
    have t0 : ((rs.length : Int) == r) = false := by simpa using hm
    clear hp hm
    go_enter Try.func25, Try.ntmps25
    go_upto_region 1 with fail
    rw [← hV]
    clear hV
    obtain ⟨p0, p1⟩ := PV.out
    go_wp2_with fail
    refine (IP.out _ DV.out).mono ?_
    rintro e w1 ⟨rfl, hb1⟩
    have D1 := Lib.hid (DV.out.trans (hb1.mono (by omega)))
    clear p0 p1
    obtain ⟨p0, p1⟩ := PV.out.below hb1 (by omega)
    clear hb1
    go_wp2
    go_ret
    exact ⟨ret_b NO.out, D1.out⟩
  have t0 : ((rs.length : Int) == r) = true := by simpa using hm
  rcases ha : Rp.arePm n (vals rs) with _ | _
  · have NO := Lib.hid (show isRep r n (vals ps) (vals rs) = false from by unfold isRep; rw [ha]; simp)
    rw [hp] at IP
    rw [ha] at DG
    clear hp hm ha
    go_enter Try.func25, Try.ntmps25
    go_upto_region 1 with fail
    rw [← hV]
    clear hV
    obtain ⟨p0, p1⟩ := PV.out
    go_wp2_with fail
    refine (IP.out _ DV.out).mono ?_
    rintro e w1 ⟨rfl, hb1⟩
    have D1 := Lib.hid (DV.out.trans (hb1.mono (by omega)))
    clear p0 p1
    obtain ⟨p0, p1⟩ := PV.out.below hb1 (by omega)
    have z1 := hb1.size
    clear hb1
    go_wp2_with fail
    refine (DG.out _ D1.out).mono ?_
    rintro e w2 ⟨rfl, q2, rfl⟩
    go_wp2
    go_ret
    exact ⟨ret_b NO.out, D1.out.trans (Go.Joins.below_draws _ _ _)⟩
  · have YES := Lib.hid (show isRep r n (vals ps) (vals rs) = Rp.trivial n (vals rs) (vals ps) from by unfold isRep; rw [hp, ha, vals_len, show decide ((rs.length : Int) = r) = true from by simpa using hm]; simp)
    have TT := Lib.hid (TR.out hp hm ha)
    rw [hp] at IP
    rw [ha] at DG
    rw [YES.out]
    clear hp hm ha TR
    go_enter Try.func25, Try.ntmps25
    go_upto_region 1 with fail
    rw [← hV]
    clear hV
    obtain ⟨p0, p1⟩ := PV.out
    go_wp2_with fail
    refine (IP.out _ DV.out).mono ?_
    rintro e w1 ⟨rfl, hb1⟩
    have D1 := Lib.hid (DV.out.trans (hb1.mono (by omega)))
    have z1 : V.heap.size ≤ w1.heap.size := hb1.size
    have P1 := Lib.hid (PV.out.below hb1 (by omega))
    clear p0 p1 hb1
    obtain ⟨p0, p1⟩ := P1.out
    go_wp2_with fail
    refine (DG.out _ D1.out).mono ?_
    rintro e w2 ⟨rfl, q2, hq2⟩
    have D2 := Lib.hid (show Below w.heap.size w w2 from by rw [hq2]; exact D1.out.trans (Go.Joins.below_draws _ _ _))
    have z2 : w1.heap.size ≤ w2.heap.size := by rw [hq2]; exact (Go.Joins.below_draws w1.heap.size w1 q2).size
    clear p0 p1
    obtain ⟨p0, p1⟩ := P1.out.below (show Below w1.heap.size w1 w2 from by rw [hq2]; exact Go.Joins.below_draws _ _ _) (by omega)
    clear hq2
    go_wp2_with fail
    refine (TT.out _ D2.out).mono ?_
    rintro e w3 ⟨rfl, hb3⟩
    have D3 := Lib.hid (D2.out.trans (hb3.mono (by have := D2.out.size; omega)))
    clear hb3 p0 p1
    go_wp2
    go_ret
    exact ⟨rfl, D3.out⟩

set_option maxHeartbeats 8000000 in
theorem isRep_impl (r n : Int) (P A : Option Addr) (cp c : Nat) (ps rs : List Rw) (w : World) (hP : RdS w w.heap.size P ps) (hA : RdS w w.heap.size A rs) (hpl : ps.length ≤ 1048576) (hprow : ∀ q ∈ ps, q.zs.length ≤ 1048576) (hl : rs.length ≤ 1048576) (hrow : ∀ q ∈ rs, q.zs.length ≤ 1048576) (hc : rs.length ≤ c) (hcm : c ≤ maxLen) :
    Calls Try.prog 19 #[.agg #[.int .i64 r, .slice P ps.length cp], .int .i64 n, .slice A rs.length c] w (ResB w (isRep r n (vals ps) (vals rs))) := by
  have IP := Lib.hid (fun (W : World) (hb : Below w.heap.size w W) => isPres_impl r P cp ps W (hP.into hb) hpl hprow)
  have DG := Lib.hid (fun (W : World) (hb : Below w.heap.size w W) => perms_impl n A c rs W (hA.into hb) hl hrow)
  have HP := Lib.hid hP
  have HA := Lib.hid hA
  have P0 := Lib.hid (BoxG.new w 29 (.int .i64 r) (.slice P ps.length cp))
  obtain ⟨V, hV⟩ : ∃ V, V = w.alloc (Obj.cells #[.int .i64 r, .slice P ps.length cp] 29) := ⟨_, rfl⟩
  have DV := Lib.hid (show Below w.heap.size w V from by rw [hV]; exact al1 _ _)
  have sV : w.heap.size < V.heap.size := by rw [hV]; simp
  have PV := Lib.hid (show BoxG V w.heap.size (.int .i64 r) (.slice P ps.length cp) from by rw [hV]; exact P0.out)
  clear P0
  clear hP hA hprow hrow
  rcases hp : Wd.isP r (vals ps) with _ | _
  · have NO := Lib.hid (show isRep r n (vals ps) (vals rs) = false from by unfold isRep; rw [hp]; rfl)
    rw [hp] at IP
    clear hp
    go_enter Try.func19, Try.ntmps19
    go_upto_region 1 with fail
    rw [← hV]
    clear hV
    obtain ⟨p0, p1⟩ := PV.out
    go_wp2_with fail
    refine (IP.out _ DV.out).mono ?_
    rintro e w1 ⟨rfl, hb1⟩
    have D1 := Lib.hid (DV.out.trans (hb1.mono (by omega)))
    clear hb1 p0 p1
    go_wp2
    go_ret
    exact ⟨ret_b NO.out, D1.out⟩
  by_cases hm : (rs.length : Int) = r
  case neg =>
    have NO := Lib.hid (show isRep r n (vals ps) (vals rs) = false from by unfold isRep; rw [hp, vals_len, show decide ((rs.length : Int) = r) = false from by simpa using hm]; rfl)
    rw [hp] at IP
    have t0 : ((rs.length : Int) != r) = true := by simpa using hm
    clear hp hm
    go_enter Try.func19, Try.ntmps19
    go_upto_region 1 with fail
    rw [← hV]
    clear hV
    obtain ⟨p0, p1⟩ := PV.out
    go_wp2_with fail
    refine (IP.out _ DV.out).mono ?_
    rintro e w1 ⟨rfl, hb1⟩
    have D1 := Lib.hid (DV.out.trans (hb1.mono (by omega)))
    clear p0 p1
    obtain ⟨p0, p1⟩ := PV.out.below hb1 (by omega)
    clear hb1
    go_wp2
    go_ret
    exact ⟨ret_b NO.out, D1.out⟩
  have t0 : ((rs.length : Int) != r) = false := by simpa using hm
  rcases ha : Rp.arePm n (vals rs) with _ | _
  · have NO := Lib.hid (show isRep r n (vals ps) (vals rs) = false from by unfold isRep; rw [ha]; simp)
    rw [hp] at IP
    rw [ha] at DG
    clear hp hm ha
    go_enter Try.func19, Try.ntmps19
    go_upto_region 1 with fail
    rw [← hV]
    clear hV
    obtain ⟨p0, p1⟩ := PV.out
    go_wp2_with fail
    refine (IP.out _ DV.out).mono ?_
    rintro e w1 ⟨rfl, hb1⟩
    have D1 := Lib.hid (DV.out.trans (hb1.mono (by omega)))
    clear p0 p1
    obtain ⟨p0, p1⟩ := PV.out.below hb1 (by omega)
    have z1 := hb1.size
    clear hb1
    go_wp2_with fail
    refine (DG.out _ D1.out).mono ?_
    rintro e w2 ⟨rfl, hb2⟩
    have D2 := Lib.hid (D1.out.trans (hb2.mono (by have := D1.out.size; omega)))
    clear hb2 p0 p1
    go_wp2
    go_ret
    exact ⟨ret_b NO.out, D2.out⟩
  · have YES := Lib.hid (show isRep r n (vals ps) (vals rs) = Rp.trivial n (vals rs) (vals ps) from by unfold isRep; rw [hp, ha, vals_len, show decide ((rs.length : Int) = r) = true from by simpa using hm]; simp)
    rw [YES.out]
    obtain ⟨⟨n1, n4⟩, hpm⟩ := arePm_vals.1 ha
    have hr24 := (Wd.isP_iff.1 hp).2.1
    have PZ := Lib.hid (Rp.arePm_iff.1 ha).2
    have MP := Lib.hid (fun (W : World) (hb : Below w.heap.size w W) => maps_impl n A c rs W (HA.out.into hb) hpm n4 hc hcm hl)
    obtain ⟨N, hN⟩ : ∃ N : Nat, n = N := ⟨n.toNat, by omega⟩
    have FO := Lib.hid (fun (k : Nat) (hk : k < ps.length) => fits_of hp hm hk)
    have TR := Lib.hid (fun (b : Nat) (d : List Int) (W : World) (hb : Below w.heap.size w W) (hbk : BlkM W b d) (hmp : Maps (vals rs) (min rs.length 24) d) => trivial_impl b rs.length N (vals rs) d P cp ps w.heap.size W (HP.out.below hb) hbk (by rw [show min rs.length 24 = rs.length by omega] at hmp; exact hmp) (by rw [vals_len]; exact Nat.le_refl _) (by rw [← hN]; exact PZ.out) (by omega) (by omega) (fun j hj => ⟨(FO.out j hj).1, (FO.out j hj).2.2⟩) hpl)
    rw [← hN] at TR
    rw [hp] at IP
    rw [ha] at DG
    clear hp hm ha hN hpm
    go_enter Try.func19, Try.ntmps19
    go_upto_region 1 with fail
    rw [← hV]
    clear hV
    obtain ⟨p0, p1⟩ := PV.out
    go_wp2_with fail
    refine (IP.out _ DV.out).mono ?_
    rintro e w1 ⟨rfl, hb1⟩
    have D1 := Lib.hid (DV.out.trans (hb1.mono (by omega)))
    have z1 : V.heap.size ≤ w1.heap.size := hb1.size
    have P1 := Lib.hid (PV.out.below hb1 (by omega))
    clear p0 p1 hb1
    obtain ⟨p0, p1⟩ := P1.out
    go_wp2_with fail
    refine (DG.out _ D1.out).mono ?_
    rintro e w2 ⟨rfl, hb2⟩
    have D2 := Lib.hid (D1.out.trans (hb2.mono (by have := D1.out.size; omega)))
    have z2 : w1.heap.size ≤ w2.heap.size := hb2.size
    have P2 := Lib.hid (P1.out.below hb2 (by omega))
    clear p0 p1 hb2
    obtain ⟨p0, p1⟩ := P2.out
    go_upto_region 3 with fail
    go_region_held3 (fun W => (W.cell? ⟨w.heap.size, 0, none⟩ = some (.int .i64 r)) ∧ (W.cell? ⟨w.heap.size, 1, none⟩ = some (.slice P ps.length cp))) (go_keep)
      (first
        | (go_at_call 57; (refine (MP.out _ (by exact D2.out.drew)).mono ?_); rintro e w6 ⟨rfl, d6, hbk6, hmp6, hb6'⟩; have hb6 := undrew hb6'; have B6 := Lib.hid hb6; have K6 := Lib.hid hbk6; have M6 := Lib.hid hmp6; have z6 := hb6.size; obtain ⟨e0, e1⟩ := P2.out.below hb6 (by omega); clear hb6 hb6' hbk6 hmp6)
        | (go_at_call 58; (refine (TR.out _ d6 _ (D2.out.trans (B6.out.mono (by have := D2.out.size; omega))) K6.out M6.out).mono ?_); rintro e w7 ⟨rfl, rfl⟩))
    all_goals
      go_wp2
      go_ret
      exact ⟨rfl, D2.out.trans (B6.out.mono (by have := D2.out.size; omega))⟩

end Go.Proofs.Ytakokhfnllpahaa
