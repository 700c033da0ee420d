/- WordAction, the program's and the specification's. No condition but those that each theorem names. -/
import Derived.Test.YtakokhfnllpahaaRpE
import Derived.Test.YtakokhfnllpahaaMatL
import Derived.Deep.RegionHeld3
namespace Go.Proofs.Ytakokhfnllpahaa
open Go.RowKit

def wordOk (n : Int) (zss : List (List Int)) (ws : List Int) : Bool := Rp.arePm n zss && Wd.isW 24 ws && decide (∀ g ∈ ws, -(zss.length : Int) ≤ g ∧ g ≤ zss.length)
def imgs (zss : List (List Int)) (ws : List Int) (N : Nat) : List Int := (List.range N).map fun (x : Nat) => Rp.run zss ws (x : Int)
def wordAct (n : Int) (zss : List (List Int)) (ws : List Int) : List Int × Bool := if wordOk n zss ws = true then (imgs zss ws n.toNat, true) else ([], false)
theorem imgs_len (zss : List (List Int)) (ws : List Int) (N : Nat) : (imgs zss ws N).length = N := by simp [imgs]
theorem imgs_succ (zss : List (List Int)) (ws : List Int) (N : Nat) : imgs zss ws (N + 1) = imgs zss ws N ++ [Rp.run zss ws (N : Int)] := by simp [imgs, List.range_succ]
theorem wordOk_iff {n : Int} {zss : List (List Int)} {ws : List Int} : wordOk n zss ws = true ↔ Rp.arePm n zss = true ∧ Wd.isW 24 ws = true ∧ ∀ g ∈ ws, -(zss.length : Int) ≤ g ∧ g ≤ zss.length := by
  simp [wordOk, and_assoc]
/-- A list and a truth value; the list in own memory. -/
def ResLB (w : World) (q : List Int × Bool) (e : Ending) (w' : World) : Prop :=
  ∃ A c, e = .returned (.tuple #[.slice A q.1.length c, .bool q.2]) ∧ (q.1.length ≤ c ∧ c ≤ maxLen) ∧ Mine w' w.heap.size w'.heap.size A q.1.length q.1 ∧ Below w.heap.size w w'
theorem wordAct_no {n : Int} {zss : List (List Int)} {ws : List Int} (h : wordOk n zss ws = false) : wordAct n zss ws = ([], false) := by unfold wordAct; rw [h]; rfl
theorem fits_word {n : Int} {zss : List (List Int)} {ws : List Int} (h : wordOk n zss ws = true) : Rp.Fits (min zss.length 24) ws ∧ Rp.Fits zss.length ws ∧ Wd.Sm ws := by
  obtain ⟨_, h1, h2⟩ := wordOk_iff.1 h
  have h3 := h1
  simp only [Wd.isW, decide_eq_true_eq] at h3
  refine ⟨fun g hg => ?_, fun g hg => ?_, Wd.isW_sm h1 (by omega)⟩
  · have := h3.2 g hg; have := h2 g hg; omega
  · have := h3.2 g hg; have := h2 g hg; omega

set_option maxHeartbeats 8000000 in
theorem wordAct_spec (n : Int) (A Aw : Option Addr) (c nw cw : Nat) (rs : List Rw) (ws : List Int) (w : World) (hA : RdS w w.heap.size A rs) (hw : Ints w w.heap.size Aw nw ws) (hl : rs.length ≤ 1048576) (hrow : ∀ q ∈ rs, q.zs.length ≤ 1048576) (hwn : nw ≤ 1048576) (hn : -9223372036854775808 ≤ n ∧ n ≤ 9223372036854775807) :
    Calls Try.prog 30 #[.int .i64 n, .slice A rs.length c, .slice Aw nw cw] w (ResLB w (wordAct n (vals rs) ws)) := by
  have DG := Lib.hid (degree_spec n A c rs w.heap.size w hA hl hrow hn)
  have IW := Lib.hid (fun (W : World) (hI : Ints W W.heap.size Aw nw ws) => isWord_spec Aw nw cw ws W.heap.size W hI hwn)
  have HA := Lib.hid hA
  have HW := Lib.hid hw
  have HL := Lib.hid hw.1
  clear hrow hA hw
  rcases ha : Rp.arePm n (vals rs) with _ | _
  · have NO := Lib.hid (wordAct_no (show wordOk n (vals rs) ws = false from by unfold wordOk; rw [ha]; rfl))
    rw [ha] at DG
    rw [NO.out]
    clear ha
    go_enter Try.func30, Try.ntmps30
    go_wp2_with fail
    refine DG.out.mono ?_
    rintro e w1 ⟨rfl, q1, rfl⟩
    go_wp2
    refine bodyPost_ret (v := .tuple #[.slice (some ⟨w.heap.size, 0, none⟩) 0 0, .bool false]) (by simp [results, Try.results30, go_sem]) rfl ?_
    exact ⟨_, _, rfl, ⟨Nat.le_refl _, Nat.zero_le _⟩, Mine.none_ _ _ _ _, (Go.Joins.below_draws _ _ _).alloc (Nat.le_refl _) _⟩
  rw [ha] at DG
  rcases hiw : Wd.isW 24 ws with _ | _
  · have NO := Lib.hid (wordAct_no (show wordOk n (vals rs) ws = false from by unfold wordOk; rw [hiw]; simp))
    rw [hiw] at IW
    rw [NO.out]
    clear ha hiw
    go_enter Try.func30, Try.ntmps30
    go_wp2_with fail
    refine DG.out.mono ?_
    rintro e w1 ⟨rfl, q1, rfl⟩
    go_wp2_with fail
    refine (IW.out _ (HW.out.drewN q1)).mono ?_
    rintro e w2 ⟨rfl, rfl⟩
    go_wp2
    refine bodyPost_ret (v := .tuple #[.slice (some ⟨w.heap.size, 0, none⟩) 0 0, .bool false]) (by simp [results, Try.results30, go_sem]) rfl ?_
    exact ⟨_, _, rfl, ⟨Nat.le_refl _, Nat.zero_le _⟩, Mine.none_ _ _ _ _, (Go.Joins.below_draws _ _ _).alloc (Nat.le_refl _) _⟩
  rw [hiw] at IW
  have FW := Lib.hid (show ∀ k, k < nw → -24 ≤ ws.getD k 0 ∧ ws.getD k 0 ≤ 24 from fun k hk => by
    have h3 := hiw
    simp only [Wd.isW, decide_eq_true_eq] at h3
    have := h3.2 (ws.getD k 0) (by rw [List.getD_eq_getElem?_getD, List.getElem?_eq_getElem (by rw [HL.out]; exact hk)]; exact List.getElem_mem _)
    omega)
  have OK := Lib.hid (show ((∀ k, k < nw → -(rs.length : Int) ≤ ws.getD k 0 ∧ ws.getD k 0 ≤ rs.length) → wordOk n (vals rs) ws = true) from fun h => wordOk_iff.2 ⟨ha, hiw, fun g hg => by
    obtain ⟨k, hk, rfl⟩ := List.mem_iff_getElem.1 hg
    have := h k (by rw [← HL.out]; exact hk)
    rw [List.getD_eq_getElem?_getD, List.getElem?_eq_getElem hk] at this
    rw [vals_len]
    exact this⟩)
  have BAD := Lib.hid (fun (k : Nat) (hk : k < nw) (hb : ¬ (-(rs.length : Int) ≤ ws.getD k 0 ∧ ws.getD k 0 ≤ rs.length)) => wordAct_no (show wordOk n (vals rs) ws = false from by
    rw [Bool.eq_false_iff]
    intro h1
    have := (wordOk_iff.1 h1).2.2 (ws.getD k 0) (by rw [List.getD_eq_getElem?_getD, List.getElem?_eq_getElem (by rw [HL.out]; exact hk)]; exact List.getElem_mem _)
    rw [vals_len] at this
    exact hb this))
  obtain ⟨⟨n1, n4⟩, _⟩ := arePm_vals.1 ha
  obtain ⟨N, hN⟩ : ∃ N : Nat, n = N := ⟨n.toNat, by omega⟩
  subst hN
  have MS := Lib.hid (fun (ho : wordOk (N : Int) (vals rs) ws = true) (x : Int) (W : World) (hb : Below w.heap.size w W) (a1 : 0 ≤ x) (a2 : x < (N : Int)) => moves_spec N A Aw c nw cw rs ws x w.heap.size W (HA.out.below hb) (HW.out.below hb) hwn ha (by have := (fits_word ho).2.1; rwa [vals_len] at this) (fits_word ho).2.2 a1 a2)
  obtain ⟨l, hll⟩ : ∃ l, rs.length = l := ⟨_, rfl⟩
  have LL := Lib.hid hll
  rw [hll] at DG hl BAD OK MS ⊢
  obtain ⟨R, hR⟩ : ∃ R, wordAct (N : Int) (vals rs) ws = R := ⟨_, rfl⟩
  rw [hR] at BAD ⊢
  have YES := Lib.hid (fun (ho : wordOk (N : Int) (vals rs) ws = true) => (show R = (imgs (vals rs) ws N, true) from by rw [← hR]; unfold wordAct; rw [if_pos ho, Int.toNat_natCast]))
  clear ha hiw hll hR
  go_enter Try.func30, Try.ntmps30
  go_wp2_with fail
  refine DG.out.mono ?_
  rintro e w1 ⟨rfl, q1, hq1⟩
  have D1 := Lib.hid (show Below w.heap.size w w1 from by rw [hq1]; exact Go.Joins.below_draws _ _ _)
  have HW1 := Lib.hid (HW.out.below D1.out)
  have z1 : w.heap.size ≤ w1.heap.size := D1.out.size
  clear hq1
  go_wp2_with fail
  refine (IW.out _ (HW1.out.more z1)).mono ?_
  rintro e w2 ⟨rfl, rfl⟩
  go_wp2
  go_loop [8] (fun i => ∃ k : Nat, k ≤ nw ∧ i = .int .i64 k ∧ ∀ j, j < k → -(l : Int) ≤ ws.getD j 0 ∧ ws.getD j 0 ≤ l) (fun i => nw - (intOf i).toNat)
  case atStart => exact ⟨0, Nat.zero_le _, rfl, fun j hj => by omega⟩
  case round =>
    obtain ⟨k, hk, rfl, hF⟩ := hrel
    have FF := Lib.hid hF
    clear hF
    by_cases hlt : k < nw
    · obtain ⟨b, off, g, rfl, hb, hz, hck⟩ := HW1.out.at_z hlt
      have i1 : (k : Int) < (nw : Int) := by omega
      have FG := Lib.hid (FW.out k hlt)
      have Z := Lib.hid hz
      rw [hz] at FG
      by_cases hg : -(l : Int) ≤ g ∧ g ≤ l
      · have NX := Lib.hid (show ∀ j, j < k + 1 → -(l : Int) ≤ ws.getD j 0 ∧ ws.getD j 0 ≤ l from fun j hj => by
          by_cases e : j = k
          · rw [e, Z.out]; exact hg
          · exact FF.out j (by omega))
        have AB := Lib.hid (abs_spec g 24 w1 FG.out.1 FG.out.2 (by omega))
        obtain ⟨ab, hab⟩ : ∃ ab : Int, mg g = ab := ⟨_, rfl⟩
        have t0 : ¬ (l : Int) < ab := by rw [← hab]; unfold mg; omega
        rw [hab] at AB
        clear hab hg hz
        go_wp2_with fail
        refine AB.out.mono ?_
        rintro e w2 ⟨rfl, rfl⟩
        go_wp2
        go_round
        case rel => exact ⟨k + 1, by omega, by go_num, NX.out⟩
        case measure => simp [intOf]; omega
      · have RB := Lib.hid (BAD.out k hlt (by rw [hz]; exact hg))
        have AB := Lib.hid (abs_spec g 24 w1 FG.out.1 FG.out.2 (by omega))
        obtain ⟨ab, hab⟩ : ∃ ab : Int, mg g = ab := ⟨_, rfl⟩
        have t0 : (l : Int) < ab := by rw [← hab]; unfold mg; omega
        rw [hab] at AB
        clear hab hg hz
        rw [RB.out]
        go_wp2_with fail
        refine AB.out.mono ?_
        rintro e w2 ⟨rfl, rfl⟩
        go_wp2
        refine bodyPost_ret (v := .tuple #[.slice (some ⟨w1.heap.size, 0, none⟩) 0 0, .bool false]) (by simp [results, Try.results30, go_sem]) rfl ?_
        exact ⟨_, _, rfl, ⟨Nat.le_refl _, Nat.zero_le _⟩, Mine.none_ _ _ _ _, D1.out.alloc (by omega) _⟩
    · have hkn : k = nw := by omega
      have i1 : ¬ (k : Int) < (nw : Int) := by omega
      have OO := Lib.hid (OK.out (by rw [← hkn]; exact FF.out))
      have MO := Lib.hid (MS.out OO.out)
      clear hkn
      go_wp2
      go_loopw [10, 9] (fun i y W => ∃ (x : Nat) (A2 : Option Addr) (c2 : Nat), x ≤ N ∧ i = .int .i64 x ∧ y = .slice A2 x c2 ∧ Own W w1.heap.size W.heap.size A2 x c2 (imgs (vals rs) ws x) ∧ Below w1.heap.size w1 W) (fun i _ _ => N - (intOf i).toNat)
      case atStart => exact ⟨0, some ⟨w1.heap.size, 0, none⟩, 0, Nat.zero_le _, rfl, rfl, (Wd.own_nil w1).wide (Nat.le_refl _) (by simp), al1 _ _⟩
      case round =>
        obtain ⟨x, A2, c2, hx, rfl, rfl, hown, hbel⟩ := hrel
        have O := Lib.hid hown
        have D := Lib.hid hbel
        have zr : w1.heap.size ≤ wr.heap.size := hbel.size
        clear hown hbel
        by_cases hlx : x < N
        · have j1 : (x : Int) < (N : Int) := by omega
          have DW := Lib.hid (D1.out.trans (D.out.mono z1))
          have MX := Lib.hid (MO.out (x : Int) wr DW.out (by omega) j1)
          obtain ⟨v, hv⟩ : ∃ v, Rp.run (vals rs) ws (x : Int) = v := ⟨_, rfl⟩
          have IS := Lib.hid (show imgs (vals rs) ws (x + 1) = imgs (vals rs) ws x ++ [v] from by rw [imgs_succ, hv])
          rw [hv] at MX
          clear hv
          go_wp2_with fail
          refine MX.out.mono ?_
          rintro e w2 ⟨rfl, rfl⟩
          go_wp2_with (at_builtin; refine Wd.push_int rfl _ _ rfl w1.heap.size wr.heap.size c2 wr.heap.size x A2 _ v rfl (by exact O.out.below (al1 wr _) (Nat.le_refl _)) rfl (by exact Wd.alloc_first _ _ _ _ rfl) (by simp; omega) (by omega) ?_; intro A7 c7 w7 h5 h6; have O7 := Lib.hid h5; have D7 := Lib.hid ((D.out.trans ((al1 wr _).mono zr)).trans (h6.below (Nat.le_refl _) (by simp; omega))); clear h5 h6)
          go_roundw
          case rel => exact ⟨x + 1, A7, c7, by omega, by go_num, rfl, by rw [IS.out]; exact O7.out, D7.out⟩
          case measure => simp [intOf]; omega
        · have hxn : x = N := by omega
          have j1 : ¬ (x : Int) < (N : Int) := by omega
          have FIN := Lib.hid (show Own wr w1.heap.size wr.heap.size A2 N c2 (imgs (vals rs) ws N) from by rw [← hxn]; exact O.out)
          subst hxn
          go_wp2
          refine bodyPost_ret (v := .tuple #[.slice A2 x c2, .bool true]) (by simp [results, Try.results30, go_sem]) rfl ?_
          rw [YES.out OO.out]
          refine ⟨A2, c2, by rw [imgs_len], ?_, ?_, D1.out.trans (D.out.mono z1)⟩
          · dsimp only; rw [imgs_len]; exact Wd.own_caps FIN.out
          · dsimp only; rw [imgs_len]; exact FIN.out.mine.wide z1 (Nat.le_refl _)

end Go.Proofs.Ytakokhfnllpahaa
