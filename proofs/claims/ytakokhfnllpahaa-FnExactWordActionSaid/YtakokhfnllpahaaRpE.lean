/- The program's arePermutations. No condition but those that each theorem names. -/
import Derived.Test.YtakokhfnllpahaaRpD
namespace Go.Proofs.Ytakokhfnllpahaa
open Go.RowKit

theorem infoB : (Try.prog.info? 4).map (fun i => (i.zero, i.size, i.bytes)) = some (some (.bool false), 1, 1) := by kernel_rfl
theorem run_make_bools (n : Nat) (hn : n ≤ 1048576) (w : World) :
    (Instr.makeSlice 115 (.int .i64 (n : Int)) (.int .i64 (n : Int))).run Try.prog w = .ok (.slice (some ⟨w.heap.size, 0, none⟩) n n) (w.alloc (.cells ((List.replicate n false).map Value.bool).toArray 4)) := by
  obtain ⟨i0, hi, hz0, hz1, hz2⟩ := info_parts infoB
  have hr := run_make (P := Try.prog) w 115 4 i0 _ Try.underlying115 hi hz0 .i64 .i64 n n (by omega) (by omega) (by rw [hz2]; omega) (by omega)
  simp only [Int.toNat_natCast] at hr
  have e : madeCells (Value.bool false).cells (n * 1) = ((List.replicate n false).map Value.bool).toArray := by
    apply Array.ext
    · simp [madeCells]
    · intro i h1 h2
      simp [madeCells, Value.cells, Nat.mod_one]
  rw [hz1, e] at hr
  exact hr
/-- A block of truth values that is known whole. -/
def BlkB (W : World) (g : Nat) (d : List Bool) : Prop := W.heap[g]? = some (.cells (d.map Value.bool).toArray 4 (0, 0))
theorem BlkB.lt {W : World} {g : Nat} {d : List Bool} (h : BlkB W g d) : g < W.heap.size := by
  rcases Nat.lt_or_ge g W.heap.size with hlt | hge
  · exact hlt
  · unfold BlkB at h; rw [Array.getElem?_eq_none hge] at h; cases h
theorem BlkB.cell {W : World} {g : Nat} {d : List Bool} (h : BlkB W g d) {i : Nat} (hi : i < d.length) : W.cell? ⟨g, i, none⟩ = some (.bool (d.getD i false)) := by
  rw [cell_of_row W g i _ _ (0, 0) h]
  simp [List.getElem?_eq_getElem hi]
theorem BlkB.frozen {W : World} {g : Nat} {d : List Bool} (h : BlkB W g d) (i : Nat) : W.frozen? ⟨g, i, none⟩ = false := by
  unfold BlkB at h
  simp [World.frozen?, h]
theorem BlkB.set_ {W : World} {g : Nat} {d : List Bool} (h : BlkB W g d) (i : Nat) (u : Bool) : BlkB (W.setCell ⟨g, i, none⟩ (.bool u)) g (d.set i u) := by
  unfold BlkB at h ⊢
  simp [World.setCell, Array.getElem?_modify, h]
theorem getD_setB {d : List Bool} {i j : Nat} {u : Bool} (hj : j < d.length) : (d.set i u).getD j false = if i = j then u else d.getD j false := by
  rw [List.getD_eq_getElem?_getD, List.getD_eq_getElem?_getD, List.getElem?_set]
  by_cases e : i = j
  · subst e
    simp [hj]
  · simp [e]

set_option maxHeartbeats 4000000 in
theorem perm_impl (N : Nat) (A : Option Addr) (m c : Nat) (z : List Int) (w : World) (h : Ints w w.heap.size A m z) (hm : m ≤ 1048576) (hN : N ≤ 4) :
    Calls Try.prog 89 #[.int .i64 N, .slice A m c] w fun e w' => e = .returned (.bool (decide (Rp.Pm (N : Int) z))) ∧ Below w.heap.size w w' := by
  have hl := Lib.hid h.1
  have H := Lib.hid h
  clear h
  by_cases hmn : m = N
  case neg =>
    have NO := Lib.hid (show decide (Rp.Pm (N : Int) z) = false from by
      rw [decide_eq_false_iff_not]
      intro hp
      have := hp.1
      rw [hl.out] at this
      omega)
    have t0 : ((m : Int) != (N : Int)) = true := by simp; omega
    clear hmn
    go_enter Try.func89, Try.ntmps89
    go_wp2
    go_ret
    exact ⟨ret_b NO.out, Below.refl _ _⟩
  · subst hmn
    have t0 : ((m : Int) != (m : Int)) = false := by simp
    have MK := run_make_bools m hm
    go_enter Try.func89, Try.ntmps89
    go_wp2
    go_loopw [16] (fun i W => ∃ (k : Nat) (d : List Bool), k ≤ m ∧ i = .int .i64 k ∧ BlkB W w.heap.size d ∧ d.length = m ∧ PmK (m : Int) z k ∧ (∀ y, y < m → (d.getD y false = true ↔ ∃ j, j < k ∧ z.getD j 0 = (y : Int))) ∧ Below w.heap.size w W) (fun i _ => m - (intOf i).toNat)
    case atStart => exact ⟨0, List.replicate m false, Nat.zero_le _, rfl, by (have h9 := heap_alloc_new w (Obj.cells (Array.replicate m (Value.bool false)) 4)); unfold BlkB; simpa using h9, List.length_replicate .., (fun i hi => by omega), (fun y hy => by simp [List.getD_eq_getElem?_getD, hy]), al1 _ _⟩
    case round =>
      obtain ⟨k, d, hk, rfl, hbk, hdl, hpk, hfd, hbel⟩ := hrel
      have BK := Lib.hid hbk
      have PK := Lib.hid hpk
      have FD := Lib.hid hfd
      have DB := Lib.hid hbel
      have DL := Lib.hid hdl
      have bl := hbk.lt
      clear hbk hpk hfd hbel hdl
      by_cases hlt : k < m
      · obtain ⟨b, off, v, rfl, hb, hz, hck⟩ := (H.out.below DB.out).at_z hlt
        have Z := Lib.hid hz
        have i1 : (k : Int) < (m : Int) := by omega
        by_cases hin : 0 ≤ v ∧ v < m
        · obtain ⟨y, rfl⟩ : ∃ y : Nat, v = y := ⟨v.toNat, by omega⟩
          have hy : y < m := by omega
          have hcy := BK.out.cell (i := y) (by rw [DL.out]; exact hy)
          have hfy := BK.out.frozen y
          obtain ⟨bv, hbv⟩ : ∃ bv, d.getD y false = bv := ⟨_, rfl⟩
          have BV := Lib.hid hbv
          rw [hbv] at hcy
          have t1 : decide ((y : Int) < 0) = false := by simp
          have t2 : decide ((m : Int) ≤ (y : Int)) = false := by simp; omega
          have t3 : ¬ (y : Int) < 0 := by omega
          have t4 : ¬ (m : Int) ≤ (y : Int) := by omega
          have t5 : (y : Int) < (m : Int) := by omega
          clear hz hbv hin
          cases bv
          · have NP := Lib.hid (show PmK (m : Int) z (k + 1) from PK.out.snoc (by rw [Z.out]; omega) fun j hj e => by
              have := (FD.out y hy).2 ⟨j, hj, by rw [← Z.out]; exact e⟩
              rw [BV.out] at this
              cases this)
            have NF := Lib.hid (show ∀ x, x < m → ((d.set y true).getD x false = true ↔ ∃ j, j < k + 1 ∧ z.getD j 0 = (x : Int)) from fun x hx => by
              rw [getD_setB (by rw [DL.out]; exact hx)]
              by_cases e : y = x
              · subst e
                rw [if_pos rfl]
                exact ⟨fun _ => ⟨k, by omega, Z.out⟩, fun _ => rfl⟩
              · rw [if_neg e, FD.out x hx]
                constructor
                · rintro ⟨j, hj, hj2⟩; exact ⟨j, by omega, hj2⟩
                · rintro ⟨j, hj, hj2⟩
                  by_cases e2 : j = k
                  · rw [e2, Z.out] at hj2; omega
                  · exact ⟨j, by omega, hj2⟩)
            go_wp2
            go_roundw
            case rel => exact ⟨k + 1, _, by omega, by go_num, BK.out.set_ _ _, by rw [List.length_set]; exact DL.out, NP.out, NF.out, DB.out.setCell (Nat.le_refl _) _⟩
            case measure => simp [intOf]; omega
          · have NO := Lib.hid (show decide (Rp.Pm (m : Int) z) = false from by
              rw [decide_eq_false_iff_not]
              intro hp
              obtain ⟨j, hj, e⟩ := (FD.out y hy).1 BV.out
              exact (hp.2 k (by rw [hl.out]; exact hlt)).2 j hj (e.trans Z.out.symm))
            go_wp2
            go_ret
            exact ⟨ret_b NO.out, DB.out⟩
        · have NO := Lib.hid (show decide (Rp.Pm (m : Int) z) = false from by
            rw [decide_eq_false_iff_not]
            intro hp
            have := (hp.2 k (by rw [hl.out]; exact hlt)).1
            rw [Z.out] at this
            exact hin this)
          clear hz
          by_cases h0 : v < 0
          · clear hin
            go_wp2
            go_ret
            exact ⟨ret_b NO.out, DB.out⟩
          · have h4 : (m : Int) ≤ v := by omega
            clear hin
            go_wp2
            go_ret
            exact ⟨ret_b NO.out, DB.out⟩
      · have hkm : k = m := by omega
        have i1 : ¬ (k : Int) < (m : Int) := by omega
        have YES := Lib.hid (show decide (Rp.Pm (m : Int) z) = true from by
          rw [decide_eq_true_iff]
          exact ⟨by rw [hl.out], by rw [hl.out, ← hkm]; exact hkm ▸ PK.out⟩)
        clear hkm
        go_wp2
        go_ret
        exact ⟨ret_b YES.out, DB.out⟩

set_option maxHeartbeats 1000000 in
theorem isDegree_impl (n : Int) (w : World) : Calls Try.prog 84 #[.int .i64 n] w fun e w' => e = .returned (.bool (decide (1 ≤ n ∧ n ≤ 4))) ∧ w = w' := by
  by_cases h1 : 1 ≤ n
  · by_cases h2 : n ≤ 4
    · rw [show decide (1 ≤ n ∧ n ≤ 4) = true from by simp [h1, h2]]
      go_enter Try.func84, Try.ntmps84
      go_wp2
      go_ret
      exact ⟨rfl, rfl⟩
    · rw [show decide (1 ≤ n ∧ n ≤ 4) = false from by simp [h2]]
      go_enter Try.func84, Try.ntmps84
      go_wp2
      go_ret
      exact ⟨rfl, rfl⟩
  · rw [show decide (1 ≤ n ∧ n ≤ 4) = false from by simp [h1]]
    go_enter Try.func84, Try.ntmps84
    go_wp2
    go_ret
    exact ⟨rfl, rfl⟩

set_option maxHeartbeats 2000000 in
theorem perms_impl (n : Int) (A : Option Addr) (c : Nat) (rs : List Rw) (w : World) (h : RdS w w.heap.size A rs) (hl : rs.length ≤ 1048576) (hrow : ∀ q ∈ rs, q.zs.length ≤ 1048576) :
    Calls Try.prog 56 #[.int .i64 n, .slice A rs.length c] w fun e w' => e = .returned (.bool (Rp.arePm n (vals rs))) ∧ Below w.heap.size w w' := by
  have H := Lib.hid h
  have ROW := Lib.hid hrow
  obtain ⟨m, hm⟩ : ∃ m, rs.length = m := ⟨_, rfl⟩
  have HM := Lib.hid hm
  rw [hm] at hl ⊢
  clear h hrow hm
  by_cases hd : 1 ≤ n ∧ n ≤ 4
  case neg =>
    have NO := Lib.hid (show Rp.arePm n (vals rs) = false from by
      rw [Bool.eq_false_iff]
      exact fun h1 => hd (arePm_vals.1 h1).1)
    have ID := Lib.hid (isDegree_impl n w)
    rw [show decide (1 ≤ n ∧ n ≤ 4) = false from by simpa using hd] at ID
    clear hd
    go_enter Try.func56, Try.ntmps56
    go_wp2_with fail
    refine ID.out.mono ?_
    rintro e w1 ⟨rfl, rfl⟩
    go_wp2
    go_ret
    exact ⟨ret_b NO.out, Below.refl _ _⟩
  · have HD := Lib.hid hd
    have ID := Lib.hid (isDegree_impl n w)
    rw [show decide (1 ≤ n ∧ n ≤ 4) = true from by simpa using hd] at ID
    obtain ⟨N, rfl⟩ : ∃ N : Nat, n = N := ⟨n.toNat, by omega⟩
    have hN : N ≤ 4 := by omega
    clear hd
    go_enter Try.func56, Try.ntmps56
    go_wp2_with fail
    refine ID.out.mono ?_
    rintro e w1 ⟨rfl, rfl⟩
    go_wp2
    go_loopw [12] (fun i W => ∃ k : Nat, k ≤ m ∧ i = .int .i64 k ∧ (∀ j, j < k → Rp.Pm (N : Int) (rs.getD j nilRw).zs) ∧ Below w.heap.size w W) (fun i _ => m - (intOf i).toNat)
    case atStart => exact ⟨0, Nat.zero_le _, rfl, fun i hi => by omega, Below.refl _ _⟩
    case round =>
      obtain ⟨k, hk, rfl, hR, hbel⟩ := hrel
      have RR := Lib.hid hR
      have DB := Lib.hid hbel
      have zD : w.heap.size ≤ wr.heap.size := hbel.size
      clear hR hbel
      by_cases hlt : k < m
      · obtain ⟨b, off, Ak, ck, zk, rfl, hb, hrk, hck, hkc, hkm, hki⟩ := (H.out.below DB.out).at_ (j := k) (by rw [HM.out]; exact hlt)
        have ZK := Lib.hid hrk
        have i1 : (k : Int) < (m : Int) := by omega
        have hzl : zk.length ≤ 1048576 := by
          have := ROW.out _ (getD_mem (rs := rs) (j := k) (by rw [HM.out]; exact hlt))
          rw [hrk] at this
          exact this
        have PS := Lib.hid (perm_impl N Ak zk.length ck zk wr (hki.more zD) hzl hN)
        clear hrk hkc hkm hki
        by_cases hp : Rp.Pm (N : Int) zk
        · have NX := Lib.hid (show ∀ j, j < k + 1 → Rp.Pm (N : Int) (rs.getD j nilRw).zs from fun j hj => by
            by_cases e : j = k
            · rw [e, ZK.out]; exact hp
            · exact RR.out j (by omega))
          rw [show decide (Rp.Pm (N : Int) zk) = true from by simpa using hp] at PS
          clear hp
          go_wp2_with fail
          refine PS.out.mono ?_
          rintro e w1 ⟨rfl, hb1⟩
          have D1 := Lib.hid (DB.out.trans (hb1.mono zD))
          clear hb1
          go_wp2
          go_roundw
          case rel => exact ⟨k + 1, by omega, by go_num, NX.out, D1.out⟩
          case measure => simp [intOf]; omega
        · have NO := Lib.hid (show Rp.arePm (N : Int) (vals rs) = false from by
            rw [Bool.eq_false_iff]
            intro h1
            have := (arePm_vals.1 h1).2 k (by rw [HM.out]; exact hlt)
            rw [ZK.out] at this
            exact hp this)
          rw [show decide (Rp.Pm (N : Int) zk) = false from by simpa using hp] at PS
          clear hp
          go_wp2_with fail
          refine PS.out.mono ?_
          rintro e w1 ⟨rfl, hb1⟩
          have D1 := Lib.hid (DB.out.trans (hb1.mono zD))
          clear hb1
          go_wp2
          go_ret
          exact ⟨ret_b NO.out, D1.out⟩
      · have hkm : k = m := by omega
        have i1 : ¬ (k : Int) < (m : Int) := by omega
        have YES := Lib.hid (show Rp.arePm (N : Int) (vals rs) = true from arePm_vals.2 ⟨HD.out, by rw [HM.out, ← hkm]; exact RR.out⟩)
        clear hkm
        go_wp2
        go_ret
        exact ⟨ret_b YES.out, DB.out⟩

end Go.Proofs.Ytakokhfnllpahaa
