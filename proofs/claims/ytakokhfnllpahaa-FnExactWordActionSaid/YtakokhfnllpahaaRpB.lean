/- Permutations, the specification's side. No condition but those that each theorem names. -/
import Derived.Test.YtakokhfnllpahaaRpA
import Derived.Test.YtakokhfnllpahaaSsC
import Derived.Test.YtakokhfnllpahaaWdJ
import Derived.Deep.RegionHeld3
namespace Go.Proofs.Ytakokhfnllpahaa
open Go.RowKit

set_option maxHeartbeats 1000000 in
theorem has_spec (A : Option Addr) (n c : Nat) (zs : List Int) (x : Int) (B : Nat) (w : World) (h : Ints w B A n zs) (hn : n ≤ 1048576) :
    Calls Try.prog 98 #[.slice A n c, .int .i64 x] w fun e w' => e = .returned (.bool (decide (x ∈ zs))) ∧ w = w' := by
  have hl := Lib.hid h.1
  have H := Lib.hid h
  clear h
  by_cases hx : x ∈ zs
  · have HX := Lib.hid (Rp.at_lt hx)
    have VX := Lib.hid (Rp.at_val hx)
    have NX := Lib.hid (fun j (hj : j < Rp.at_ zs x) => Rp.at_no hj)
    rw [show decide (x ∈ zs) = true from by simpa using hx]
    obtain ⟨p, hp⟩ : ∃ p, Rp.at_ zs x = p := ⟨_, rfl⟩
    rw [hp] at HX VX NX
    clear hp hx
    go_enter Try.func98, Try.ntmps98
    go_wp2
    go_loop [5] (fun i => ∃ k : Nat, k ≤ p ∧ i = .int .i64 k) (fun i => n - (intOf i).toNat)
    case atStart => exact ⟨0, Nat.zero_le _, rfl⟩
    case round =>
      obtain ⟨k, hk, rfl⟩ := hrel
      have hlt : k < n := by have := HX.out; have := hl.out; omega
      obtain ⟨b, off, z, rfl, hb, hz, hc⟩ := H.out.at_z hlt
      by_cases e : k = p
      · have t0 : (z == x) = true := by
          rw [← hz, e, VX.out]; simp
        clear e hz
        go_wp2
        go_ret
        exact ⟨rfl, rfl⟩
      · have t0 : (z == x) = false := by
          rw [← hz]; simpa using NX.out k (by omega)
        clear hz
        go_wp2
        go_round
        case rel => exact ⟨k + 1, by omega, by go_num⟩
        case measure => simp [intOf]; omega
  · rw [show decide (x ∈ zs) = false from by simpa using hx]
    have NX := Lib.hid (show ∀ k, k < n → zs.getD k 0 ≠ x from fun k hk e => hx (by rw [← e, List.getD_eq_getElem?_getD, List.getElem?_eq_getElem (by rw [hl.out]; exact hk)]; exact List.getElem_mem _))
    clear hx
    go_enter Try.func98, Try.ntmps98
    go_wp2
    go_loop [5] (fun i => ∃ k : Nat, k ≤ n ∧ i = .int .i64 k) (fun i => n - (intOf i).toNat)
    case atStart => exact ⟨0, Nat.zero_le _, rfl⟩
    case round =>
      obtain ⟨k, hk, rfl⟩ := hrel
      by_cases hlt : k < n
      · obtain ⟨b, off, z, rfl, hb, hz, hc⟩ := H.out.at_z hlt
        have t0 : (z == x) = false := by
          rw [← hz]; simpa using NX.out k hlt
        clear hz
        go_wp2
        go_round
        case rel => exact ⟨k + 1, by omega, by go_num⟩
        case measure => simp [intOf]; omega
      · obtain rfl : k = n := by omega
        go_wp2
        go_ret
        exact ⟨rfl, rfl⟩

/-- The places up to k are those of a permutation. -/
def PmK (n : Int) (z : List Int) (k : Nat) : Prop := ∀ i, i < k → (0 ≤ z.getD i 0 ∧ z.getD i 0 < n) ∧ ∀ j, j < i → z.getD j 0 ≠ z.getD i 0
theorem PmK.snoc {n : Int} {z : List Int} {k : Nat} (h : PmK n z k) (h1 : 0 ≤ z.getD k 0 ∧ z.getD k 0 < n) (h2 : ∀ j, j < k → z.getD j 0 ≠ z.getD k 0) : PmK n z (k + 1) := fun i hi => by
  by_cases e : i = k
  · subst e; exact ⟨h1, h2⟩
  · exact h i (by omega)
theorem mem_take_iff {z : List Int} {k : Nat} (hk : k ≤ z.length) (x : Int) : x ∈ Lau.cut z 0 k ↔ ∃ j, j < k ∧ z.getD j 0 = x := by
  unfold Lau.cut
  rw [List.drop_zero]
  constructor
  · intro h
    obtain ⟨j, hj, e⟩ := List.mem_iff_getElem.1 h
    have hj2 : j < k := by simp at hj; omega
    refine ⟨j, hj2, ?_⟩
    rw [List.getD_eq_getElem?_getD, List.getElem?_eq_getElem (by omega)]
    rw [List.getElem_take] at e
    simpa using e
  · rintro ⟨j, hj, rfl⟩
    rw [List.getD_eq_getElem?_getD, List.getElem?_eq_getElem (by omega)]
    exact List.mem_iff_getElem.2 ⟨j, by simp; omega, by simp⟩

set_option maxHeartbeats 2000000 in
theorem perm_spec (A : Option Addr) (m c : Nat) (z : List Int) (n : Int) (B : Nat) (w : World) (h : Ints w B A m z) (hc : m ≤ c) (hm : c ≤ maxLen) (hmn : m ≤ 1048576) (hn : -9223372036854775808 ≤ n ∧ n ≤ 9223372036854775807) :
    Calls Try.prog 91 #[.slice A m c, .int .i64 n] w fun e w' => e = .returned (.bool (decide (Rp.Pm n z))) ∧ ∃ k, w' = w.drewN k := by
  have hl := Lib.hid h.1
  have H := Lib.hid h
  unfold maxLen at hm
  clear h
  obtain ⟨n1, hn1⟩ : ∃ n1, IntKind.i64.wrap (n - 1) = n1 := ⟨_, rfl⟩
  have HN1 := Lib.hid hn1
  go_enter Try.func91, Try.ntmps91
  go_wp2
  go_loopw [5] (fun i V => ∃ k : Nat, k ≤ m ∧ i = .int .i64 k ∧ ((n = -9223372036854775808 ∨ PmK n z k) ∧ ∃ q, V = w.drewN q)) (fun i _ => m - (intOf i).toNat)
  case atStart => exact ⟨0, Nat.zero_le _, rfl, .inr (fun i hi => by omega), 0, rfl⟩
  case round =>
    obtain ⟨k, hk, rfl, hR, hV⟩ := hrel
    have V := Lib.hid hV
    have HW := Lib.hid (show ∀ x, Ints (wr.drewN x) B A m z from fun x => by obtain ⟨q, rfl⟩ := hV; exact (H.out.drewN q).drewN x)
    clear hV
    have RR := Lib.hid hR
    have i0 : (0 : Int) ≤ (k : Int) := by omega
    clear hR
    by_cases hlt : k < m
    · obtain ⟨b, off, zk, rfl, hb, hz, hck⟩ := (HW.out 0).at_z hlt
      have hcw : wr.cell? ⟨b, off + k, none⟩ = some (.int .i64 zk) := hck
      clear hck
      have Z := Lib.hid hz
      have i1 : (k : Int) < (m : Int) := by omega
      have i2 : (k : Int) ≤ (c : Int) := by omega
      have LK := Lib.hid (show k ≤ z.length from by rw [hl.out]; omega)
      by_cases hin : 0 ≤ zk ∧ zk ≤ n1
      · have HIN := Lib.hid hin
        have PI := Lib.hid (fun (x : Nat) => Wd.ints_part (HW.out x) (i := 0) (j := k) (Nat.zero_le _) (by omega))
        rw [Nat.add_zero, Nat.sub_zero] at PI
        by_cases hhas : zk ∈ Lau.cut z 0 k
        · have NP := Lib.hid (show decide (Rp.Pm n z) = false from by
            rw [decide_eq_false_iff_not]
            intro hp
            obtain ⟨j, hj, e⟩ := (mem_take_iff LK.out zk).1 hhas
            exact (hp.2 k (by rw [hl.out]; exact hlt)).2 j hj (e.trans Z.out.symm))
          have HS := Lib.hid (fun (x : Nat) => has_spec (some ⟨b, off, none⟩) k c (Lau.cut z 0 k) zk B (wr.drewN x) (PI.out x) (by omega))
          rw [show decide (zk ∈ Lau.cut z 0 k) = true from by simpa using hhas] at HS
          clear hhas hin hz
          go_wp2
          go_quiet (first
            | (go_at_call 59; exact Calls.quiet_of_same ((in_yes _ _ _ _ HIN.out.1 HIN.out.2).mono fun _ _ h => ⟨h.1, h.2.symm⟩))
            | (go_at_call 98; exact Calls.quiet_of_same ((HS.out _).mono fun _ _ h => ⟨h.1, h.2.symm⟩)))
          all_goals
            go_wp2
            go_ret
            exact ⟨ret_b NP.out, drewN_more V.out _⟩
        · have NX := Lib.hid (show n = -9223372036854775808 ∨ PmK n z (k + 1) from by
            rcases RR.out with h1 | h1
            · exact .inl h1
            · by_cases e : n = -9223372036854775808
              · exact .inl e
              · refine .inr (h1.snoc ?_ fun j hj e2 => hhas ((mem_take_iff LK.out zk).2 ⟨j, hj, e2.trans Z.out⟩))
                have : n1 = n - 1 := by rw [← HN1.out]; exact IntWalk.i64_in _ (by omega)
                rw [Z.out]; omega)
          have HS := Lib.hid (fun (x : Nat) => has_spec (some ⟨b, off, none⟩) k c (Lau.cut z 0 k) zk B (wr.drewN x) (PI.out x) (by omega))
          rw [show decide (zk ∈ Lau.cut z 0 k) = false from by simpa using hhas] at HS
          clear hhas hin hz
          go_wp2
          go_quiet (first
            | (go_at_call 59; exact Calls.quiet_of_same ((in_yes _ _ _ _ HIN.out.1 HIN.out.2).mono fun _ _ h => ⟨h.1, h.2.symm⟩))
            | (go_at_call 98; exact Calls.quiet_of_same ((HS.out _).mono fun _ _ h => ⟨h.1, h.2.symm⟩)))
          all_goals
            go_wp2
            go_roundw
            case rel => exact ⟨k + 1, by omega, by go_num, NX.out, drewN_more V.out _⟩
            case measure => simp [intOf]; omega
      · have HIN := Lib.hid hin
        have NP := Lib.hid (show decide (Rp.Pm n z) = false from by
          rw [decide_eq_false_iff_not]
          intro hp
          have h2 := (hp.2 k (by rw [hl.out]; exact hlt)).1
          rw [Z.out] at h2
          have : n1 = n - 1 := by rw [← HN1.out]; exact IntWalk.i64_in _ (by omega)
          omega)
        clear hin hz
        go_wp2
        go_quiet ((go_at_call 59; exact Calls.quiet_of_same ((in_no _ _ _ _ HIN.out).mono fun _ _ h => ⟨h.1, h.2.symm⟩)))
        all_goals
          go_wp2
          go_ret
          exact ⟨ret_b NP.out, drewN_more V.out _⟩
    · obtain rfl : k = m := by omega
      have i1 : ¬ (k : Int) < (k : Int) := by omega
      by_cases hkn : (k : Int) = n
      · have NP := Lib.hid (show decide (Rp.Pm n z) = true from by
          rw [decide_eq_true_iff]
          refine ⟨by rw [hl.out]; exact hkn, ?_⟩
          rcases RR.out with h1 | h1
          · omega
          · rw [hl.out]; exact h1)
        have t0 : ((k : Int) == n) = true := by simpa using hkn
        clear hkn
        go_wp2
        go_ret
        exact ⟨ret_b NP.out, V.out⟩
      · have NP := Lib.hid (show decide (Rp.Pm n z) = false from by
          rw [decide_eq_false_iff_not]
          intro hp
          have := hp.1
          rw [hl.out] at this
          exact hkn this)
        have t0 : ((k : Int) == n) = false := by simpa using hkn
        clear hkn
        go_wp2
        go_ret
        exact ⟨ret_b NP.out, V.out⟩

end Go.Proofs.Ytakokhfnllpahaa
