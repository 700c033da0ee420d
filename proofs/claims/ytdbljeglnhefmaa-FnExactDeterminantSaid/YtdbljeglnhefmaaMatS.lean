/- The program's elimination: its contract. No condition but those that each theorem names. -/
import Derived.Test.YtdbljeglnhefmaaMatR
import Derived.Deep.LoopGhost
namespace Go.Proofs.Ytdbljeglnhefmaa
open Go.RowKit

theorem Kept.undrewN {lo hi : Nat} {a b : World} {n : Nat} (h : Kept lo hi (a.drewN n) b) : Kept lo hi a b := ⟨h.os, h.tape, h.output, h.size, h.block⟩

set_option maxHeartbeats 4000000 in
theorem elim_impl (N : Nat) (A : Option Addr) (n c lo hi : Nat) (l0 : List Int) (w : World) (h : Own w lo hi A n c l0) (hhi : hi ≤ w.heap.size) (hn : n = N * N) (hN : N ≤ 48) :
    Calls Try.prog 68 #[.agg #[.int .i64 N, .int .i64 N, .slice A n c]] w fun e w' => e = .returned (.int .i64 (detv N l0)) ∧ Kept lo hi w w' := by
  have p1 := rc_le hN hN
  have HN := Lib.hid hn
  have H := Lib.hid (h.al hhi (al1 w (Obj.cells #[.int .i64 N, .int .i64 N, .slice A n c] 27)))
  have K0 := Lib.hid (Box3.new w 27 (.int .i64 N) (.int .i64 N) (.slice A n c))
  have HB0 := Lib.hid (Kept.of_below (al1 w (Obj.cells #[.int .i64 N, .int .i64 N, .slice A n c] 27)) lo hi)
  clear h hn
  go_enter Try.func68, Try.ntmps68
  go_wp2
  obtain ⟨W0, hW0⟩ : ∃ W0, W0 = (w.alloc (Obj.cells #[.int .i64 N, .int .i64 N, .slice A n c] 27)) := ⟨_, rfl⟩
  have s0 : w.heap.size < W0.heap.size := by rw [hW0]; simp
  rw [← hW0] at K0 HB0 H
  rw [← hW0]
  clear hW0
  obtain ⟨k0, k1, k2⟩ := K0.out
  go_step3
  go_wp2
  go_step3
  go_wp2
  clear k0 k1 k2
  go_loopg [9, 3, 4] N (fun g x sg pv wr => ∃ (k : Nat) (s p : Int) (l : List Int), k + g = N ∧ x = .int .i64 k ∧ sg = .int .i64 s ∧ pv = .int .i64 p ∧ st N l0 k = some (s, p, l) ∧ ¬ p = 0 ∧ l.length = N * N ∧ Own wr lo hi A n c l ∧ Kept lo hi W0 wr)
  case atStart => exact ⟨0, 1, 1, l0, by omega, rfl, rfl, rfl, rfl, by omega, by rw [H.out.len, HN.out], H.out, Kept.refl _ _ _⟩
  case round =>
    obtain ⟨k, s, p, l, hk, rfl, rfl, rfl, hst, hp, hlen, hown, hkept⟩ := hrel
    have HO := Lib.hid hown
    have HK := Lib.hid hkept
    have HST := Lib.hid hst
    have HLEN := Lib.hid hlen
    have sz : W0.heap.size ≤ wr.heap.size := hkept.size
    have hsg := st_sign hst
    have hs0 : -1 ≤ s := by omega
    have hs1 : s ≤ 1 := by omega
    clear hown hkept hst hsg hlen
    obtain ⟨wo, rfl⟩ : ∃ wo : World, wo = wr := ⟨_, rfl⟩
    obtain ⟨go, rfl⟩ : ∃ go : Nat, go = gk := ⟨_, rfl⟩
    have HGK := Lib.hid hk
    have hkN : k ≤ N := by omega
    clear hk
    by_cases hlt : k < N
    · go_wp2
      go_loopg [6, 4] (N - k) (fun g y pv wr => ∃ q : Nat, k ≤ q ∧ q < N ∧ q + g = N ∧ y = .int .i64 q ∧ pv = .int .i64 p ∧ piv N l k (N - q) = piv N l k (N - k) ∧ Below wo.heap.size wo wr)
      case atStart => exact ⟨k, Nat.le_refl _, hlt, by omega, rfl, rfl, rfl, Below.refl _ _⟩
      case round =>
        obtain ⟨q, hkq, hqN, hqg, rfl, rfl, hpiv, hbel⟩ := hrel
        have HV := Lib.hid hbel
        have HPV := Lib.hid hpiv
        have HQG := Lib.hid hqg
        have sv : wo.heap.size ≤ wr.heap.size := hbel.size
        clear hbel hpiv hqg
        have X1 := Lib.hid ((K0.out.kept HK.out (by omega) (by omega)).below HV.out (by omega))
        have O1 := Lib.hid (HO.out.below HV.out (by omega))
        obtain ⟨k0, k1, k2⟩ := X1.out
        have sqk := ij_lt hqN hlt
        have a0 : 0 ≤ (q : Int) * (N : Int) := by rw [castM]; omega
        have a1 : (q : Int) * (N : Int) ≤ 2304 := by rw [castM]; omega
        obtain ⟨z, hz⟩ : ∃ z, l.getD (q * N + k) 0 = z := ⟨_, rfl⟩
        have AZ := Lib.hid (at_impl N N A n c l wr (O1.out.ints.more (by omega)) (by have := HN.out; omega) q k _ a0 a1 (castI q N k) (by rw [HN.out]; exact sqk))
        rw [hz] at AZ
        have HZ := Lib.hid hz
        clear hz
        by_cases hz0 : z = 0
        · have t1 : (z == 0) = true := by simpa using hz0
          have nx := Lib.hid (piv_next hqN (by rw [HZ.out]; exact hz0))
          have HZ0 := Lib.hid hz0
          clear hz0
          by_cases hq1 : q + 1 = N
          · have t2 : ((q : Int) + 1 == (N : Int)) = true := by simp; omega
            have hnone : st N l0 (k + 1) = none := by
              have e1 := nx.out
              rw [HPV.out, show N - (q + 1) = 0 by omega, piv] at e1
              rw [st, HST.out]
              simp only
              rw [e1]
            have HD := Lib.hid (detv_none (by omega : k + 1 ≤ N) hnone)
            have HQ1 := Lib.hid hq1
            clear hnone hq1
            go_wp2_with fail
            refine AZ.out.mono ?_
            rintro e w6 ⟨rfl, hb6⟩
            have B6 := Lib.hid hb6
            obtain ⟨e0, e1, e2⟩ := X1.out.below hb6 (by omega)
            clear hb6 k0 k1 k2
            go_wp2
            try rw [Exit.noGoto_ret]
            go_ret
            exact ⟨by rw [HD.out]; simp, (HB0.out.trans HK.out).trans (Kept.of_below (HV.out.trans (B6.out.mono sv)) _ _)⟩
          · have t2 : ((q : Int) + 1 == (N : Int)) = false := by simp; omega
            have HQ1 := Lib.hid hq1
            clear hq1
            go_wp2_with fail
            refine AZ.out.mono ?_
            rintro e w6 ⟨rfl, hb6⟩
            have B6 := Lib.hid hb6
            obtain ⟨e0, e1, e2⟩ := X1.out.below hb6 (by omega)
            clear hb6 k0 k1 k2
            go_wp2
            go_roundg (N - (q + 1))
            case measure => have := HQG.out; omega
            case rel => exact ⟨q + 1, by omega, by have := HQ1.out; omega, by have := HQ1.out; omega, by go_num, rfl, by rw [← HPV.out]; exact nx.out.symm, HV.out.trans (B6.out.mono sv)⟩
        · have t1 : (z == 0) = false := by simpa using hz0
          have hpq : piv N l k (N - k) = some q := by rw [← HPV.out]; exact piv_here hqN (by rw [HZ.out]; exact hz0)
          have HPQ := Lib.hid hpq
          have HZ0 := Lib.hid hz0
          have skk := ij_lt hlt hlt
          have b0 : 0 ≤ (k : Int) * (N : Int) := by rw [castM]; omega
          have b1 : (k : Int) * (N : Int) ≤ 2304 := by rw [castM]; omega
          clear hz0 hpq
          by_cases hq : q = k
          · have u1 : ((q : Int) != (k : Int)) = false := by simp; omega
            have HQ := Lib.hid hq
            have hst2 : st N l0 (k + 1) = some (s, (redAll N k p l (N - (k + 1))).getD (k * N + k) 0, redAll N k p l (N - (k + 1))) := by
              rw [st, HST.out]
              simp only
              rw [HPQ.out]
              simp only
              rw [if_pos HQ.out]
            have hpk : (redAll N k p l (N - (k + 1))).getD (k * N + k) 0 = z := by rw [redAll_kk p l hlt]; have := HZ.out; rw [HQ.out] at this; exact this
            obtain ⟨l2, hl2⟩ : ∃ l2, redAll N k p l (N - (k + 1)) = l2 := ⟨_, rfl⟩
            rw [hl2] at hst2 hpk
            rw [hpk] at hst2
            have hl2len : l2.length = N * N := by rw [← hl2, redAll_len]; exact HLEN.out
            have HS2 := Lib.hid hst2
            have HPK := Lib.hid hpk
            have HL2 := Lib.hid hl2
            have HLL2 := Lib.hid hl2len
            clear hst2 hpk hl2 hl2len hq
            go_wp2_with fail
            refine AZ.out.mono ?_
            rintro e w6 ⟨rfl, hb6⟩
            have B6 := Lib.hid hb6
            have z6 := hb6.size
            have X6 := Lib.hid (X1.out.below hb6 (by omega))
            have O6 := Lib.hid (O1.out.below hb6 (by omega))
            clear hb6 k0 k1 k2
            obtain ⟨e0, e1, e2⟩ := X6.out
            go_wp2_with fail
            refine (reduce_impl N k p A n c lo hi l _ O6.out (by omega) HN.out hN hlt hp).mono ?_
            rintro e w8 ⟨rfl, hown8, hkept8⟩
            rw [HL2.out] at hown8
            have O8 := Lib.hid hown8
            have K8 := Lib.hid hkept8
            have z8 := hkept8.size
            clear e0 e1 e2 hown8 hkept8
            have X8 := Lib.hid (X6.out.kept K8.out (by omega) (by omega))
            obtain ⟨e0, e1, e2⟩ := X8.out
            go_wp2_with fail
            refine (at_impl N N A n c l2 _ (O8.out.ints.more (by omega)) (by have := HN.out; omega) k k _ b0 b1 (castI k N k) (by rw [HN.out]; exact skk)).mono ?_
            rw [HPK.out]
            rintro e w9 ⟨rfl, hb9⟩
            have B9 := Lib.hid hb9
            have z9 := hb9.size
            clear e0 e1 e2 hb9
            go_wp2
            go_roundg (N - (k + 1))
            case measure => have := HGK.out; omega
            case rel => exact ⟨k + 1, s, z, l2, by omega, by go_num, by first | rfl | go_num, rfl, HS2.out, HZ0.out, HLL2.out, O8.out.below B9.out (by omega), (((HK.out.trans (Kept.of_below (HV.out.trans (B6.out.mono sv)) _ _))).trans K8.out).trans (Kept.of_below B9.out _ _)⟩
          · have u1 : ((q : Int) != (k : Int)) = true := by simp; omega
            have HQ := Lib.hid hq
            have hst2 : st N l0 (k + 1) = some ((-s), (redAll N k p (swp N q k l N) (N - (k + 1))).getD (k * N + k) 0, redAll N k p (swp N q k l N) (N - (k + 1))) := by
              rw [st, HST.out]
              simp only
              rw [HPQ.out]
              simp only
              rw [if_neg HQ.out]
            have hpk : (redAll N k p (swp N q k l N) (N - (k + 1))).getD (k * N + k) 0 = z := by rw [redAll_kk p _ hlt, swp_kk l HQ.out hqN hlt HLEN.out]; exact HZ.out
            obtain ⟨l2, hl2⟩ : ∃ l2, redAll N k p (swp N q k l N) (N - (k + 1)) = l2 := ⟨_, rfl⟩
            rw [hl2] at hst2 hpk
            rw [hpk] at hst2
            have hl2len : l2.length = N * N := by rw [← hl2, redAll_len, swp_len]; exact HLEN.out
            have HS2 := Lib.hid hst2
            have HPK := Lib.hid hpk
            have HL2 := Lib.hid hl2
            have HLL2 := Lib.hid hl2len
            clear hst2 hpk hl2 hl2len hq
            go_wp2_with fail
            refine AZ.out.mono ?_
            rintro e w6 ⟨rfl, hb6⟩
            have B6 := Lib.hid hb6
            have z6 := hb6.size
            have X6 := Lib.hid (X1.out.below hb6 (by omega))
            have O6 := Lib.hid (O1.out.below hb6 (by omega))
            clear hb6 k0 k1 k2
            obtain ⟨e0, e1, e2⟩ := X6.out
            go_wp2_with fail
            refine (swap_impl N q k A n c lo hi l _ O6.out (by omega) HN.out hN hqN hlt).mono ?_
            rintro e w7 ⟨rfl, hown7, hkept7⟩
            have O7 := Lib.hid hown7
            have K7 := Lib.hid hkept7
            have z7 := hkept7.size
            clear e0 e1 e2 hown7 hkept7
            have X7 := Lib.hid (X6.out.kept K7.out (by omega) (by omega))
            obtain ⟨e0, e1, e2⟩ := X7.out
            go_wp2_with fail
            refine (reduce_impl N k p A n c lo hi (swp N q k l N) _ O7.out (by omega) HN.out hN hlt hp).mono ?_
            rintro e w8 ⟨rfl, hown8, hkept8⟩
            rw [HL2.out] at hown8
            have O8 := Lib.hid hown8
            have K8 := Lib.hid hkept8
            have z8 := hkept8.size
            clear e0 e1 e2 hown8 hkept8
            have X8 := Lib.hid (X7.out.kept K8.out (by omega) (by omega))
            obtain ⟨e0, e1, e2⟩ := X8.out
            go_wp2_with fail
            refine (at_impl N N A n c l2 _ (O8.out.ints.more (by omega)) (by have := HN.out; omega) k k _ b0 b1 (castI k N k) (by rw [HN.out]; exact skk)).mono ?_
            rw [HPK.out]
            rintro e w9 ⟨rfl, hb9⟩
            have B9 := Lib.hid hb9
            have z9 := hb9.size
            clear e0 e1 e2 hb9
            go_wp2
            go_roundg (N - (k + 1))
            case measure => have := HGK.out; omega
            case rel => exact ⟨k + 1, (-s), z, l2, by omega, by go_num, by first | rfl | go_num, rfl, HS2.out, HZ0.out, HLL2.out, O8.out.below B9.out (by omega), (((HK.out.trans (Kept.of_below (HV.out.trans (B6.out.mono sv)) _ _)).trans K7.out).trans K8.out).trans (Kept.of_below B9.out _ _)⟩
    · obtain rfl : k = N := by omega
      have hd : wrap64 (s * p) = detv k l0 := by unfold detv; rw [HST.out]
      have HD := Lib.hid hd
      clear hd
      go_wp2
      try rw [Exit.noGoto_ret]
      go_ret
      exact ⟨by rw [← HD.out]; rfl, HB0.out.trans HK.out⟩

end Go.Proofs.Ytdbljeglnhefmaa
