/- The specification's elimination: its contract. No condition but those that each theorem names. -/
import Derived.Test.YtdbljeglnhefmaaMatS
import Derived.Deep.AppendLies
namespace Go.Proofs.Ytdbljeglnhefmaa
open Go.RowKit

set_option maxRecDepth 100000 in
set_option maxHeartbeats 1000000 in
theorem det_spec_zero (b off c : Nat) (l0 : List Int) (w : World) :
    Calls Try.prog 65 #[.agg #[.int .i64 0, .int .i64 0, .slice (some ⟨b, off, none⟩) 0 c]] w fun e w' => e = .returned (.int .i64 (detv 0 l0)) ∧ Below w.heap.size w w' := by
  have hd : detv 0 l0 = 1 := (IntWalk.wrap64_in (1 * 1) ⟨by omega, by omega⟩).trans rfl
  have HD := Lib.hid hd
  clear hd
  go_enter Try.func65, Try.ntmps65
  go_wp2
  go_loopg [7, 5, 6] 0 (fun g x sg lv wr => x = .int .i64 0 ∧ sg = .int .i64 1 ∧ lv = .int .i64 1 ∧ Below w.heap.size w wr)
  case atStart => exact ⟨rfl, rfl, rfl, (al2 _ _ _).alloc (by simp <;> omega) _⟩
  case round =>
    obtain ⟨rfl, rfl, rfl, hb⟩ := hrel
    have HB := Lib.hid hb
    clear hb
    go_wp2
    go_ret
    exact ⟨by rw [HD.out]; rfl, HB.out⟩

set_option maxRecDepth 100000 in
set_option maxHeartbeats 8000000 in
theorem det_spec_pos (N : Nat) (b off : Nat) (n c : Nat) (l0 : List Int) (w : World) (h : Ints w w.heap.size (some ⟨b, off, none⟩) n l0) (hn : n = N * N) (hN : N ≤ 48) (h0 : 0 < N) :
    Calls Try.prog 65 #[.agg #[.int .i64 N, .int .i64 N, .slice (some ⟨b, off, none⟩) n c]] w fun e w' => e = .returned (.int .i64 (detv N l0)) ∧ Below w.heap.size w w' := by
  have p1 := rc_le hN hN
  have HN := Lib.hid hn
  have H := Lib.hid h
  have n0 : 0 < n := by rw [hn]; exact Nat.mul_pos h0 h0
  have n1 : n ≤ 2304 := by omega
  obtain ⟨i0, hi0, hz0, hz1, hz2⟩ := info_parts info2
  have HI := Lib.hid (And.intro hi0 (And.intro hz0 (And.intro hz1 hz2)))
  have hown : ((w.alloc (Obj.cells #[.int .i64 N, .int .i64 N, .slice (some ⟨b, off, none⟩) n c] 27)).alloc (Obj.cells #[] 2)).ownsRow w.heap.size 2 1 (.slice (some ⟨w.heap.size + 1, 0, none⟩) 0 0) 0 [] := by
    have := World.ownsRow_lit (base := w.heap.size) (e := 2) (size := 1) (w.alloc (Obj.cells #[.int .i64 N, .int .i64 N, .slice (some ⟨b, off, none⟩) n c] 27)) #[] 0 (by simp) (by unfold maxLen; omega) (by simp)
    simpa using this
  have HOW := Lib.hid hown
  have I2 := h.into (al2 w (Obj.cells #[.int .i64 N, .int .i64 N, .slice (some ⟨b, off, none⟩) n c] 27) (Obj.cells #[] 2))
  have hnews : ∀ j u, (l0.map (Value.int .i64))[j]? = some u → ((w.alloc (Obj.cells #[.int .i64 N, .int .i64 N, .slice (some ⟨b, off, none⟩) n c] 27)).alloc (Obj.cells #[] 2)).cell? ((⟨b, off, none⟩ : Addr).add j) = some u := by
    intro j u hu
    have hj : j < n := by
      have := (List.getElem?_eq_some_iff.1 hu).1
      rw [List.length_map, h.1] at this
      exact this
    obtain ⟨b', off', e, _, hc⟩ := I2.at_ hj
    cases e
    rw [show (⟨b, off, none⟩ : Addr).add j = ⟨b, off + j, none⟩ from by unfold Addr.add; split <;> simp_all, hc]
    rw [List.getElem?_map] at hu
    have hl : j < l0.length := by rw [h.1]; exact hj
    rw [List.getElem?_eq_getElem hl] at hu
    simp at hu
    simp [List.getElem?_eq_getElem hl, hu]
  have HNW := Lib.hid hnews
  have hnl : (l0.map (Value.int .i64)).length = n * 1 := by simp [h.1]
  have HNL := Lib.hid hnl
  clear hi0 hz0 hz1 hz2 h hn hown hnews hnl I2
  go_enter Try.func65, Try.ntmps65
  go_wp2_with (at_builtin; refine wpList_append_lies _ rfl _ _ 22 rfl w.heap.size 2 i0 _ 1 8 Try.underlying22 HI.out.1 HI.out.2.1 HI.out.2.2.1 HI.out.2.2.2 rfl (by decide) (.slice (some ⟨w.heap.size + 1, 0, none⟩) 0 0) 0 [] rfl HOW.out ⟨b, off, none⟩ n c (l0.map (Value.int .i64)) rfl HNL.out HNW.out (by simp [Value.oneCell']) n0 (by unfold maxLen; omega) (by omega) (by simp <;> omega) (w.heap.size + 1 + 1) (by simp) ?_; intro g cap w1 hown1 hgrow hat hlt1; have O1 := Lib.hid hown1; have G1 := Lib.hid hgrow; have T1 := Lib.hid hat; have L1 := Lib.hid hlt1; clear hown1 hgrow hat hlt1)
  have hO : Own w1 w.heap.size w1.heap.size (some ⟨g, 0, none⟩) n cap l0 := ⟨by have := O1.out; simpa using this, fun a ha => by cases ha; exact L1.out⟩
  have hg1 : w.heap.size ≤ g := by
    rcases T1.out with h | h
    · have h' : w.heap.size + 1 = g := by simpa [Value.ownBlock] using h
      omega
    · omega
  have hz1 : w.heap.size + 2 ≤ w1.heap.size := by have := G1.out.size; simp at this; omega
  have HB0 := Lib.hid ((((al2 w (Obj.cells #[.int .i64 N, .int .i64 N, .slice (some ⟨b, off, none⟩) n c] 27) (Obj.cells #[] 2)).grown G1.out (by simp <;> omega) (by intro k hk; have hk' : w.heap.size + 1 = k := (by simpa [Value.ownBlock] using hk); omega))).alloc (by omega) (Obj.cells #[.int .i64 N, .int .i64 N, .slice (some ⟨g, 0, none⟩) n cap] 27))
  have K0 := Lib.hid (Box3.new w1 27 (.int .i64 N) (.int .i64 N) (.slice (some ⟨g, 0, none⟩) n cap))
  have H0 := Lib.hid (hO.al (Nat.le_refl _) (al1 w1 (Obj.cells #[.int .i64 N, .int .i64 N, .slice (some ⟨g, 0, none⟩) n cap] 27)))
  obtain ⟨W0, hW0⟩ : ∃ W0, W0 = w1.alloc (Obj.cells #[.int .i64 N, .int .i64 N, .slice (some ⟨g, 0, none⟩) n cap] 27) := ⟨_, rfl⟩
  have s0 : w1.heap.size < W0.heap.size := by rw [hW0]; simp
  rw [← hW0] at K0 HB0 H0
  rw [← hW0]
  clear hW0 hO
  obtain ⟨lo, hlo⟩ : ∃ lo, w.heap.size = lo := ⟨_, rfl⟩
  obtain ⟨hi, hhi⟩ : ∃ hi, w1.heap.size = hi := ⟨_, rfl⟩
  have HLO := Lib.hid hlo
  have hlo2 : lo ≤ w.heap.size := by omega
  have hlo3 : w.heap.size ≤ lo := by omega
  have hhi2 : hi ≤ w1.heap.size := by omega
  have hhi3 : w1.heap.size ≤ hi := by omega
  have H := Lib.hid (H0.out.wide (lo' := lo) (hi' := hi) hlo2 (by omega))
  clear hlo hhi H0
  go_loopg [7, 5, 6] N (fun g' x sg pv wr => ∃ (k : Nat) (s p : Int) (l : List Int), k + g' = N ∧ x = .int .i64 k ∧ sg = .int .i64 s ∧ pv = .int .i64 p ∧ st N l0 k = some (s, p, l) ∧ ¬ p = 0 ∧ l.length = N * N ∧ Own wr lo hi (some ⟨g, 0, none⟩) n cap l ∧ Kept lo hi W0 wr)
  case atStart => exact ⟨0, 1, 1, l0, by omega, rfl, rfl, rfl, rfl, by omega, by rw [H.out.len, HN.out], H.out, Kept.refl _ _ _⟩
  case round =>
    obtain ⟨k, s, p, l, hk, rfl, rfl, rfl, hst, hp, hlen, hown, hkept⟩ := hrel
    have HO := Lib.hid hown
    have HK := Lib.hid hkept
    have HST := Lib.hid hst
    have HLEN := Lib.hid hlen
    have sz : W0.heap.size ≤ wr.heap.size := hkept.size
    have hsg := st_sign hst
    have hs0 : -1 ≤ s := by omega
    have hs1 : s ≤ 1 := by omega
    clear hown hkept hst hsg hlen
    obtain ⟨wo, rfl⟩ : ∃ wo : World, wo = wr := ⟨_, rfl⟩
    obtain ⟨go, rfl⟩ : ∃ go : Nat, go = gk := ⟨_, rfl⟩
    have HGK := Lib.hid hk
    have hkN : k ≤ N := by omega
    clear hk
    by_cases hlt : k < N
    · go_wp2
      go_loopg [8] (N - k) (fun g' y wr => ∃ q : Nat, k ≤ q ∧ q ≤ N ∧ q + g' = N ∧ y = .int .i64 q ∧ piv N l k (N - q) = piv N l k (N - k) ∧ Below wo.heap.size wo wr)
      case atStart => exact ⟨k, Nat.le_refl _, hkN, by omega, rfl, rfl, Below.refl _ _⟩
      case round =>
        obtain ⟨q, hkq, hqN', hqg, rfl, hpiv, hbel⟩ := hrel
        have HV := Lib.hid hbel
        have HPV := Lib.hid hpiv
        have HQG := Lib.hid hqg
        have sv : wo.heap.size ≤ wr.heap.size := hbel.size
        clear hbel hpiv hqg
        have X1 := Lib.hid ((K0.out.kept HK.out (by omega) (by omega)).below HV.out (by omega))
        have O1' := Lib.hid (HO.out.below HV.out (by omega))
        obtain ⟨k0, k1, k2⟩ := X1.out
        by_cases hqN : q < N
        case neg =>
          have hqe : q = N := by omega
          have hnone : st N l0 (k + 1) = none := by
            have e1 := HPV.out
            rw [hqe, Nat.sub_self, piv] at e1
            rw [st, HST.out]
            simp only
            rw [← e1]
          have HD := Lib.hid (detv_none (by omega : k + 1 ≤ N) hnone)
          have d1 : decide (q < N) = false := by simpa using hqN
          have t2 : ((q : Int) == (N : Int)) = true := by simp; omega
          clear hnone hqe
          go_wp2
          go_ret
          exact ⟨by rw [HD.out]; rfl, (HB0.out.trans (HK.out.below hlo3 (by omega))).trans (HV.out.mono (by omega))⟩
        have d1 : decide (q < N) = true := by simpa using hqN
        have t2 : ((q : Int) == (N : Int)) = false := by simp; omega
        have sqk := ij_lt hqN hlt
        have a0 : 0 ≤ (q : Int) * (N : Int) := by rw [castM]; omega
        have a1 : (q : Int) * (N : Int) ≤ 2304 := by rw [castM]; omega
        obtain ⟨z, hz⟩ : ∃ z, l.getD (q * N + k) 0 = z := ⟨_, rfl⟩
        have AZ := Lib.hid (at_spec N N (some ⟨g, 0, none⟩) n cap l wr (O1'.out.ints.more (by omega)) (by have := HN.out; omega) q k _ a0 a1 (castI q N k) (by rw [HN.out]; exact sqk))
        rw [hz] at AZ
        have HZ := Lib.hid hz
        clear hz
        by_cases hz0 : z = 0
        · have t1 : (z == 0) = true := by simpa using hz0
          have nx := Lib.hid (piv_next hqN (by rw [HZ.out]; exact hz0))
          have HZ0 := Lib.hid hz0
          clear hz0
          go_wp2_with fail
          refine AZ.out.mono ?_
          rintro e w6 ⟨rfl, hb6⟩
          have B6 := Lib.hid hb6
          clear hb6 k0 k1 k2
          go_wp2
          go_roundg (N - (q + 1))
          case measure => have := HQG.out; omega
          case rel => exact ⟨q + 1, by omega, by omega, by omega, by go_num, by rw [← HPV.out]; exact nx.out.symm, HV.out.trans (B6.out.mono sv)⟩
        · have t1 : (z == 0) = false := by simpa using hz0
          have hpq : piv N l k (N - k) = some q := by rw [← HPV.out]; exact piv_here hqN (by rw [HZ.out]; exact hz0)
          have HPQ := Lib.hid hpq
          have HZ0 := Lib.hid hz0
          have skk := ij_lt hlt hlt
          have b0 : 0 ≤ (k : Int) * (N : Int) := by rw [castM]; omega
          have b1 : (k : Int) * (N : Int) ≤ 2304 := by rw [castM]; omega
          clear hz0 hpq
          by_cases hq : q = k
          · have u1 : ((q : Int) != (k : Int)) = false := by simp; omega
            have HQ := Lib.hid hq
            have hst2 : st N l0 (k + 1) = some (s, (redAll N k p l (N - (k + 1))).getD (k * N + k) 0, redAll N k p l (N - (k + 1))) := by
              rw [st, HST.out]
              simp only
              rw [HPQ.out]
              simp only
              rw [if_pos HQ.out]
            have hpk : (redAll N k p l (N - (k + 1))).getD (k * N + k) 0 = z := by rw [redAll_kk p l hlt]; have := HZ.out; rw [HQ.out] at this; exact this
            rw [hpk] at hst2
            have HS2 := Lib.hid hst2
            have HPK := Lib.hid hpk
            clear hst2 hpk hq
            go_wp2_with fail
            refine AZ.out.mono ?_
            rintro e w6 ⟨rfl, hb6⟩
            have B6 := Lib.hid hb6
            have z6 := hb6.size
            have X6 := Lib.hid (X1.out.below hb6 (by omega))
            have O6 := Lib.hid (O1'.out.below hb6 (by omega))
            have Q6 := Lib.hid (HK.out.trans (Kept.of_below (HV.out.trans (B6.out.mono sv)) _ _))
            clear hb6 k0 k1 k2
            obtain ⟨e0, e1, e2⟩ := X6.out
            obtain ⟨wm, rfl⟩ : ∃ wm : World, wm = w6 := ⟨_, rfl⟩
            clear e0 e1 e2 AZ X6
            obtain ⟨lm, hlm⟩ : ∃ lm, l = lm := ⟨_, rfl⟩
            rw [hlm] at HS2 HPK
            rw [hlm] at O6
            have HLM := Lib.hid hlm
            clear hlm
            have sm : W0.heap.size ≤ wm.heap.size := Q6.out.size
            go_wp2
            go_loopw [9] (fun x wr => ∃ r : Nat, r ≤ N - (k + 1) ∧ x = .int .i64 ((k + 1 + r : Nat) : Int) ∧ Own wr lo hi (some ⟨g, 0, none⟩) n cap (redAll N k p lm r) ∧ Kept lo hi W0 wr) (fun x _ => N - (intOf x).toNat)
            case atStart => exact ⟨0, Nat.zero_le _, by simp, O6.out, Q6.out⟩
            case round =>
              obtain ⟨r, hr, rfl, hown, hkept⟩ := hrel
              have RO := Lib.hid hown
              have RK := Lib.hid hkept
              have sr : W0.heap.size ≤ wr.heap.size := hkept.size
              clear hown hkept
              obtain ⟨wp, rfl⟩ : ∃ wp : World, wp = wr := ⟨_, rfl⟩
              obtain ⟨i, hi'⟩ : ∃ i, k + 1 + r = i := ⟨_, rfl⟩
              rw [hi']
              have HII := Lib.hid hi'
              have hki : k < i := by omega
              have hiN : i ≤ N := by omega
              clear hi'
              by_cases hil : i < N
              · obtain ⟨l1, hl1⟩ : ∃ l1, redAll N k p lm r = l1 := ⟨_, rfl⟩
                rw [hl1] at RO
                have HL1 := Lib.hid hl1
                clear hl1
                go_wp2
                go_loopw [10] (fun y wr => ∃ t : Nat, t ≤ N - (k + 1) ∧ y = .int .i64 ((k + 1 + t : Nat) : Int) ∧ Own wr lo hi (some ⟨g, 0, none⟩) n cap (redRow N k p i l1 t) ∧ Kept lo hi W0 wr) (fun y _ => N - (intOf y).toNat)
                case atStart => exact ⟨0, Nat.zero_le _, by simp, RO.out, RK.out⟩
                case round =>
                  obtain ⟨t, ht, rfl, hown, hkept⟩ := hrel
                  have TV := Lib.hid hown
                  have TL := Lib.hid hkept
                  have st' : W0.heap.size ≤ wr.heap.size := hkept.size
                  clear hown hkept
                  obtain ⟨j, hj'⟩ : ∃ j, k + 1 + t = j := ⟨_, rfl⟩
                  rw [hj']
                  have HJ := Lib.hid hj'
                  have hkj : k < j := by omega
                  have hjN : j ≤ N := by omega
                  clear hj'
                  have Y1 := Lib.hid (K0.out.kept TL.out (by omega) (by omega))
                  obtain ⟨k0, k1, k2⟩ := Y1.out
                  by_cases hjl : j < N
                  · have sij := ij_lt hil hjl
                    have sik := ij_lt hil hlt
                    have skj := ij_lt hlt hjl
                    have c0 : 0 ≤ (i : Int) * (N : Int) := by rw [castM]; omega
                    have c1 : (i : Int) * (N : Int) ≤ 2304 := by rw [castM]; omega
                    have q' : redRow N k p i l1 (t + 1) = (redRow N k p i l1 t).set (i * N + j) (stp p ((redRow N k p i l1 t).getD (k * N + k) 0) ((redRow N k p i l1 t).getD (i * N + j) 0) ((redRow N k p i l1 t).getD (i * N + k) 0) ((redRow N k p i l1 t).getD (k * N + j) 0)) := by rw [redRow, HJ.out]
                    obtain ⟨m, hm⟩ : ∃ m, redRow N k p i l1 t = m := ⟨_, rfl⟩
                    rw [hm] at TV q'
                    have AA := fun (i j : Nat) (hs : i * N + j < N * N) (a0 : 0 ≤ (i : Int) * (N : Int)) (a1 : (i : Int) * (N : Int) ≤ 2304) (W : World) (hW : Below wr.heap.size wr W) => at_spec N N (some ⟨g, 0, none⟩) n cap m W ((TV.out.below hW (by omega)).ints.more (by have := hW.size; omega)) (by have := HN.out; omega) i j _ a0 a1 (castI i N j) (by rw [HN.out]; exact hs)
                    have AKK := Lib.hid (AA k k skk b0 b1)
                    have AIJ := Lib.hid (AA i j sij c0 c1)
                    have AIK := Lib.hid (AA i k sik c0 c1)
                    have AKJ := Lib.hid (AA k j skj b0 b1)
                    obtain ⟨u, hu⟩ : ∃ u, m.getD (k * N + k) 0 = u := ⟨_, rfl⟩
                    obtain ⟨v, hv⟩ : ∃ v, m.getD (i * N + j) 0 = v := ⟨_, rfl⟩
                    obtain ⟨x, hx⟩ : ∃ x, m.getD (i * N + k) 0 = x := ⟨_, rfl⟩
                    obtain ⟨y, hy⟩ : ∃ y, m.getD (k * N + j) 0 = y := ⟨_, rfl⟩
                    rw [hu] at AKK q'
                    rw [hv] at AIJ q'
                    rw [hx] at AIK q'
                    rw [hy] at AKJ q'
                    have QQ := Lib.hid q'
                    have e0 : 0 ≤ (i : Int) * (N : Int) + (j : Int) := by omega
                    have e1 : (i : Int) * (N : Int) + (j : Int) < (n : Int) := by rw [castI, HN.out]; omega
                    have ng1 : ¬ g = w1.heap.size := by have := L1.out; omega
                    have ng2 : ¬ w1.heap.size = g := by have := L1.out; omega
                    have gw : g < wr.heap.size := by have := L1.out; omega
                    have hw1 : IntKind.i64.wrap ((i : Int) * (N : Int)) = (i : Int) * (N : Int) := IntWalk.i64_in _ (by omega)
                    have hw2 : IntKind.i64.wrap ((i : Int) * (N : Int) + (j : Int)) = (i : Int) * (N : Int) + (j : Int) := IntWalk.i64_in _ (by rw [HN.out] at e1; omega)
                    clear AA hm hu hv hx hy q'
                    go_wp2_with fail
                    go_region_held3 (fun W => W.cell? ⟨w1.heap.size, 0, none⟩ = some (.int .i64 N) ∧ W.cell? ⟨w1.heap.size, 1, none⟩ = some (.int .i64 N) ∧ W.cell? ⟨w1.heap.size, 2, none⟩ = some (.slice (some ⟨g, 0, none⟩) n cap)) (go_keep)
                      (first
                        | (go_at_call 55; (with_reducible refine (AIJ.out _ (by exact (Below.refl _ _).drew)).mono ?_); rintro e v6 ⟨rfl, hb'⟩; have B6' := Lib.hid (undrew hb'); have y6 := B6'.out.size; obtain ⟨x0, x1, x2⟩ := Y1.out.below B6'.out (by omega); clear hb')
                        | (go_at_call 55; (with_reducible refine (AKK.out _ (by exact B6'.out)).mono ?_); rintro e v7 ⟨rfl, hb'⟩; have B7' := Lib.hid (B6'.out.trans (hb'.mono y6)); have y7 := B7'.out.size; obtain ⟨f0, f1, f2⟩ := Y1.out.below B7'.out (by omega); clear hb')
                        | (go_at_call 55; (with_reducible refine (AIK.out _ (by exact B7'.out)).mono ?_); rintro e v8 ⟨rfl, hb'⟩; have B8' := Lib.hid (B7'.out.trans (hb'.mono y7)); have y8 := B8'.out.size; obtain ⟨g0, g1, g2⟩ := Y1.out.below B8'.out (by omega); clear hb')
                        | (go_at_call 55; (with_reducible refine (AKJ.out _ (by exact B8'.out)).mono ?_); rintro e v9 ⟨rfl, hb'⟩; have B9' := Lib.hid (B8'.out.trans (hb'.mono y8)); have y9 := B9'.out.size; obtain ⟨m0, m1, m2⟩ := Y1.out.below B9'.out (by omega); obtain ⟨g', zz', eg, _, _, _, hcz, hfz⟩ := (TV.out.below B9'.out (by omega)).at_ (k := i * N + j) (by rw [HN.out]; exact sij); cases eg; have hcz' : v9.cell? ⟨g, ((i : Int) * (N : Int) + (j : Int)).toNat, none⟩ = some (.int .i64 zz') := (by rw [castI]; exact hcz); have hfz' : v9.frozen? ⟨g, ((i : Int) * (N : Int) + (j : Int)).toNat, none⟩ = false := (by rw [castI]; exact hfz); clear hb'))
                    have ho : ((i : Int) * (N : Int) + (j : Int)).toNat = i * N + j := by rw [castI]; rfl
                    have hval : IntKind.i64.wrap ((IntKind.i64.wrap (IntKind.i64.wrap (v * u) - IntKind.i64.wrap (x * y))).tdiv p) = stp p u v x y := by rw [Int.mul_comm v u]; rfl
                    rw [ho, hval]
                    have O8 := Lib.hid ((TV.out.below B9'.out (by omega)).set_ (i * N + j) (stp p u v x y))
                    have K8 := Lib.hid (Kept.set_ (p := ⟨g, i * N + j, none⟩) (TL.out.trans (Kept.of_below B9'.out lo hi)) (by dsimp only; omega) (by have := L1.out; dsimp only; omega) (.int .i64 (stp p u v x y)))
                    clear k0 k1 k2 x0 x1 x2 f0 f1 f2 g0 g1 g2 m0 m1 m2 hcz hfz hcz' hfz' ho hval hw1 hw2
                    go_wp2
                    go_roundw
                    case rel => exact ⟨t + 1, by have := HJ.out; omega, by have := HJ.out; go_num, by rw [QQ.out]; exact O8.out, K8.out⟩
                    case measure => simp [intOf]; omega
                  · have ht2 : t = N - (k + 1) := by have := HJ.out; omega
                    have HT2 := Lib.hid ht2
                    clear ht2
                    go_wp2
                    go_roundw
                    case rel => exact ⟨r + 1, by have := HII.out; omega, by have := HII.out; go_num, by rw [redAll, HII.out, HL1.out, ← HT2.out]; exact TV.out, TL.out⟩
                    case measure => simp [intOf]; omega
              · have hr2 : r = N - (k + 1) := by have := HII.out; omega
                rw [hr2] at RO
                clear hr2
                obtain ⟨x0, x1, x2⟩ := K0.out.kept RK.out (by omega) (by omega)
                go_wp2_with fail
                refine (at_spec N N (some ⟨g, 0, none⟩) n cap _ _ (RO.out.ints.more (by omega)) (by have := HN.out; omega) k k _ b0 b1 (castI k N k) (by rw [HN.out]; exact skk)).mono ?_
                rw [HPK.out]
                rintro e v9 ⟨rfl, hb9⟩
                have B9 := Lib.hid hb9
                have z9 := hb9.size
                clear x0 x1 x2 hb9
                go_wp2
                go_roundg (N - (k + 1))
                case measure => have := HGK.out; omega
                case rel => exact ⟨k + 1, s, z, _, by omega, by go_num, by first | rfl | go_num, rfl, HS2.out, HZ0.out, by rw [redAll_len, ← HLM.out]; exact HLEN.out, RO.out.below B9.out (by omega), RK.out.trans (Kept.of_below B9.out _ _)⟩
          · have u1 : ((q : Int) != (k : Int)) = true := by simp; omega
            have HQ := Lib.hid hq
            have hst2 : st N l0 (k + 1) = some ((-s), (redAll N k p (swp N q k l N) (N - (k + 1))).getD (k * N + k) 0, redAll N k p (swp N q k l N) (N - (k + 1))) := by
              rw [st, HST.out]
              simp only
              rw [HPQ.out]
              simp only
              rw [if_neg HQ.out]
            have hpk : (redAll N k p (swp N q k l N) (N - (k + 1))).getD (k * N + k) 0 = z := by rw [redAll_kk p _ hlt, swp_kk l HQ.out hqN hlt HLEN.out]; exact HZ.out
            rw [hpk] at hst2
            have HS2 := Lib.hid hst2
            have HPK := Lib.hid hpk
            clear hst2 hpk hq
            go_wp2_with fail
            refine AZ.out.mono ?_
            rintro e w6 ⟨rfl, hb6⟩
            have B6 := Lib.hid hb6
            have z6 := hb6.size
            have X6 := Lib.hid (X1.out.below hb6 (by omega))
            have O6 := Lib.hid (O1'.out.below hb6 (by omega))
            have Q6 := Lib.hid (HK.out.trans (Kept.of_below (HV.out.trans (B6.out.mono sv)) _ _))
            clear hb6 k0 k1 k2
            obtain ⟨e0, e1, e2⟩ := X6.out
            go_wp2_with fail
            refine (swap_spec N q k (some ⟨g, 0, none⟩) n cap lo hi l _ O6.out (by omega) HN.out hN hqN hlt).mono ?_
            rintro e w7 ⟨rfl, hown7, hkept7⟩
            have O7 := Lib.hid hown7
            have Q7 := Lib.hid (Q6.out.trans hkept7)
            have z7 := hkept7.size
            clear e0 e1 e2 hown7 hkept7 AZ X6 O6 Q6
            obtain ⟨wm, rfl⟩ : ∃ wm : World, wm = w7 := ⟨_, rfl⟩
            obtain ⟨lm, hlm⟩ : ∃ lm, (swp N q k l N) = lm := ⟨_, rfl⟩
            rw [hlm] at HS2 HPK O7
            have HLM := Lib.hid hlm
            clear hlm
            have sm : W0.heap.size ≤ wm.heap.size := Q7.out.size
            go_wp2
            go_loopw [9] (fun x wr => ∃ r : Nat, r ≤ N - (k + 1) ∧ x = .int .i64 ((k + 1 + r : Nat) : Int) ∧ Own wr lo hi (some ⟨g, 0, none⟩) n cap (redAll N k p lm r) ∧ Kept lo hi W0 wr) (fun x _ => N - (intOf x).toNat)
            case atStart => exact ⟨0, Nat.zero_le _, by simp, O7.out, Q7.out⟩
            case round =>
              obtain ⟨r, hr, rfl, hown, hkept⟩ := hrel
              have RO := Lib.hid hown
              have RK := Lib.hid hkept
              have sr : W0.heap.size ≤ wr.heap.size := hkept.size
              clear hown hkept
              obtain ⟨wp, rfl⟩ : ∃ wp : World, wp = wr := ⟨_, rfl⟩
              obtain ⟨i, hi'⟩ : ∃ i, k + 1 + r = i := ⟨_, rfl⟩
              rw [hi']
              have HII := Lib.hid hi'
              have hki : k < i := by omega
              have hiN : i ≤ N := by omega
              clear hi'
              by_cases hil : i < N
              · obtain ⟨l1, hl1⟩ : ∃ l1, redAll N k p lm r = l1 := ⟨_, rfl⟩
                rw [hl1] at RO
                have HL1 := Lib.hid hl1
                clear hl1
                go_wp2
                go_loopw [10] (fun y wr => ∃ t : Nat, t ≤ N - (k + 1) ∧ y = .int .i64 ((k + 1 + t : Nat) : Int) ∧ Own wr lo hi (some ⟨g, 0, none⟩) n cap (redRow N k p i l1 t) ∧ Kept lo hi W0 wr) (fun y _ => N - (intOf y).toNat)
                case atStart => exact ⟨0, Nat.zero_le _, by simp, RO.out, RK.out⟩
                case round =>
                  obtain ⟨t, ht, rfl, hown, hkept⟩ := hrel
                  have TV := Lib.hid hown
                  have TL := Lib.hid hkept
                  have st' : W0.heap.size ≤ wr.heap.size := hkept.size
                  clear hown hkept
                  obtain ⟨j, hj'⟩ : ∃ j, k + 1 + t = j := ⟨_, rfl⟩
                  rw [hj']
                  have HJ := Lib.hid hj'
                  have hkj : k < j := by omega
                  have hjN : j ≤ N := by omega
                  clear hj'
                  have Y1 := Lib.hid (K0.out.kept TL.out (by omega) (by omega))
                  obtain ⟨k0, k1, k2⟩ := Y1.out
                  by_cases hjl : j < N
                  · have sij := ij_lt hil hjl
                    have sik := ij_lt hil hlt
                    have skj := ij_lt hlt hjl
                    have c0 : 0 ≤ (i : Int) * (N : Int) := by rw [castM]; omega
                    have c1 : (i : Int) * (N : Int) ≤ 2304 := by rw [castM]; omega
                    have q' : redRow N k p i l1 (t + 1) = (redRow N k p i l1 t).set (i * N + j) (stp p ((redRow N k p i l1 t).getD (k * N + k) 0) ((redRow N k p i l1 t).getD (i * N + j) 0) ((redRow N k p i l1 t).getD (i * N + k) 0) ((redRow N k p i l1 t).getD (k * N + j) 0)) := by rw [redRow, HJ.out]
                    obtain ⟨m, hm⟩ : ∃ m, redRow N k p i l1 t = m := ⟨_, rfl⟩
                    rw [hm] at TV q'
                    have AA := fun (i j : Nat) (hs : i * N + j < N * N) (a0 : 0 ≤ (i : Int) * (N : Int)) (a1 : (i : Int) * (N : Int) ≤ 2304) (W : World) (hW : Below wr.heap.size wr W) => at_spec N N (some ⟨g, 0, none⟩) n cap m W ((TV.out.below hW (by omega)).ints.more (by have := hW.size; omega)) (by have := HN.out; omega) i j _ a0 a1 (castI i N j) (by rw [HN.out]; exact hs)
                    have AKK := Lib.hid (AA k k skk b0 b1)
                    have AIJ := Lib.hid (AA i j sij c0 c1)
                    have AIK := Lib.hid (AA i k sik c0 c1)
                    have AKJ := Lib.hid (AA k j skj b0 b1)
                    obtain ⟨u, hu⟩ : ∃ u, m.getD (k * N + k) 0 = u := ⟨_, rfl⟩
                    obtain ⟨v, hv⟩ : ∃ v, m.getD (i * N + j) 0 = v := ⟨_, rfl⟩
                    obtain ⟨x, hx⟩ : ∃ x, m.getD (i * N + k) 0 = x := ⟨_, rfl⟩
                    obtain ⟨y, hy⟩ : ∃ y, m.getD (k * N + j) 0 = y := ⟨_, rfl⟩
                    rw [hu] at AKK q'
                    rw [hv] at AIJ q'
                    rw [hx] at AIK q'
                    rw [hy] at AKJ q'
                    have QQ := Lib.hid q'
                    have e0 : 0 ≤ (i : Int) * (N : Int) + (j : Int) := by omega
                    have e1 : (i : Int) * (N : Int) + (j : Int) < (n : Int) := by rw [castI, HN.out]; omega
                    have ng1 : ¬ g = w1.heap.size := by have := L1.out; omega
                    have ng2 : ¬ w1.heap.size = g := by have := L1.out; omega
                    have gw : g < wr.heap.size := by have := L1.out; omega
                    have hw1 : IntKind.i64.wrap ((i : Int) * (N : Int)) = (i : Int) * (N : Int) := IntWalk.i64_in _ (by omega)
                    have hw2 : IntKind.i64.wrap ((i : Int) * (N : Int) + (j : Int)) = (i : Int) * (N : Int) + (j : Int) := IntWalk.i64_in _ (by rw [HN.out] at e1; omega)
                    clear AA hm hu hv hx hy q'
                    go_wp2_with fail
                    go_region_held3 (fun W => W.cell? ⟨w1.heap.size, 0, none⟩ = some (.int .i64 N) ∧ W.cell? ⟨w1.heap.size, 1, none⟩ = some (.int .i64 N) ∧ W.cell? ⟨w1.heap.size, 2, none⟩ = some (.slice (some ⟨g, 0, none⟩) n cap)) (go_keep)
                      (first
                        | (go_at_call 55; (with_reducible refine (AIJ.out _ (by exact (Below.refl _ _).drew)).mono ?_); rintro e v6 ⟨rfl, hb'⟩; have B6' := Lib.hid (undrew hb'); have y6 := B6'.out.size; obtain ⟨x0, x1, x2⟩ := Y1.out.below B6'.out (by omega); clear hb')
                        | (go_at_call 55; (with_reducible refine (AKK.out _ (by exact B6'.out)).mono ?_); rintro e v7 ⟨rfl, hb'⟩; have B7' := Lib.hid (B6'.out.trans (hb'.mono y6)); have y7 := B7'.out.size; obtain ⟨f0, f1, f2⟩ := Y1.out.below B7'.out (by omega); clear hb')
                        | (go_at_call 55; (with_reducible refine (AIK.out _ (by exact B7'.out)).mono ?_); rintro e v8 ⟨rfl, hb'⟩; have B8' := Lib.hid (B7'.out.trans (hb'.mono y7)); have y8 := B8'.out.size; obtain ⟨g0, g1, g2⟩ := Y1.out.below B8'.out (by omega); clear hb')
                        | (go_at_call 55; (with_reducible refine (AKJ.out _ (by exact B8'.out)).mono ?_); rintro e v9 ⟨rfl, hb'⟩; have B9' := Lib.hid (B8'.out.trans (hb'.mono y8)); have y9 := B9'.out.size; obtain ⟨m0, m1, m2⟩ := Y1.out.below B9'.out (by omega); obtain ⟨g', zz', eg, _, _, _, hcz, hfz⟩ := (TV.out.below B9'.out (by omega)).at_ (k := i * N + j) (by rw [HN.out]; exact sij); cases eg; have hcz' : v9.cell? ⟨g, ((i : Int) * (N : Int) + (j : Int)).toNat, none⟩ = some (.int .i64 zz') := (by rw [castI]; exact hcz); have hfz' : v9.frozen? ⟨g, ((i : Int) * (N : Int) + (j : Int)).toNat, none⟩ = false := (by rw [castI]; exact hfz); clear hb'))
                    have ho : ((i : Int) * (N : Int) + (j : Int)).toNat = i * N + j := by rw [castI]; rfl
                    have hval : IntKind.i64.wrap ((IntKind.i64.wrap (IntKind.i64.wrap (v * u) - IntKind.i64.wrap (x * y))).tdiv p) = stp p u v x y := by rw [Int.mul_comm v u]; rfl
                    rw [ho, hval]
                    have O8 := Lib.hid ((TV.out.below B9'.out (by omega)).set_ (i * N + j) (stp p u v x y))
                    have K8 := Lib.hid (Kept.set_ (p := ⟨g, i * N + j, none⟩) (TL.out.trans (Kept.of_below B9'.out lo hi)) (by dsimp only; omega) (by have := L1.out; dsimp only; omega) (.int .i64 (stp p u v x y)))
                    clear k0 k1 k2 x0 x1 x2 f0 f1 f2 g0 g1 g2 m0 m1 m2 hcz hfz hcz' hfz' ho hval hw1 hw2
                    go_wp2
                    go_roundw
                    case rel => exact ⟨t + 1, by have := HJ.out; omega, by have := HJ.out; go_num, by rw [QQ.out]; exact O8.out, K8.out⟩
                    case measure => simp [intOf]; omega
                  · have ht2 : t = N - (k + 1) := by have := HJ.out; omega
                    have HT2 := Lib.hid ht2
                    clear ht2
                    go_wp2
                    go_roundw
                    case rel => exact ⟨r + 1, by have := HII.out; omega, by have := HII.out; go_num, by rw [redAll, HII.out, HL1.out, ← HT2.out]; exact TV.out, TL.out⟩
                    case measure => simp [intOf]; omega
              · have hr2 : r = N - (k + 1) := by have := HII.out; omega
                rw [hr2] at RO
                clear hr2
                obtain ⟨x0, x1, x2⟩ := K0.out.kept RK.out (by omega) (by omega)
                go_wp2_with fail
                refine (at_spec N N (some ⟨g, 0, none⟩) n cap _ _ (RO.out.ints.more (by omega)) (by have := HN.out; omega) k k _ b0 b1 (castI k N k) (by rw [HN.out]; exact skk)).mono ?_
                rw [HPK.out]
                rintro e v9 ⟨rfl, hb9⟩
                have B9 := Lib.hid hb9
                have z9 := hb9.size
                clear x0 x1 x2 hb9
                go_wp2
                go_roundg (N - (k + 1))
                case measure => have := HGK.out; omega
                case rel => exact ⟨k + 1, (-s), z, _, by omega, by go_num, by first | rfl | go_num, rfl, HS2.out, HZ0.out, by rw [redAll_len, ← HLM.out, swp_len]; exact HLEN.out, RO.out.below B9.out (by omega), RK.out.trans (Kept.of_below B9.out _ _)⟩
    · obtain rfl : k = N := by omega
      have hd : wrap64 (s * p) = detv k l0 := by unfold detv; rw [HST.out]
      have HD := Lib.hid hd
      clear hd
      go_wp2
      go_ret
      exact ⟨by rw [← HD.out]; rfl, HB0.out.trans (HK.out.below hlo3 (by omega))⟩

end Go.Proofs.Ytdbljeglnhefmaa
