/- The law FnSimplify returns true for every code that is passed in and changes no memory that was there. No condition. -/
import Derived.Test.YtjommpdblbbkdaaSpY
import Derived.Deep.RegionHeld3
namespace Go.Proofs.Ytjommpdblbbkdaa
open Go.ChangeShapes Go.WideShapes Go.ChangeAt Go.RowKit

theorem applied_spec2 (K I J r : Int) (A : Option Addr) (c : Nat) (rs : List Rw) (w : World) (h : RdS w w.heap.size A rs) (hp : Wd.isP r (vals rs) = true) :
    Calls Try.prog 10 #[.agg #[.int .i64 r, .slice A rs.length c], .agg #[.int .i64 K, .int .i64 I, .int .i64 J, .slice none 0 0]] w (ResP w (applied r (vals rs) K I J []).1 (applied r (vals rs) K I J []).2.1 (applied r (vals rs) K I J []).2.2) := by
  obtain ⟨r0, r24, r48, hz⟩ := Wd.isP_iff.1 hp
  rw [vals_len] at r48
  exact applied_spec K I J r A c rs w h (by omega) fun q hq => by
    have := (Wd.isW_fit (Wd.isR_iff.1 (hz _ (List.mem_map_of_mem hq))).1).1
    omega
/-- A presentation and a code behind a call, the presentation in its box. -/
def CutS (wj : World) (pr : Int) (pz : List (List Int)) (v p x : Value) (W : World) : Prop :=
  ∃ β R t rs, p = .pointer (some ⟨β, 0, none⟩) ∧ x = v ∧ BoxG W β (.int .i64 pr) (.slice R rs.length t) ∧ wj.heap.size ≤ β ∧ β < W.heap.size ∧ OwnS W wj.heap.size W.heap.size R t rs ∧ vals rs = pz ∧ Below wj.heap.size wj W
theorem CutS.new {wj W : World} {pr : Int} {pz : List (List Int)} {v : Value} {lo : Nat} {R : Option Addr} {t : Nat} {rs : List Rw} {T : TypeId} (ho : OwnS W lo W.heap.size R t rs) (hv : vals rs = pz) (hb : Below wj.heap.size wj W) (hl : wj.heap.size ≤ lo) :
    CutS wj pr pz v (.pointer (some ⟨W.heap.size, 0, none⟩)) v (W.alloc (Obj.cells #[.int .i64 pr, .slice R rs.length t] T)) :=
  ⟨W.heap.size, R, t, rs, rfl, rfl, BoxG.new _ _ _ _, hb.size, by simp, (ho.below (al1 _ _) (Nat.le_refl _)).wide hl (by simp), hv, hb.alloc hb.size _⟩
theorem CutS.old {wj W : World} {pr : Int} {pz : List (List Int)} {v : Value} {lo b : Nat} {R : Option Addr} {t : Nat} {rs : List Rw} {x y : Value} (ho : OwnS W lo W.heap.size R t rs) (hv : vals rs = pz) (hx : BoxG W b x y) (hb : Below wj.heap.size wj W) (hl : wj.heap.size ≤ b) (hlo : b < lo) (hh : b < W.heap.size) :
    CutS wj pr pz v (.pointer (some ⟨b, 0, none⟩)) v ((W.setCell ⟨b, 0, none⟩ (.int .i64 pr)).setCell ⟨b, 1, none⟩ (.slice R rs.length t)) :=
  ⟨b, R, t, rs, rfl, rfl, (hx.set0_).set1_, hl, by simpa [World.setCell] using hh, (((ho.far (p := ⟨b, 0, none⟩) (.inl hlo) _).far (p := ⟨b, 1, none⟩) (.inl hlo) _).wide (by omega) (by simp [World.setCell])), hv, (hb.setCell hl _).setCell hl _⟩

set_option maxHeartbeats 2000000 in
theorem likeInts_quiet (A A' : Option Addr) (n c c' : Nat) (zs : List Int) (B B' : Nat) (w : World) (h : Ints w B A n zs) (h' : Ints w B' A' n zs) (hn : n ≤ 1048576) :
    Calls Try.prog 11 #[.slice A n c, .slice A' n c'] w fun e w' => e = .returned (.bool true) ∧ ∃ m, w' = w.drewN m := by
  have H := Lib.hid h
  have H' := Lib.hid h'
  clear h h'
  go_enter Try.func11, Try.ntmps11
  go_wp2
  go_loopw [5] (fun x wr => ∃ k m : Nat, k ≤ n ∧ x = .int .i64 k ∧ wr = w.drewN m) (fun x _ => n - (intOf x).toNat)
  case atStart => exact ⟨0, 0, Nat.zero_le _, rfl, rfl⟩
  case round =>
    obtain ⟨k, m, hk, rfl, rfl⟩ := hrel
    by_cases hlt : k < n
    · obtain ⟨b, off, x, rfl, hb, hx, hc⟩ := H.out.at_z hlt
      obtain ⟨b', off', y, rfl, hb', hy, hc'⟩ := H'.out.at_z hlt
      obtain rfl : x = y := hx.symm.trans hy
      have i0 : (0 : Int) ≤ (k : Int) := by omega
      have i1 : (k : Int) < (n : Int) := by omega
      clear hx hy
      go_wp2
      go_quiet (fail)
      all_goals
        go_wp2
        go_roundw
        case rel => exact ⟨k + 1, _, by omega, by go_num, rfl⟩
        case measure => simp [intOf]; omega
    · obtain rfl : n = k := by omega
      have i1 : ¬ (n : Int) < (n : Int) := by omega
      go_wp2
      go_ret
      exact ⟨rfl, _, rfl⟩

set_option maxRecDepth 100000 in
set_option maxHeartbeats 16000000 in
theorem walkSimplify (A : Option Addr) (n c : Nat) (bs : List Int) (w : World) (h : Bys w w.heap.size A n bs) (hn : n ≤ 4096) :
    Calls Try.prog 3 #[.slice A n c] w fun e w' => e = .returned (.bool true) ∧ Below w.heap.size w w' := by
  have H := Lib.hid h
  have BG := Lib.hid (Wd.big_no A n c w hn)
  clear h
  go_enter Try.func3, Try.ntmps3
  go_wp2_with fail
  refine BG.out.mono ?_
  rintro e w' ⟨rfl, rfl⟩
  go_wp2_with fail
  refine (drawS_spec A n c bs w H.out (by omega)).mono ?_
  rintro e w1 ⟨r, P, cp, rs, rfl, ho, r0, r1, hl, hrow, hb1⟩
  have O1 := Lib.hid ho
  have RW := Lib.hid hrow
  have D1 := Lib.hid hb1
  have z1 : w.heap.size ≤ w1.heap.size := hb1.size
  clear ho hrow hb1
  go_upto_region 4 with fail
  obtain ⟨W1, hW1⟩ : ∃ W1, W1 = w1.alloc (Obj.cells #[.int .i64 r, .slice P rs.length cp] 26) := ⟨_, rfl⟩
  rw [← hW1]
  have AW := Lib.hid (show Below w1.heap.size w1 W1 from by rw [hW1]; exact al1 _ _)
  have BP := Lib.hid (show BoxG W1 w1.heap.size (.int .i64 r) (.slice P rs.length cp) from by rw [hW1]; exact BoxG.new w1 _ _ _)
  obtain ⟨sW1, sW2⟩ : W1.heap.size ≤ w1.heap.size + 1 ∧ w1.heap.size + 1 ≤ W1.heap.size := by rw [hW1]; simp
  clear hW1
  have OP := Lib.hid (O1.out.below AW.out (Nat.le_refl _))
  have DP := Lib.hid (D1.out.trans (AW.out.mono z1))
  have hrw6 := Lib.hid (show ∀ q ∈ rs, q.zs.length ≤ 1048576 from fun q hq => by have := RW.out q hq; omega)
  obtain ⟨b0, b1⟩ := BP.out
  go_wp2_with fail
  refine (simplify_impl r P cp rs _ (OP.out.rd.more (by omega)) (by omega) hrw6.out).mono ?_
  rintro e w2 ⟨Q, cq, qs, At, ct, lo, hi, lo2, hi2, rfl, ho2, hv2, ht2, hd2, ha2, hb2, hc2, hd22, hbel⟩
  rcases hp : Wd.isP r (vals rs) with _ | _
  · have EQ : simpAll r (vals rs) = (0, [], [], 1) := by unfold simpAll; rw [if_neg (by simp [hp])]
    rw [EQ] at ht2 hv2 ⊢
    dsimp only at ht2 hv2 ⊢
    have IS := Lib.hid (fun (W : World) (hW : Below W1.heap.size W1 W) => isPres_spec r P cp rs W ((OP.out.rd.more (by omega)).into hW) (by omega) hrw6.out)
    rw [hp] at IS
    have B2 := Lib.hid hbel
    have z2 : W1.heap.size ≤ w2.heap.size := hbel.size
    clear hp EQ ho2 hv2 ht2 b0 b1 hbel
    obtain ⟨b0, b1⟩ := BP.out.below B2.out (by omega)
    have y2 : w1.heap.size < w2.heap.size := by omega
    go_wp2_with fail
    refine (IS.out _ ((B2.out).alloc z2 _)).mono ?_
    rintro e w3 ⟨rfl, hb3⟩
    have D3 := Lib.hid ((DP.out.trans (B2.out.mono (by omega))).trans ((on1 _ hb3).mono (by omega)))
    clear hb3
    go_wp2
    go_ret
    exact ⟨rfl, D3.out⟩
  · obtain ⟨F, hF⟩ : ∃ F, simpRun 200 r (vals rs) = F := ⟨_, rfl⟩
    have EQ : simpAll r (vals rs) = (F.1.1, F.1.2, F.2, 0) := by unfold simpAll; rw [if_pos hp, hF]
    rw [EQ] at ht2 hv2 ⊢
    dsimp only at ht2 hv2 ⊢
    obtain ⟨fl, fp, fg, fe⟩ := simpRun_facts 200 r (vals rs) hp
    rw [hF] at fl fp fg fe
    obtain ⟨⟨fr, fz⟩, ms⟩ := F
    dsimp only at fl fp fg fe ht2 hv2 ⊢
    have HF := Lib.hid hF
    have HP := Lib.hid hp
    have FP := Lib.hid fp
    have FE := Lib.hid fe
    have B2 := Lib.hid hbel
    have O2 := Lib.hid ho2
    have V2 := Lib.hid hv2
    have T2 := Lib.hid ht2
    have z2 : W1.heap.size ≤ w2.heap.size := hbel.size
    clear hp EQ ho2 hv2 ht2 b0 b1 hbel hF fp fe
    obtain ⟨b0, b1⟩ := BP.out.below B2.out (by omega)
    have y2 : w1.heap.size < w2.heap.size := by omega
    obtain ⟨N, hN⟩ : ∃ N, ms.length = N := ⟨_, rfl⟩
    have LN := Lib.hid hN
    rw [hN] at fl FE ⊢
    clear hN
    go_upto_region 8 with fail
    obtain ⟨W3, hW3⟩ : ∃ W3, W3 = (w2.alloc (Obj.cells #[.int .i64 fr, .slice Q qs.length cq] 26)).alloc (Obj.cells #[.int .i64 r, .slice P rs.length cp] 26) := ⟨_, rfl⟩
    rw [← hW3]
    have BW := Lib.hid (show Below w2.heap.size w2 W3 from by rw [hW3]; exact al2 _ _ _)
    have BQ := Lib.hid (show BoxG W3 w2.heap.size (.int .i64 fr) (.slice Q qs.length cq) from by rw [hW3]; exact (BoxG.new w2 _ _ _).below (al1 _ _) (by simp))
    have BA := Lib.hid (show BoxG W3 (w2.heap.size + 1) (.int .i64 r) (.slice P rs.length cp) from by rw [hW3]; simpa using BoxG.new (w2.alloc (Obj.cells #[.int .i64 fr, .slice Q qs.length cq] 26)) 26 (.int .i64 r) (.slice P rs.length cp))
    have FA := Lib.hid (show Free W3 (w2.heap.size + 1) from by rw [hW3]; simpa using Free.new (w2.alloc (Obj.cells #[.int .i64 fr, .slice Q qs.length cq] 26)) 26 #[.int .i64 r, .slice P rs.length cp])
    obtain ⟨sW3, sW4⟩ : W3.heap.size ≤ w2.heap.size + 1 + 1 ∧ w2.heap.size + 1 + 1 ≤ W3.heap.size := by rw [hW3]; simp
    clear hW3 b0 b1
    have OQ := Lib.hid (O2.out.below BW.out hc2)
    have BP3 := Lib.hid ((BP.out.below B2.out (by omega)).below BW.out (by omega))
    have TQ := Lib.hid (T2.out.below BW.out hd22)
    have OP3 := Lib.hid ((OP.out.below B2.out (by omega)).below BW.out (by omega))
    have D3 := Lib.hid (((DP.out.trans (B2.out.mono (by omega)))).trans (BW.out.mono (by omega)))
    obtain ⟨qb, hqb⟩ : ∃ qb, w2.heap.size = qb := ⟨_, rfl⟩
    rw [hqb] at BQ BA FA hc2 hd22 sW3 sW4 y2 ⊢
    have zq : w.heap.size ≤ qb := by omega
    clear BP OP B2 BW O2 T2 O1 hqb z2
    go_wp2
    go_loopw [8] (fun i W => ∃ (k : Nat) (rk : Int) (Ak : Option Addr) (ck lk hk : Nat) (ks : List Rw), k ≤ N ∧ i = .int .i64 k ∧ BoxG W (qb + 1) (.int .i64 rk) (.slice Ak ks.length ck) ∧ Free W (qb + 1) ∧ OwnS W lk hk Ak ck ks ∧ (qb + 1 < lk ∨ hk ≤ qb + 1) ∧ hk ≤ W.heap.size ∧ Wd.isP rk (vals ks) = true ∧ simpRun (200 - k) rk (vals ks) = ((fr, fz), ms.drop k) ∧ Kept (qb + 1) (qb + 1 + 1) W3 W) (fun i _ => N - (intOf i).toNat)
    case atStart => exact ⟨0, r, P, cp, w.heap.size, w1.heap.size, rs, Nat.zero_le _, rfl, BA.out, FA.out, OP3.out, .inr (by omega), by omega, HP.out, by rw [Nat.sub_zero, HF.out]; rfl, Kept.refl _ _ _⟩
    case round =>
      obtain ⟨k, rk, Ak, ck, lk, hk, ks, hkN, rfl, hbx, hfr, hok, hdk, hhk, hpk, hrun, hkp⟩ := hrel
      have BK := Lib.hid hbx
      have FK := Lib.hid hfr
      have OK := Lib.hid hok
      have PK := Lib.hid hpk
      have RUN := Lib.hid hrun
      have KP := Lib.hid hkp
      have zk : W3.heap.size ≤ wr.heap.size := hkp.size
      clear hbx hfr hok hpk hrun hkp
      have TR := Lib.hid (TQ.out.kept KP.out (by omega) (.inl (by omega)))
      by_cases hlt : k < N
      · have DR : ms.drop k = ms.getD k (0, 0, 0) :: ms.drop (k + 1) := by
          rw [List.drop_eq_getElem_cons (by rw [LN.out]; exact hlt), List.getD_eq_getElem?_getD, List.getElem?_eq_getElem (by rw [LN.out]; exact hlt)]
          rfl
        obtain ⟨⟨K, I, J⟩, hm⟩ : ∃ m, ms.getD k (0, 0, 0) = m := ⟨_, rfl⟩
        obtain ⟨k2, ⟨r6, z6⟩, hk2, hst, hr2⟩ := simpRun_cons (by have := RUN.out; rw [DR, hm] at this; exact this)
        obtain ⟨hap, hp6, _, _⟩ := simpStep_some PK.out hst
        have P6 := Lib.hid hp6
        have R6 := Lib.hid (show simpRun (200 - (k + 1)) r6 z6 = ((fr, fz), ms.drop (k + 1)) from by rw [show 200 - (k + 1) = k2 by omega]; exact hr2)
        have AP := Lib.hid (fun (W : World) (hW : Below wr.heap.size wr W) => applied_spec2 K I J rk Ak ck ks W ((OK.out.rd.more hhk).into hW) PK.out)
        rw [hap] at AP
        dsimp only at AP
        obtain ⟨gm, hgm, g1, g2, gc⟩ := TR.out.at_ (by rw [LN.out]; omega)
        subst hgm
        have q0 := (gc k 0 (by rw [LN.out]; exact hlt) (by omega)).1
        have q1 := (gc k 1 (by rw [LN.out]; exact hlt) (by omega)).1
        have q2 := (gc k 2 (by rw [LN.out]; exact hlt) (by omega)).1
        have q3 := (gc k 3 (by rw [LN.out]; exact hlt) (by omega)).1
        rw [hm] at q0 q1 q2
        simp only [mvv, List.getElem?_cons_zero, List.getElem?_cons_succ, Nat.add_zero] at q0 q1 q2 q3
        have Q0 := Lib.hid q0
        have Q1 := Lib.hid q1
        have Q2 := Lib.hid q2
        have Q3 := Lib.hid q3
        clear DR hm hk2 hst hr2 hap hp6 gc
        obtain ⟨b0, b1⟩ := BK.out
        have i0 : (0 : Int) ≤ (k : Int) := by omega
        have i1 : (k : Int) < (N : Int) := by omega
        have l0 : qb + 1 < wr.heap.size := by omega
        have l1 : gm < wr.heap.size := by omega
        have n0 : ¬ qb + 1 = wr.heap.size := by omega
        have n1 : ¬ wr.heap.size = qb + 1 := by omega
        have n2 : ¬ gm = wr.heap.size := by omega
        have n3 : ¬ wr.heap.size = gm := by omega
        go_upto_region 11 with fail
        go_cut [9, 10] (fun p x W => CutS wr r6 z6 (.int .i64 0) p x W)
        case first =>
          go_region_held3 (fun W => (W.cell? ⟨qb + 1, 0, none⟩ = some (.int .i64 rk)) ∧ (W.cell? ⟨qb + 1, 1, none⟩ = some (.slice Ak ks.length ck)) ∧ (W.cell? ⟨gm, k * 4, none⟩ = some (.int .i64 K)) ∧ (W.cell? ⟨gm, k * 4 + 1, none⟩ = some (.int .i64 I)) ∧ (W.cell? ⟨gm, k * 4 + 2, none⟩ = some (.int .i64 J)) ∧ (W.cell? ⟨gm, k * 4 + 3, none⟩ = some (.slice none 0 0))) (go_keep)
            (first
              | (go_at_call 10; (refine (AP.out _ ?_).mono ?_; (first | exact (Below.refl _ _).drew | exact (al1 _ _).drew)); rintro e w6 ⟨A6, c6, rs6, rfl, ho6, hv6, hb6'⟩; have hb6 := undrew hb6'; have O6 := Lib.hid ho6; have V6 := Lib.hid hv6; have B6 := Lib.hid (show Below wr.heap.size wr w6 from (by first | exact hb6 | exact on1 _ hb6)); have z6 := B6.out.size; have yz := hb6.size; obtain ⟨e0, e1⟩ := BK.out.below B6.out (by omega); have e2 := (B6.out.cell (p := ⟨gm, k * 4, none⟩) (by dsimp only; omega)).trans Q0.out; have e3 := (B6.out.cell (p := ⟨gm, k * 4 + 1, none⟩) (by dsimp only; omega)).trans Q1.out; have e4 := (B6.out.cell (p := ⟨gm, k * 4 + 2, none⟩) (by dsimp only; omega)).trans Q2.out; have e5 := (B6.out.cell (p := ⟨gm, k * 4 + 3, none⟩) (by dsimp only; omega)).trans Q3.out; have y6 : qb + 1 < w6.heap.size := (by omega); have y7 : gm < w6.heap.size := (by omega); (try have bz := (BoxG.new wr 26 (.int .i64 0) (.slice none 0 0)).below hb6 (by simp)); (try have BZ := Lib.hid bz); (try obtain ⟨c0, c1⟩ := bz); (try have bf := (Free.new wr 26 #[.int .i64 0, .slice none 0 0]).below hb6 (by simp)); (try unfold Free at bf); clear hb6 hb6' ho6 hv6))
          all_goals
            go_wp2_with fail
            go_meet
            first
              | exact CutS.new (by simpa using O6.out) V6.out B6.out (by simp)
              | exact CutS.old (by simpa using O6.out) V6.out BZ.out B6.out (Nat.le_refl _) (by simp) (by have := yz; simp at this; omega)
        case rest =>
          obtain ⟨bb, R6', t6, rs6, rfl, rfl, hx6, hl6, hh6, ho6, hv6, hb6⟩ := hcut
          have V6 := Lib.hid hv6
          have B6 := Lib.hid hb6
          have z6 := hb6.size
          obtain ⟨e0, e1⟩ := BK.out.below hb6 (by omega)
          have ef := FK.out.below hb6 (by omega)
          have EF := Lib.hid ef
          unfold Free at ef
          obtain ⟨c0, c1⟩ := hx6
          have O6 := Lib.hid ho6
          have BQ6 := Lib.hid (show BoxG _ (qb + 1) _ _ from ⟨e0, e1⟩)
          have m0 : ¬ qb + 1 = bb := by omega
          have m1 : ¬ bb = qb + 1 := by omega
          clear hv6 hb6 ho6 b0 b1
          go_wp2
          go_round
          case rel => exact ⟨k + 1, r6, R6', t6, wr.heap.size, _, rs6, by omega, by go_num, (BQ6.out.set0_).set1_, (EF.out.setA _ _).setA _ _, (O6.out.far (p := ⟨qb + 1, 0, none⟩) (.inl (by dsimp only; omega)) _).far (p := ⟨qb + 1, 1, none⟩) (.inl (by dsimp only; omega)) _, .inl (by omega), by simp [World.setCell], by rw [V6.out]; exact P6.out, by rw [V6.out]; exact R6.out, ((KP.out.trans (Kept.of_below (B6.out) _ _)).set_ (Nat.le_refl _) (Nat.lt_succ_self _) _).set_ (Nat.le_refl _) (Nat.lt_succ_self _) _⟩
          case measure => simp [intOf]; omega
      · obtain rfl : k = N := by omega
        have hnil := simpRun_nil (show simpRun (200 - k) rk (vals ks) = ((fr, fz), []) from by have := RUN.out; rw [List.drop_of_length_le (by rw [LN.out]; exact Nat.le_refl _)] at this; exact this)
        injection hnil with h1 h2
        subst h1
        have VK := Lib.hid h2
        have VQ := Lib.hid (show vals qs = vals ks from V2.out.trans h2)
        clear h2 V2
        have hlen : ks.length = qs.length := by have := congrArg List.length VQ.out; simpa [vals] using this.symm
        have LK := Lib.hid hlen
        have hB := Lib.hid (fun (W : World) (hW : Below wr.heap.size wr W) => BK.out.below hW (by omega))
        have hQ := Lib.hid (fun (W : World) (hW : Below wr.heap.size wr W) => (BQ.out.kept KP.out (by omega) (by omega)).below hW (by omega))
        have hKS := Lib.hid (fun (W : World) (hW : Below wr.heap.size wr W) => (OK.out.rd.more hhk).below hW)
        have hQS := Lib.hid (fun (W : World) (hW : Below wr.heap.size wr W) => ((OQ.out.kept KP.out (by omega) (.inl (by omega))).rd.more (by omega)).below hW)
        have hP := Lib.hid (fun (W : World) (hW : Below wr.heap.size wr W) => (BP3.out.kept KP.out (by omega) (by omega)).below hW (by omega))
        have PQ := Lib.hid (show Wd.isP fr (vals qs) = true from by rw [VQ.out]; exact PK.out)
        have DW := Lib.hid (fun (W : World) (hW : Below wr.heap.size wr W) => (D3.out.trans (KP.out.below (B := w.heap.size) (by omega) (by omega))).trans (hW.mono (by omega)))
        clear OQ OK BA FA FK OP3 D3 RUN HF TR TQ KP RW PK
        obtain ⟨b0, b1⟩ := BK.out
        rw [hlen] at b1
        obtain ⟨c0, c1⟩ := hQ.out _ (Below.refl _ _)
        clear hlen BK BQ
        have i1 : ¬ (k : Int) < (k : Int) := by omega
        go_wp2
        go_loopw [11] (fun i W => ∃ j : Nat, j ≤ qs.length ∧ i = .int .i64 j ∧ Below wr.heap.size wr W) (fun i _ => qs.length - (intOf i).toNat)
        case atStart => exact ⟨0, Nat.zero_le _, rfl, Below.refl _ _⟩
        case round =>
          obtain ⟨j, hj, rfl, hbel⟩ := hrel
          have DJ := Lib.hid hbel
          have zj := hbel.size
          obtain ⟨d0, d1⟩ := hB.out _ hbel
          rw [LK.out] at d1
          obtain ⟨e0, e1⟩ := hQ.out _ hbel
          clear hbel
          have j0 : (0 : Int) ≤ (j : Int) := by omega
          by_cases hjt : j < qs.length
          · obtain ⟨b1, off1, Aj, cj, zj1, rfl, hb1, hr1, hc1, hjc1, hjm1, hj1⟩ := (hKS.out _ DJ.out).at_ (j := j) (by rw [LK.out]; exact hjt)
            obtain ⟨b3, off3, Aj', cj', zj', rfl, hb3, hr3, hc3, hjc3, hjm3, hj3⟩ := (hQS.out _ DJ.out).at_ (j := j) hjt
            have e := vals_at VQ.out j
            rw [hr1, hr3] at e
            dsimp only at e
            subst e
            have q48 := (Wd.isP_iff.1 PQ.out).2.2.1
            rw [vals_len] at q48
            have hl : zj'.length ≤ 1048576 := (Wd.isW_fit (Wd.isR_iff.1 ((Wd.isP_iff.1 PQ.out).2.2.2 _ (List.mem_map_of_mem (getD_mem hjt)))).1).1 |> fun h => by rw [hr3] at h; dsimp only at h; omega
            have EQ := Lib.hid (fun (W : World) (m : Nat) => likeInts_quiet Aj Aj' zj'.length cj cj' zj' _ _ ((wr).drewN m) (hj1.drewN m) (hj3.drewN m) hl)
            have hfz : fz = vals ks := VK.out
            have NZ := Lib.hid (fun (h : k < 200) => (simpStep_end (FE.out h)).1 j (by rw [hfz, vals_len, LK.out]; exact hjt))
            have NE := Lib.hid (fun (h : k < 200) (g : Int) (h1 : 1 ≤ g) (h2 : g ≤ fr) => (simpStep_end (FE.out h)).2 j j0 (by rw [hfz, vals_len, LK.out]; omega) g h1 h2)
            have nz : k < 200 → ¬ zj'.length = 0 := fun h h0 => NZ.out h (by rw [hfz, vals_getD, hr1]; exact List.length_eq_zero_iff.1 h0)
            have AP := Lib.hid (fun (W : World) (hW : Below wr.heap.size wr W) (g : Int) => applied_spec2 5 j g fr _ cq qs W ((hQS.out _ (DJ.out.trans (hW.mono zj))).more (by have := hW.size; omega)) PQ.out)
            rw [← VQ.out] at hfz
            rw [hfz] at NE
            have i2 : (j : Int) < (qs.length : Int) := by omega
            clear hr1 hr3 hj1 hj3 NZ hfz
            have DJO := Lib.hid (fun (W : World) (hW : Below wr.heap.size wr W) => DJ.out.trans (hW.mono zj))
            rcases Nat.lt_or_ge k 200 with hk2 | hk2
            · have nz2 : ¬ (zj'.length : Int) = 0 := by have := nz hk2; omega
              have nz3 : ((zj'.length : Int) == 0) = false := by simpa using nz2
              have nz4 : decide ((zj'.length : Int) = 0) = false := by simpa using nz2
              have k3 : (k : Int) < 200 := by omega
              clear nz
              go_wp2
              go_quiet ((go_at_call 11; exact Calls.quiet_of (EQ.out wr _)))
              all_goals
                go_wp2
                go_loopw [12] (fun i W => ∃ g : Int, 1 ≤ g ∧ (g ≤ 1 ∨ g ≤ fr + 1) ∧ i = .int .i64 g ∧ Below wr.heap.size wr W) (fun i _ => (fr + 1 - intOf i).toNat)
                case atStart => exact ⟨1, by omega, .inl (by omega), rfl, Go.Joins.below_draws _ _ _⟩
                case round =>
                  obtain ⟨g, hg1, hg2, rfl, hbg⟩ := hrel
                  have DG := Lib.hid hbg
                  have zg := hbg.size
                  obtain ⟨e0, e1⟩ := hQ.out _ (DJO.out _ hbg)
                  have APG := Lib.hid (AP.out _ hbg g)
                  clear hbg
                  by_cases hgt : g ≤ fr
                  · have nx := NE.out hk2 g hg1 hgt
                    obtain ⟨⟨x1, x2, x3⟩, hx⟩ : ∃ p, applied fr (vals qs) 5 j g [] = p := ⟨_, rfl⟩
                    rw [hx] at nx APG
                    dsimp only at nx APG
                    clear hx
                    have nx2 : (x3 == 0) = false := by simpa using nx
                    go_wp2_with fail
                    refine APG.out.mono ?_
                    rintro e w6 ⟨A6, c6, rs6, rfl, ho6, hv6, hb6⟩
                    have D6 := Lib.hid hb6
                    have z6 := hb6.size
                    clear ho6 hv6 hb6
                    go_wp2
                    go_round
                    case rel => exact ⟨g + 1, by omega, .inr (by omega), by go_num, ((DG.out.trans (D6.out.mono zg)).alloc (by omega) _)⟩
                    case measure => simp [intOf]; omega
                  · go_wp2
                    go_round
                    case rel => exact ⟨j + 1, by omega, by go_num, DJO.out _ DG.out⟩
                    case measure => simp [intOf]; omega
            · have k3 : ¬ (k : Int) < 200 := by omega
              have k4 : decide ((k : Int) < 200) = false := by simpa using k3
              clear nz
              by_cases nz2 : (zj'.length : Int) = 0
              · have nz3 : ((zj'.length : Int) == 0) = true := by simpa using nz2
                go_wp2
                go_quiet ((go_at_call 11; exact Calls.quiet_of (EQ.out wr _)))
                all_goals
                  go_wp2
                  go_loopw [12] (fun i W => i = .int .i64 1 ∧ Below wr.heap.size wr W) (fun _ _ => 0)
                  case atStart => exact ⟨rfl, Go.Joins.below_draws _ _ _⟩
                  case round =>
                    obtain ⟨rfl, hbg⟩ := hrel
                    have DG := Lib.hid hbg
                    obtain ⟨e0, e1⟩ := hQ.out _ (DJO.out _ hbg)
                    clear hbg
                    by_cases hgt : 1 ≤ fr
                    all_goals
                      go_wp2
                      go_round
                      case rel => exact ⟨j + 1, by omega, by go_num, DJO.out _ DG.out⟩
                      case measure => simp [intOf]; omega
              · have nz3 : ((zj'.length : Int) == 0) = false := by simpa using nz2
                have nz4 : decide ((zj'.length : Int) = 0) = false := by simpa using nz2
                go_wp2
                go_quiet ((go_at_call 11; exact Calls.quiet_of (EQ.out wr _)))
                all_goals
                  go_wp2
                  go_loopw [12] (fun i W => i = .int .i64 1 ∧ Below wr.heap.size wr W) (fun _ _ => 0)
                  case atStart => exact ⟨rfl, Go.Joins.below_draws _ _ _⟩
                  case round =>
                    obtain ⟨rfl, hbg⟩ := hrel
                    have DG := Lib.hid hbg
                    obtain ⟨e0, e1⟩ := hQ.out _ (DJO.out _ hbg)
                    clear hbg
                    by_cases hgt : 1 ≤ fr
                    all_goals
                      go_wp2
                      go_round
                      case rel => exact ⟨j + 1, by omega, by go_num, DJO.out _ DG.out⟩
                      case measure => simp [intOf]; omega
          · obtain rfl : j = qs.length := by omega
            have i2 : ¬ (qs.length : Int) < (qs.length : Int) := by omega
            have DF := Lib.hid (DW.out _ DJ.out)
            obtain ⟨f0, f1⟩ := hP.out _ DJ.out
            go_wp2
            go_ret
            exact ⟨rfl, DF.out⟩


theorem allSimplify (A : Option Addr) (n c : Nat) (bs : List Int) (w : World) (h : Bys w w.heap.size A n bs) :
    Calls Try.prog 3 #[.slice A n c] w fun e w' => e = .returned (.bool true) ∧ Below w.heap.size w w' := by
  by_cases hn : n ≤ 4096
  · exact walkSimplify A n c bs w h hn
  · have BG := Lib.hid (Wd.big_yes A n c w hn)
    go_enter Try.func3, Try.ntmps3
    go_wp2_with fail
    refine BG.out.mono ?_
    rintro e w' ⟨rfl, rfl⟩
    go_wp2
    go_ret
    exact ⟨rfl, Below.refl _ _⟩

set_option maxRecDepth 100000 in
theorem simplify_lifted (os : Os) (started : os.Started) (H : Type) (enc : TypeId × Value → H) :
    ReturnsInHanded {} Try.checked os 3 .any (Rows.fnSimplifySpec.pre6 enc Try.prog Try.f3 Rows.fnSimplifyRow.domain false) (Rows.fnSimplifySpec.post enc Try.prog Try.f3 false true false false) := by
  refine returnsInHanded_of_change (C := Try.checked) own started (by kernel_rfl) Try.func3
    (ChangeSpec.witness6 (enc := enc) (C := Try.checked) false ⟨#[], #[.slice none 0 0], []⟩ 8 (by kernel_rfl) (by kernel_rfl) (by kernel_rfl) (by kernel_rfl)) ?_
  intro W base args ds gs before hval0 hW _ _
  have hval : ∀ (j : Nat) t v, Try.f3.params[j]? = some t → args[j]? = some v → Value.okWide Try.prog W .any base t v := hval0
  have hW' := hW
  obtain ⟨p, q, hA0, hV, rfl, hfz, hnd⟩ := hW
  have hA : DataW.TrodAll enc Try.prog W 0 (fun _ => true) true Try.f3.params.toList args.toList ds p := hA0
  rw [Try.params3] at hA hval
  obtain ⟨v0, vs0, d0, ds0, p0, q0, hargs, rfl, rfl, h0, r0⟩ := trodAll_cons hA
  obtain ⟨rfl, rfl, rfl⟩ := trodAll_nil r0
  obtain rfl : args = #[v0] := by cases args; simp_all
  obtain ⟨rfl, rfl⟩ := trodVars_none hV
  have k0_ := h0
  have lt0 : ∀ x ∈ p0, x.block < W.heap.size := by obtain ⟨m, hm⟩ := k0_; exact DataW.trod_lt m _ _ _ hm
  obtain ⟨A0, n0, c0, bs0, rfl, hi0⟩ := openB (hval 0 22 v0 rfl rfl) h0
  clear hA0 hval0
  refine (allSimplify A0 n0 c0 bs0 W hi0).mono fun e W' ⟨he, bel⟩ => ?_
  subst he
  exact ⟨_, rfl, _, _, _, [], _, [], hW', trodAll_mk1 (shut_bool Try.underlying4 _), (trodAll_cons_mk (Below.trod laidOut (by kernel_rfl) (of_decide_eq_true (by kernel_rfl)) k0_ bel lt0) trodAll_mk0), rfl, bel.frame _, fun h => by cases h⟩

theorem simplify_holds : Rows.FnSimplifySaid :=
  OpenClaim.holds_of_wide 3 Try.f3 rfl rfl rfl rfl rfl rfl rfl ⟨rfl, rfl, rfl, rfl, rfl⟩ rfl rfl rfl rfl rfl (by kernel_rfl) Try.func3 (by kernel_rfl)
    (of_decide_eq_true (by kernel_rfl)) (by unfold Func.isWrapper; first | (rw [if_pos (by decide +kernel)]; kernel_rfl) | (rw [if_neg (by decide +kernel)]; exact ⟨rfl, rfl⟩))
    (fun os started H enc _ => simplify_lifted os started H enc)

#print axioms simplify_holds

end Go.Proofs.Ytjommpdblbbkdaa
