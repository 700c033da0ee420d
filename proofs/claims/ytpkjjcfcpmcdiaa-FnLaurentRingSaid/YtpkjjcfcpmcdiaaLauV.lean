/- Contracts of the functions that bring a polynomial into its valid form, the program's and the specification's. No condition but those that each theorem names. -/
import Derived.Test.YtpkjjcfcpmcdiaaLauB
import Derived.Deep.AppendLies
namespace Go.Proofs.Ytpkjjcfcpmcdiaa
open Go.RowKit

theorem cut_next (l : List Int) {k n : Nat} (hn : n ≤ l.length) (hk : k < n) : Lau.cut l k n = l.getD k 0 :: Lau.cut l (k + 1) n := by
  unfold Lau.cut
  rw [List.drop_eq_getElem_cons (by simp; omega)]
  simp [List.getElem?_eq_getElem (show k < l.length by omega)]

theorem Mine.tail {w : World} {lo hi b off t k n : Nat} {l : List Int} (h : Mine w lo hi (some ⟨b, off, none⟩) (t + 1) (Lau.cut l k n)) (hn : n ≤ l.length) (hk : k + (t + 1) = n) : Mine w lo hi (some ⟨b, off + 1, none⟩) t (Lau.cut l (k + 1) n) :=
  ⟨by rw [Lau.cut_len hn]; omega, fun h0 => by
    obtain ⟨b', off', e, h1, h2, h3⟩ := h.2 (by omega)
    cases e
    refine ⟨b, off + 1, rfl, h1, h2, fun j hj => ?_⟩
    have := h3 (j + 1) (by omega)
    rw [Lau.cut_at (by omega), show off + (j + 1) = off + 1 + j by omega, show k + (j + 1) = k + 1 + j by omega] at this
    rw [Lau.cut_at (by omega)]
    exact this⟩
theorem Mine.init {w : World} {lo hi b off t k n : Nat} {l : List Int} (h : Mine w lo hi (some ⟨b, off, none⟩) (t + 1) (Lau.cut l k n)) (hn : n ≤ l.length) (hk : k + (t + 1) = n) : Mine w lo hi (some ⟨b, off, none⟩) t (Lau.cut l k (n - 1)) :=
  ⟨by rw [Lau.cut_len (by omega)]; omega, fun h0 => by
    obtain ⟨b', off', e, h1, h2, h3⟩ := h.2 (by omega)
    cases e
    refine ⟨b, off, rfl, h1, h2, fun j hj => ?_⟩
    have := h3 j (by omega)
    rw [Lau.cut_at (by omega)] at this
    rw [Lau.cut_at (by omega)]
    exact this⟩

set_option maxRecDepth 100000 in
set_option maxHeartbeats 4000000 in
theorem form_impl (low : Int) (A : Option Addr) (n c : Nat) (l : List Int) (a b lo hi : Nat) (w : World) (h : Mine w lo hi A n l) (hhi : hi ≤ w.heap.size) (hnc : n ≤ c) (hn : n ≤ 1048576) (hc : c ≤ maxLen) (l0 : -1000000 ≤ low) (l1 : low ≤ 1000000) (hT : Lau.Trimmed l a b) :
    Calls Try.prog 16 #[.int .i64 low, .slice A n c] w fun e w' => (a = b → ResV w lo hi 0 [] 0 e w') ∧ (a < b → Lau.LOk (low + a) (Lau.cut l a b) → ResV w lo hi (low + a) (Lau.cut l a b) 0 e w') ∧ (a < b → ¬ Lau.LOk (low + a) (Lau.cut l a b) → ResV w lo hi 0 [] 3 e w') := by
  have hl := Lib.hid h.1
  have hal : a ≤ n := by have := hT.ab; have := hT.bn; have := hl.out; omega
  have T := Lib.hid hT
  have H := Lib.hid (h.al hhi (al1 w (Obj.cells #[.int .i64 0, .slice none 0 0] 26)))
  have K0 := Lib.hid (BoxG.new w 26 (.int .i64 0) (.slice none 0 0))
  have F0 := Lib.hid (Free.new w 26 #[.int .i64 0, .slice none 0 0])
  have D0 := Lib.hid (al1 w (Obj.cells #[.int .i64 0, .slice none 0 0] 26))
  have HC := Lib.hid (show n + 0 = n from rfl)
  unfold maxLen at hc
  clear h hT
  go_enter Try.func16, Try.ntmps16
  go_wp2
  obtain ⟨W0, hW0⟩ : ∃ W0, W0 = w.alloc (Obj.cells #[.int .i64 0, .slice none 0 0] 26) := ⟨_, rfl⟩
  have s0 : w.heap.size < W0.heap.size := by rw [hW0]; simp
  rw [← hW0] at H K0 F0 D0
  rw [← hW0]
  clear hW0
  go_loopw [0, 1] (fun x y wr => ∃ (k t m : Nat) (A' : Option Addr) (c' : Nat), k ≤ a ∧ k + t = n ∧ x = .int .i64 (low + k) ∧ y = .slice A' t c' ∧ t ≤ c' ∧ c' ≤ 9223372036854775807 ∧ Mine W0 lo hi A' t (Lau.cut l k n) ∧ wr = W0.drewN m) (fun x _ _ => a - (intOf x - low).toNat)
  case atStart => exact ⟨0, n, 0, A, c, Nat.zero_le _, by omega, by simp, rfl, hnc, hc, by have := Lau.cut_all l; rw [hl.out] at this; rw [this]; exact H.out, rfl⟩
  case round =>
    obtain ⟨k, t, m, A', c', hk, hkt, rfl, rfl, htc, hc', hM, rfl⟩ := hrel
    have HM := Lib.hid hM
    have KT := Lib.hid hkt
    clear hM
    by_cases hlt : k < a
    · obtain ⟨t', rfl⟩ : ∃ t', t = t' + 1 := ⟨t - 1, by omega⟩
      obtain ⟨c'', rfl⟩ : ∃ c'', c' = c'' + 1 := ⟨c' - 1, by omega⟩
      obtain ⟨b', off, z, rfl, _, _, hz, hcz, _⟩ := HM.out.at_ (k := 0) (by omega)
      rw [Lau.cut_at (by omega), Nat.add_zero] at hz
      have z0 : z = 0 := by rw [← hz]; exact T.out.lo k hlt
      subst z0
      have hcz' : W0.cell? ⟨b', off, none⟩ = some (.int .i64 0) := by simpa using hcz
      have ws : IntKind.i64.wrap (low + (k : Int) + 1) = low + (k : Int) + 1 := IntWalk.i64_in _ (by omega)
      have NX := Lib.hid (show low + (k : Int) + 1 = low + ((k + 1 : Nat) : Int) by omega)
      clear hz hcz hkt
      by_cases hcc : c'' = 0
      · have ht0 : t' = 0 := by omega
        subst hcc
        subst ht0
        go_wp2
        go_quiet (fail)
        all_goals
          go_wp2
          go_roundw
          case rel => exact ⟨k + 1, 0, _, _, 0, by omega, by have := KT.out; omega, by rw [NX.out], rfl, by omega, by omega, by rw [show n = k + 1 by have := KT.out; omega, Lau.cut_none]; exact Mine.none_ _ _ _ _, by rw [World.drewN_drewN]⟩
          case measure => simp [intOf]; omega
      · go_wp2
        go_quiet (fail)
        all_goals
          go_wp2
          go_roundw
          case rel => exact ⟨k + 1, t', _, _, c'', by omega, by have := KT.out; omega, by rw [NX.out], rfl, by omega, by omega, HM.out.tail (by rw [hl.out]; exact Nat.le_refl _) KT.out, by rw [World.drewN_drewN]⟩
          case measure => simp [intOf]; omega
    · obtain rfl : k = a := by omega
      have DM := Lib.hid (Go.Joins.below_draws W0.heap.size W0 m)
      by_cases hkn : k = n
      · obtain rfl : t = 0 := by omega
        have EB := Lib.hid (show k = b from by have := T.out.ab; have := T.out.bn; have := hl.out; omega)
        obtain ⟨n0, n1⟩ := K0.out
        have f0 := F0.out
        unfold Free at f0
        go_wp2
        refine bodyPost_ret (v := .tuple #[.agg #[.int .i64 0, .slice none 0 0], .int .i64 0]) (by simp [results, Try.results16, n0, n1, go_sem]) rfl ⟨fun _ => ⟨none, 0, rfl, Mine.none_ _ _ _ _, ?_⟩, fun h => absurd EB.out (by omega), fun h => absurd EB.out (by omega)⟩
        exact ((D0.out.trans (DM.out.mono (by omega))).setCell (by simp) _).setCell (by simp) _
      · have AB := Lib.hid (show k < b from by have := T.out.ab; have := T.out.none_; have := hl.out; omega)
        obtain ⟨t', rfl⟩ : ∃ t', t = t' + 1 := ⟨t - 1, by omega⟩
        obtain ⟨b', off, z, rfl, _, _, hz, hcz, _⟩ := HM.out.at_ (k := 0) (by omega)
        rw [Lau.cut_at (by omega), Nat.add_zero] at hz
        have z0 : ¬ z = 0 := by rw [← hz]; exact T.out.first AB.out
        have t1 : (z == 0) = false := by simpa using z0
        have hcz' : W0.cell? ⟨b', off, none⟩ = some (.int .i64 z) := by simpa using hcz
        clear hz hcz z0 hkt
        go_wp2
        have H2 := Lib.hid (HM.out.drewN m)
        have K2 := Lib.hid (show BoxG (W0.drewN m) w.heap.size (.int .i64 0) (.slice none 0 0) from K0.out)
        have F2 := Lib.hid (show Free (W0.drewN m) w.heap.size from F0.out)
        have D2 := Lib.hid (D0.out.trans (DM.out.mono (by omega)))
        have s2 : w.heap.size < (W0.drewN m).heap.size := s0
        have h2 : hi ≤ (W0.drewN m).heap.size := by show hi ≤ W0.heap.size; omega
        have HT := Lib.hid (show k + (t' + 1) = n from KT.out)
        obtain ⟨W1, hW1⟩ : ∃ W1, W1 = W0.drewN m := ⟨_, rfl⟩
        rw [← hW1] at H2 K2 F2 D2 s2 h2
        rw [← hW1]
        clear hW1 HM K0 F0 D0 DM hcz' H
        go_loop [1] (fun y => ∃ (t e : Nat) (c' : Nat), k + (t + 1) = e ∧ b ≤ e ∧ e ≤ n ∧ y = .slice (some ⟨b', off, none⟩) (t + 1) c' ∧ t + 1 ≤ c' ∧ c' ≤ 9223372036854775807 ∧ Mine W1 lo hi (some ⟨b', off, none⟩) (t + 1) (Lau.cut l k e)) (fun y => match y with | .slice _ t _ => t | _ => 0)
        case atStart => exact ⟨t', n, c', HT.out, by have := T.out.bn; have := hl.out; omega, Nat.le_refl _, rfl, htc, hc', H2.out⟩
        case round =>
          obtain ⟨t, e, c2, hte, hbe, hen, rfl, htc2, hc2, hM⟩ := hrel
          have HM := Lib.hid hM
          have TE := Lib.hid hte
          obtain ⟨b3, off3, z3, e3, _, _, hz3, hcz3, _⟩ := HM.out.at_ (k := t) (by omega)
          cases e3
          rw [Lau.cut_at (by omega), show k + t = e - 1 by omega] at hz3
          by_cases hlt : b < e
          · have z0 : z3 = 0 := by rw [← hz3]; exact T.out.hi _ (by omega) (by have := hl.out; omega)
            subst z0
            obtain ⟨t2, rfl⟩ : ∃ t2, t = t2 + 1 := ⟨t - 1, by have := AB.out; omega⟩
            clear hz3 hte hM
            go_wp2
            go_round
            case rel => exact ⟨t2, e - 1, c2, by have := TE.out; omega, by omega, by omega, rfl, by omega, hc2, HM.out.init (by have := hl.out; omega) TE.out⟩
            case measure => simp
          · obtain rfl : e = b := by omega
            have z0 : ¬ z3 = 0 := by rw [← hz3]; exact T.out.last AB.out
            have t3 : (z3 == 0) = false := by simpa using z0
            clear hz3 hte hM z0
            have hel : (Lau.cut l k e).length = t + 1 := by rw [Lau.cut_len (by have := hl.out; omega)]; have := TE.out; omega
            obtain ⟨zs, hzs⟩ : ∃ zs, Lau.cut l k e = zs := ⟨_, rfl⟩
            rw [hzs] at hel HM
            have ZE := Lib.hid hzs
            have ZL := Lib.hid hel
            clear hzs hel
            have P1 := Lib.hid (BoxG.new W1 26 (.int .i64 (low + (k : Int))) (.slice (some ⟨b', off, none⟩) (t + 1) c2))
            by_cases hok : Lau.LOk (low + (k : Int)) zs
            · have OK := Lib.hid hok
              clear hok
              go_wp2_with fail
              refine (isLi_yes _ _ _ _ zs _ ((HM.out.ints.more h2).into (al1 _ _)) (by have := TE.out; omega) OK.out).mono ?_
              rintro e3 w3 ⟨rfl, hb⟩
              have P3 := Lib.hid (P1.out.below hb (by simp))
              have K3 := Lib.hid (K2.out.below (on1 _ hb) s2)
              have F3 := Lib.hid (F2.out.below (on1 _ hb) s2)
              have D3 := Lib.hid (D2.out.trans ((on1 _ hb).mono (by omega)))
              have M3 := Lib.hid (HM.out.below (on1 _ hb) h2)
              have s3 : W1.heap.size < w3.heap.size := by have := hb.size; simp at this; omega
              clear hb P1 K2 F2 D2 HM
              obtain ⟨p0, p1⟩ := P3.out
              obtain ⟨n0, n1⟩ := K3.out
              have f0 := F3.out
              unfold Free at f0
              go_wp2
              refine bodyPost_ret (v := .tuple #[.agg #[.int .i64 (low + (k : Int)), .slice (some ⟨b', off, none⟩) (t + 1) c2], .int .i64 0]) (by simp [results, Try.results16, n0, n1, go_sem]) rfl ?_
              rw [ZE.out]
              refine ⟨fun h => absurd AB.out (by omega), fun _ _ => ⟨some ⟨b', off, none⟩, c2, by rw [ZL.out], ?_, ?_⟩, fun _ h => absurd OK.out h⟩
              · rw [ZL.out]
                exact (M3.out.far (p := ⟨w.heap.size, 0, none⟩) (.inr hhi) _).far (p := ⟨w.heap.size, 1, none⟩) (.inr hhi) _
              · exact (D3.out.setCell (by simp) _).setCell (by simp) _
            · have OK := Lib.hid hok
              clear hok
              go_wp2_with fail
              refine (isLi_no _ _ _ _ zs _ ((HM.out.ints.more h2).into (al1 _ _)) (by have := TE.out; omega) OK.out).mono ?_
              rintro e3 w3 ⟨rfl, hb⟩
              have P3 := Lib.hid (P1.out.below hb (by simp))
              have K3 := Lib.hid (K2.out.below (on1 _ hb) s2)
              have F3 := Lib.hid (F2.out.below (on1 _ hb) s2)
              have D3 := Lib.hid (D2.out.trans ((on1 _ hb).mono (by omega)))
              have M3 := Lib.hid (HM.out.below (on1 _ hb) h2)
              have s3 : W1.heap.size < w3.heap.size := by have := hb.size; simp at this; omega
              clear hb P1 K2 F2 D2 HM
              obtain ⟨p0, p1⟩ := P3.out
              obtain ⟨n0, n1⟩ := K3.out
              have f0 := F3.out
              unfold Free at f0
              go_wp2
              refine bodyPost_ret (v := .tuple #[.agg #[.int .i64 0, .slice none 0 0], .int .i64 3]) (by simp [results, Try.results16, n0, n1, go_sem]) rfl ?_
              rw [ZE.out]
              refine ⟨fun h => absurd AB.out (by omega), fun _ h => absurd h OK.out, fun _ _ => ⟨none, 0, rfl, Mine.none_ _ _ _ _, ?_⟩⟩
              exact (D3.out.setCell (by simp) _).setCell (by simp) _

end Go.Proofs.Ytpkjjcfcpmcdiaa
