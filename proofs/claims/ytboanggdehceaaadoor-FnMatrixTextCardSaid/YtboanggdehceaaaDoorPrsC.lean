/- Contract of the program's function that cuts a number off a text. No condition but those that each theorem names. -/
import Derived.Test.YtboanggdehceaaaDoorPrsB
namespace Go.Proofs.YtboanggdehceaaaDoor
open Go.RowKit

/-- What is cut off a text. -/
def CutR (w : World) (l : List UInt8) (e : Ending) (w' : World) : Prop :=
  ((∃ v rest, Prs.Cut l v rest ∧ e = .returned (.tuple #[.int .i64 v, .string ⟨rest.toArray⟩, .bool true])) ∨ ((¬ ∃ v rest, Prs.Cut l v rest) ∧ e = .returned (.tuple #[.int .i64 0, .string ⟨#[]⟩, .bool false]))) ∧ Below w.heap.size w w'
theorem run_exists (d : List UInt8) : ∃ m, Prs.RunIs d m := by
  have : ∀ k, k ≤ d.length → (∀ i, i < k → Prs.D (d.getD i 0)) ∨ ∃ m, Prs.RunIs d m := by
    intro k
    induction k with
    | zero => intro _; exact .inl fun i hi => by omega
    | succ k ih =>
      intro hk
      rcases ih (by omega) with h | h
      · by_cases hd : Prs.D (d.getD k 0)
        · exact .inl fun i hi => by
            by_cases e : i = k
            · rw [e]; exact hd
            · exact h i (by omega)
        · exact .inr ⟨k, by omega, h, fun _ => hd⟩
      · exact .inr h
  rcases this d.length (Nat.le_refl _) with h | h
  · exact ⟨d.length, Nat.le_refl _, h, fun h => by omega⟩
  · exact h
theorem body_len (l : List UInt8) : (Prs.body l).length ≤ l.length := by
  unfold Prs.body
  split
  · simp
  · exact Nat.le_refl _
theorem pow13 {k : Nat} (h : k ≤ 13) : (10 : Nat) ^ k ≤ 10000000000000 := Nat.le_trans (Nat.pow_le_pow_right (by omega) h) (by decide)

set_option maxRecDepth 100000 in
set_option maxHeartbeats 8000000 in
theorem cut_impl (l : List UInt8) (w : World) (hl : l.length ≤ 1048576) : Calls Tryd.prog 43 #[.string ⟨l.toArray⟩] w (CutR w l) := by
  have BL := body_len l
  obtain ⟨d, hd⟩ : ∃ d, Prs.body l = d := ⟨_, rfl⟩
  have HD := Lib.hid hd
  have CP := Lib.hid (cutPrefix_minus l w hl)
  rw [hd] at CP BL
  obtain ⟨ng, hng⟩ : ∃ ng, Prs.neg l = ng := ⟨_, rfl⟩
  have HN := Lib.hid hng
  rw [hng] at CP
  have NO := Lib.hid (fun m (h : Prs.RunIs d m) (hz : m = 0 ∨ 13 < m ∨ (d.getD 0 0 = 48 ∧ (1 < m ∨ ng = true))) => Prs.cut_no (s := l) (m := m) (by rw [hd]; exact h) (by rw [hd, hng]; exact hz))
  have YES := Lib.hid (fun m (h : Prs.RunIs d m) (h0 : 0 < m) (h1 : m ≤ 13) (hz : ¬ (d.getD 0 0 = 48 ∧ (1 < m ∨ ng = true))) => Prs.cut_yes (s := l) (m := m) (by rw [hd]; exact h) h0 h1 (by rw [hd, hng]; exact hz))
  clear hd hng
  have RE := Lib.hid (run_exists d)
  go_enter Tryd.func43, Tryd.ntmps43
  go_wp2_with fail
  refine CP.out.mono ?_
  rintro e w1 ⟨rfl, rfl⟩
  go_wp2
  go_loop [7, 8] (fun y x => ∃ k : Nat, k ≤ d.length ∧ k ≤ 13 ∧ x = .int .i64 k ∧ y = .int .i64 (Prs.vl d k : Nat) ∧ ∀ i, i < k → Prs.D (d.getD i 0)) (fun _ x => d.length - (intOf x).toNat)
  case atStart => exact ⟨0, Nat.zero_le _, Nat.zero_le _, rfl, rfl, fun i hi => by omega⟩
  case round =>
    obtain ⟨k, hk, hk13, rfl, rfl, hin⟩ := hrel
    have HI := Lib.hid hin
    have VL := Prs.vl_lt hin
    have P13 := pow13 hk13
    clear hin
    obtain ⟨v, hv⟩ : ∃ v, Prs.vl d k = v := ⟨_, rfl⟩
    have HV := Lib.hid hv
    rw [hv] at VL
    rw [hv]
    have v0 : v < 10000000000000 := by omega
    clear hv VL P13
    have i0 : (0 : Int) ≤ (k : Int) := by omega
    by_cases hdig : k < d.length ∧ Prs.D (d.getD k 0)
    · obtain ⟨hlt, hdg⟩ := hdig
      have i1 : (k : Int) < (d.length : Int) := by omega
      have hb := byte_at d hlt
      obtain ⟨x, hx⟩ : ∃ x, d.getD k 0 = x := ⟨_, rfl⟩
      rw [hx] at hb hdg
      have HX := Lib.hid hx
      have HG := Lib.hid hdg
      unfold Prs.D at hdg
      have g1 : (48 : Int) ≤ (x.toNat : Int) := by omega
      have g2 : (x.toNat : Int) ≤ 57 := by omega
      clear hx hdg
      by_cases h13 : k = 13
      · have t13 : ((k : Int) == 13) = true := by simp; omega
        have HK := Lib.hid h13
        clear h13
        have NC := Lib.hid (show ¬ ∃ v rest, Prs.Cut l v rest from by
          obtain ⟨m, hm⟩ := RE.out
          refine NO.out m hm (.inr (.inl ?_))
          rcases Nat.lt_or_ge 13 m with h | h
          · exact h
          · refine absurd ?_ (hm.2.2 (by have := HK.out; omega))
            by_cases e : m = 13
            · rw [e, ← HK.out, HX.out]; exact HG.out
            · exact HI.out m (by have := HK.out; omega))
        go_wp2
        exact bodyPost_ret (v := .tuple #[.int .i64 0, .string ⟨#[]⟩, .bool false]) (by simp [results, Tryd.results43, go_sem]) rfl ⟨.inr ⟨NC.out, rfl⟩, Below.refl _ _⟩
      · have t13 : ((k : Int) == 13) = false := by simp; omega
        have hk2 : k < 13 := by omega
        have ws1 : IntKind.i64.wrap ((v : Int) * 10) = (v : Int) * 10 := IntWalk.i64_in _ (by omega)
        have ws2 : IntKind.u8.wrap ((x.toNat : Int) - 48) = (x.toNat : Int) - 48 := by
          obtain ⟨y, hy⟩ : ∃ y : Nat, (x.toNat : Int) - 48 = y := ⟨x.toNat - 48, by omega⟩
          rw [hy]
          have hy9 : y ≤ 9 := by omega
          have : ∀ y : Fin 10, IntKind.u8.wrap ((y.val : Nat) : Int) = ((y.val : Nat) : Int) := by decide
          exact this ⟨y, by omega⟩
        have ws3 : IntKind.i64.wrap ((x.toNat : Int) - 48) = (x.toNat : Int) - 48 := IntWalk.i64_in _ (by omega)
        have ws4 : IntKind.i64.wrap ((v : Int) * 10 + ((x.toNat : Int) - 48)) = (v : Int) * 10 + ((x.toNat : Int) - 48) := IntWalk.i64_in _ (by omega)
        have HV2 := Lib.hid (show (v : Int) * 10 + ((x.toNat : Int) - 48) = ((Prs.vl d (k + 1) : Nat) : Int) from by rw [Prs.vl, HV.out, HX.out]; omega)
        clear h13
        go_wp2
        go_round
        case rel => exact ⟨k + 1, by omega, by omega, by go_num, by rw [HV2.out], fun i hi => (if e : i = k then (by rw [e, HX.out]; exact HG.out) else HI.out i (by omega))⟩
        case measure => simp [intOf]; omega
    · have hrun : Prs.RunIs d k := ⟨hk, HI.out, fun h hh => hdig ⟨h, hh⟩⟩
      have HR := Lib.hid hrun
      clear hrun
      have hexit : (k = d.length ∧ True) ∨ (k < d.length ∧ ¬ Prs.D (d.getD k 0)) := by
        by_cases h : k < d.length
        · exact .inr ⟨h, fun hh => hdig ⟨h, hh⟩⟩
        · exact .inl ⟨by omega, trivial⟩
      clear hdig
      -- where it ends, the same way goes on
      by_cases hk0 : k = 0
      · subst hk0
        have NC := Lib.hid (NO.out 0 HR.out (.inl rfl))
        rcases hexit with ⟨he, _⟩ | ⟨hlt, hdg⟩
        · have i1 : ¬ ((0 : Nat) : Int) < (d.length : Int) := by omega
          have i2 : ¬ (0 : Int) < (d.length : Int) := by omega
          go_wp2
          exact bodyPost_ret (v := .tuple #[.int .i64 0, .string ⟨#[]⟩, .bool false]) (by simp [results, Tryd.results43, go_sem]) rfl ⟨.inr ⟨NC.out, rfl⟩, Below.refl _ _⟩
        · have hb := byte_at d hlt
          obtain ⟨x, hx⟩ : ∃ x, d.getD 0 0 = x := ⟨_, rfl⟩
          rw [hx] at hb hdg
          clear hx
          unfold Prs.D at hdg
          have i2 : (0 : Int) < (d.length : Int) := by omega
          by_cases hlo : 48 ≤ x.toNat
          · have g1 : (48 : Int) ≤ (x.toNat : Int) := by omega
            have g2 : ¬ (x.toNat : Int) ≤ 57 := by omega
            go_wp2
            exact bodyPost_ret (v := .tuple #[.int .i64 0, .string ⟨#[]⟩, .bool false]) (by simp [results, Tryd.results43, go_sem]) rfl ⟨.inr ⟨NC.out, rfl⟩, Below.refl _ _⟩
          · have g1 : ¬ (48 : Int) ≤ (x.toNat : Int) := by omega
            go_wp2
            exact bodyPost_ret (v := .tuple #[.int .i64 0, .string ⟨#[]⟩, .bool false]) (by simp [results, Tryd.results43, go_sem]) rfl ⟨.inr ⟨NC.out, rfl⟩, Below.refl _ _⟩
      have k1 : 0 < k := by omega
      have d0 : 0 < d.length := by have := HR.out.1; omega
      have kd0 : ((k : Int) == 0) = false := by simp; omega
      have hb0 := byte_at d d0
      obtain ⟨x0, hx0'⟩ : ∃ x0, d.getD 0 0 = x0 := ⟨_, rfl⟩
      rw [hx0'] at hb0
      have HX0 := Lib.hid hx0'
      clear hx0'
      have he := drop_text d k
      have kl : (k : Int) ≤ (d.length : Int) := by omega
      have dl : (0 : Int) < (d.length : Int) := by omega
      have wn : IntKind.i64.wrap (-(v : Int)) = -(v : Int) := IntWalk.i64_in _ (by omega)
      rcases hexit with ⟨hz, _⟩ | ⟨hlt, hdg⟩
      · have i1 : ¬ (k : Int) < (d.length : Int) := by omega
        clear hz
        by_cases hx0 : x0 = 48
        · have q0 : ((x0.toNat : Int) == 48) = true := by rw [hx0]; rfl
          have X48 := Lib.hid (show d.getD 0 0 = 48 from HX0.out.trans hx0)
          clear hx0
          by_cases hk1 : 1 < k
          · have q1 : (1 : Int) < (k : Int) := by omega
            have NC := Lib.hid (NO.out k HR.out (.inr (.inr ⟨X48.out, .inl hk1⟩)))
            go_wp2
            exact bodyPost_ret (v := .tuple #[.int .i64 0, .string ⟨#[]⟩, .bool false]) (by simp [results, Tryd.results43, go_sem]) rfl ⟨.inr ⟨NC.out, rfl⟩, Below.refl _ _⟩
          · have q1 : ¬ (1 : Int) < (k : Int) := by omega
            cases ng with
            | true =>
              have NC := Lib.hid (NO.out k HR.out (.inr (.inr ⟨X48.out, .inr rfl⟩)))
              go_wp2
              exact bodyPost_ret (v := .tuple #[.int .i64 0, .string ⟨#[]⟩, .bool false]) (by simp [results, Tryd.results43, go_sem]) rfl ⟨.inr ⟨NC.out, rfl⟩, Below.refl _ _⟩
            | false =>
              have YC := Lib.hid (show Prs.Cut l ((v : Int)) (d.drop k) from by
                have := YES.out k HR.out (by omega) hk13 (fun h => h.2.elim (fun h => hk1 h) (fun h => by simp at h))
                rw [HN.out, HD.out, if_neg (by simp), HV.out] at this
                exact this)
              go_wp2
              go_quiet (fail)
              all_goals
                go_wp2
                exact bodyPost_ret (v := .tuple #[.int .i64 ((v : Int)), .string ⟨(d.drop k).toArray⟩, .bool true]) (by simp [results, Tryd.results43, go_sem]) rfl ⟨.inl ⟨_, _, YC.out, rfl⟩, Go.Joins.below_draws _ _ _⟩
        · have q0 : ((x0.toNat : Int) == 48) = false := by
            simp
            intro e
            exact hx0 (UInt8.toNat_inj.1 (by rw [show x0.toNat = 48 by omega]; rfl))
          have X48 := Lib.hid (show ¬ d.getD 0 0 = 48 from by rw [HX0.out]; exact hx0)
          clear hx0
          cases ng with
          | true =>
            have YC := Lib.hid (show Prs.Cut l (-(v : Int)) (d.drop k) from by
              have := YES.out k HR.out (by omega) hk13 (fun h => X48.out h.1)
              rw [HN.out, HD.out, if_pos rfl, HV.out] at this
              exact this)
            go_wp2
            go_quiet (fail)
            all_goals
              go_wp2
              exact bodyPost_ret (v := .tuple #[.int .i64 (-(v : Int)), .string ⟨(d.drop k).toArray⟩, .bool true]) (by simp [results, Tryd.results43, go_sem]) rfl ⟨.inl ⟨_, _, YC.out, rfl⟩, Go.Joins.below_draws _ _ _⟩
          | false =>
            have YC := Lib.hid (show Prs.Cut l ((v : Int)) (d.drop k) from by
              have := YES.out k HR.out (by omega) hk13 (fun h => X48.out h.1)
              rw [HN.out, HD.out, if_neg (by simp), HV.out] at this
              exact this)
            go_wp2
            go_quiet (fail)
            all_goals
              go_wp2
              exact bodyPost_ret (v := .tuple #[.int .i64 ((v : Int)), .string ⟨(d.drop k).toArray⟩, .bool true]) (by simp [results, Tryd.results43, go_sem]) rfl ⟨.inl ⟨_, _, YC.out, rfl⟩, Go.Joins.below_draws _ _ _⟩
      · have i1 : (k : Int) < (d.length : Int) := by omega
        have hb := byte_at d hlt
        obtain ⟨x, hx⟩ : ∃ x, d.getD k 0 = x := ⟨_, rfl⟩
        rw [hx] at hb hdg
        clear hx
        unfold Prs.D at hdg
        by_cases hlo : 48 ≤ x.toNat
        · have g1 : (48 : Int) ≤ (x.toNat : Int) := by omega
          have g2 : ¬ (x.toNat : Int) ≤ 57 := by omega
          clear hlo hdg
          by_cases hx0 : x0 = 48
          · have q0 : ((x0.toNat : Int) == 48) = true := by rw [hx0]; rfl
            have X48 := Lib.hid (show d.getD 0 0 = 48 from HX0.out.trans hx0)
            clear hx0
            by_cases hk1 : 1 < k
            · have q1 : (1 : Int) < (k : Int) := by omega
              have NC := Lib.hid (NO.out k HR.out (.inr (.inr ⟨X48.out, .inl hk1⟩)))
              go_wp2
              exact bodyPost_ret (v := .tuple #[.int .i64 0, .string ⟨#[]⟩, .bool false]) (by simp [results, Tryd.results43, go_sem]) rfl ⟨.inr ⟨NC.out, rfl⟩, Below.refl _ _⟩
            · have q1 : ¬ (1 : Int) < (k : Int) := by omega
              cases ng with
              | true =>
                have NC := Lib.hid (NO.out k HR.out (.inr (.inr ⟨X48.out, .inr rfl⟩)))
                go_wp2
                exact bodyPost_ret (v := .tuple #[.int .i64 0, .string ⟨#[]⟩, .bool false]) (by simp [results, Tryd.results43, go_sem]) rfl ⟨.inr ⟨NC.out, rfl⟩, Below.refl _ _⟩
              | false =>
                have YC := Lib.hid (show Prs.Cut l ((v : Int)) (d.drop k) from by
                  have := YES.out k HR.out (by omega) hk13 (fun h => h.2.elim (fun h => hk1 h) (fun h => by simp at h))
                  rw [HN.out, HD.out, if_neg (by simp), HV.out] at this
                  exact this)
                go_wp2
                go_quiet (fail)
                all_goals
                  go_wp2
                  exact bodyPost_ret (v := .tuple #[.int .i64 ((v : Int)), .string ⟨(d.drop k).toArray⟩, .bool true]) (by simp [results, Tryd.results43, go_sem]) rfl ⟨.inl ⟨_, _, YC.out, rfl⟩, Go.Joins.below_draws _ _ _⟩
          · have q0 : ((x0.toNat : Int) == 48) = false := by
              simp
              intro e
              exact hx0 (UInt8.toNat_inj.1 (by rw [show x0.toNat = 48 by omega]; rfl))
            have X48 := Lib.hid (show ¬ d.getD 0 0 = 48 from by rw [HX0.out]; exact hx0)
            clear hx0
            cases ng with
            | true =>
              have YC := Lib.hid (show Prs.Cut l (-(v : Int)) (d.drop k) from by
                have := YES.out k HR.out (by omega) hk13 (fun h => X48.out h.1)
                rw [HN.out, HD.out, if_pos rfl, HV.out] at this
                exact this)
              go_wp2
              go_quiet (fail)
              all_goals
                go_wp2
                exact bodyPost_ret (v := .tuple #[.int .i64 (-(v : Int)), .string ⟨(d.drop k).toArray⟩, .bool true]) (by simp [results, Tryd.results43, go_sem]) rfl ⟨.inl ⟨_, _, YC.out, rfl⟩, Go.Joins.below_draws _ _ _⟩
            | false =>
              have YC := Lib.hid (show Prs.Cut l ((v : Int)) (d.drop k) from by
                have := YES.out k HR.out (by omega) hk13 (fun h => X48.out h.1)
                rw [HN.out, HD.out, if_neg (by simp), HV.out] at this
                exact this)
              go_wp2
              go_quiet (fail)
              all_goals
                go_wp2
                exact bodyPost_ret (v := .tuple #[.int .i64 ((v : Int)), .string ⟨(d.drop k).toArray⟩, .bool true]) (by simp [results, Tryd.results43, go_sem]) rfl ⟨.inl ⟨_, _, YC.out, rfl⟩, Go.Joins.below_draws _ _ _⟩
        · have g1 : ¬ (48 : Int) ≤ (x.toNat : Int) := by omega
          clear hlo hdg
          by_cases hx0 : x0 = 48
          · have q0 : ((x0.toNat : Int) == 48) = true := by rw [hx0]; rfl
            have X48 := Lib.hid (show d.getD 0 0 = 48 from HX0.out.trans hx0)
            clear hx0
            by_cases hk1 : 1 < k
            · have q1 : (1 : Int) < (k : Int) := by omega
              have NC := Lib.hid (NO.out k HR.out (.inr (.inr ⟨X48.out, .inl hk1⟩)))
              go_wp2
              exact bodyPost_ret (v := .tuple #[.int .i64 0, .string ⟨#[]⟩, .bool false]) (by simp [results, Tryd.results43, go_sem]) rfl ⟨.inr ⟨NC.out, rfl⟩, Below.refl _ _⟩
            · have q1 : ¬ (1 : Int) < (k : Int) := by omega
              cases ng with
              | true =>
                have NC := Lib.hid (NO.out k HR.out (.inr (.inr ⟨X48.out, .inr rfl⟩)))
                go_wp2
                exact bodyPost_ret (v := .tuple #[.int .i64 0, .string ⟨#[]⟩, .bool false]) (by simp [results, Tryd.results43, go_sem]) rfl ⟨.inr ⟨NC.out, rfl⟩, Below.refl _ _⟩
              | false =>
                have YC := Lib.hid (show Prs.Cut l ((v : Int)) (d.drop k) from by
                  have := YES.out k HR.out (by omega) hk13 (fun h => h.2.elim (fun h => hk1 h) (fun h => by simp at h))
                  rw [HN.out, HD.out, if_neg (by simp), HV.out] at this
                  exact this)
                go_wp2
                go_quiet (fail)
                all_goals
                  go_wp2
                  exact bodyPost_ret (v := .tuple #[.int .i64 ((v : Int)), .string ⟨(d.drop k).toArray⟩, .bool true]) (by simp [results, Tryd.results43, go_sem]) rfl ⟨.inl ⟨_, _, YC.out, rfl⟩, Go.Joins.below_draws _ _ _⟩
          · have q0 : ((x0.toNat : Int) == 48) = false := by
              simp
              intro e
              exact hx0 (UInt8.toNat_inj.1 (by rw [show x0.toNat = 48 by omega]; rfl))
            have X48 := Lib.hid (show ¬ d.getD 0 0 = 48 from by rw [HX0.out]; exact hx0)
            clear hx0
            cases ng with
            | true =>
              have YC := Lib.hid (show Prs.Cut l (-(v : Int)) (d.drop k) from by
                have := YES.out k HR.out (by omega) hk13 (fun h => X48.out h.1)
                rw [HN.out, HD.out, if_pos rfl, HV.out] at this
                exact this)
              go_wp2
              go_quiet (fail)
              all_goals
                go_wp2
                exact bodyPost_ret (v := .tuple #[.int .i64 (-(v : Int)), .string ⟨(d.drop k).toArray⟩, .bool true]) (by simp [results, Tryd.results43, go_sem]) rfl ⟨.inl ⟨_, _, YC.out, rfl⟩, Go.Joins.below_draws _ _ _⟩
            | false =>
              have YC := Lib.hid (show Prs.Cut l ((v : Int)) (d.drop k) from by
                have := YES.out k HR.out (by omega) hk13 (fun h => X48.out h.1)
                rw [HN.out, HD.out, if_neg (by simp), HV.out] at this
                exact this)
              go_wp2
              go_quiet (fail)
              all_goals
                go_wp2
                exact bodyPost_ret (v := .tuple #[.int .i64 ((v : Int)), .string ⟨(d.drop k).toArray⟩, .bool true]) (by simp [results, Tryd.results43, go_sem]) rfl ⟨.inl ⟨_, _, YC.out, rfl⟩, Go.Joins.below_draws _ _ _⟩
end Go.Proofs.YtboanggdehceaaaDoor
