/- The specification's l03Form, its list owned; a number pushed to an owned list. No condition but those that each theorem names. -/
import Derived.Test.YtpkjjcfcpmcdiaaLauW
import Derived.Test.YtpkjjcfcpmcdiaaDrwA
import Derived.Laws.AppendOwn
import Derived.Laws.OwnMore
namespace Go.Proofs.Ytpkjjcfcpmcdiaa
open Go.RowKit

/-- A polynomial whose list is owned. -/
def ResO1 (w : World) (r : Int) (zs : List Int) (e : Ending) (w' : World) : Prop :=
  ∃ A c, e = .returned (.agg #[.int .i64 r, .slice A zs.length c]) ∧ Own w' w.heap.size w'.heap.size A zs.length c zs ∧ Below w.heap.size w w'
def FormO (w : World) (low : Int) (l : List Int) (a b : Nat) (e : Ending) (w' : World) : Prop := (a = b → ResO1 w 0 [] e w') ∧ (a < b → ResO1 w (low + a) (Lau.cut l a b) e w')

set_option maxRecDepth 100000 in
set_option maxHeartbeats 4000000 in
theorem form_specO (low : Int) (A : Option Addr) (n c : Nat) (l : List Int) (a b : Nat) (w : World) (h : Ints w w.heap.size A n l) (hnc : n ≤ c) (hn : n ≤ 1048576) (hc : c ≤ maxLen) (l0 : -1000000 ≤ low) (l1 : low ≤ 1000000) (hT : Lau.Trimmed l a b) :
    Calls Try.prog 23 #[.int .i64 low, .slice A n c] w (FormO w low l a b) := by
  have hl := Lib.hid h.1
  have hal : a ≤ n := by have := hT.ab; have := hT.bn; have := hl.out; omega
  have T := Lib.hid hT
  have H := Lib.hid (h.into (al1 w (Obj.cells #[.int .i64 0, .slice none 0 0] 26)))
  have K0 := Lib.hid (BoxG.new w 26 (.int .i64 0) (.slice none 0 0))
  have F0 := Lib.hid (Free.new w 26 #[.int .i64 0, .slice none 0 0])
  have D0 := Lib.hid (al1 w (Obj.cells #[.int .i64 0, .slice none 0 0] 26))
  obtain ⟨ti, hi0, hz0, hz1, hz2⟩ := info_parts info2
  have HI := Lib.hid (And.intro hi0 (And.intro hz0 (And.intro hz1 hz2)))
  unfold maxLen at hc
  clear h hT hi0 hz0 hz1 hz2
  go_enter Try.func23, Try.ntmps23
  go_wp2
  obtain ⟨W0, hW0⟩ : ∃ W0, W0 = w.alloc (Obj.cells #[.int .i64 0, .slice none 0 0] 26) := ⟨_, rfl⟩
  have s0 : w.heap.size < W0.heap.size := by rw [hW0]; simp
  rw [← hW0] at H K0 F0 D0
  rw [← hW0]
  clear hW0
  go_loop [5] (fun x => ∃ k : Nat, k ≤ a ∧ x = .int .i64 k) (fun x => a - (intOf x).toNat)
  case atStart => exact ⟨0, Nat.zero_le _, rfl⟩
  case round =>
    obtain ⟨k, hk, rfl⟩ := hrel
    by_cases hlt : k < a
    · obtain ⟨b', off, z, rfl, _, hz, hcz⟩ := H.out.at_z (k := k) (by omega)
      have z0 : z = 0 := by rw [← hz]; exact T.out.lo k hlt
      subst z0
      have d1 : decide ((k : Int) < (n : Int)) = true := by simp; omega
      have i0 : (0 : Int) ≤ (k : Int) := by omega
      have i1 : (k : Int) < (n : Int) := by omega
      clear hz
      go_wp2
      go_round
      case rel => exact ⟨k + 1, by omega, by go_num⟩
      case measure => simp [intOf]; omega
    · obtain rfl : k = a := by omega
      by_cases hkn : k = n
      · have EB := Lib.hid (show k = b from by have := T.out.ab; have := T.out.bn; have := hl.out; omega)
        have d1 : decide ((k : Int) < (n : Int)) = false := by simp; omega
        have e1 : ((k : Int) == (n : Int)) = true := by simp; omega
        obtain ⟨n0, n1⟩ := K0.out
        have f0 := F0.out
        unfold Free at f0
        go_wp2
        go_loop [6] (fun y => y = .int .i64 n) (fun y => 0)
        case atStart => rfl
        case round =>
          subst hrel
          go_wp2
          refine bodyPost_ret (v := .agg #[.int .i64 0, .slice none 0 0]) (by simp [results, Try.results23, n0, n1, go_sem]) rfl ⟨fun _ => ⟨none, 0, rfl, Own.none_ _ _ _, ?_⟩, fun h => absurd EB.out (by omega)⟩
          exact (D0.out.setCell (by simp) _).setCell (by simp) _
      · have AB := Lib.hid (show k < b from by have := T.out.ab; have := T.out.none_; have := hl.out; omega)
        obtain ⟨b', off, z, rfl, _, hz, hcz⟩ := H.out.at_z (k := k) (by omega)
        have z0 : ¬ z = 0 := by rw [← hz]; exact T.out.first AB.out
        have t1 : (z == 0) = false := by simpa using z0
        have d1 : decide ((k : Int) < (n : Int)) = true := by simp; omega
        have i0 : (0 : Int) ≤ (k : Int) := by omega
        have i1 : (k : Int) < (n : Int) := by omega
        clear hz z0
        go_wp2
        go_loop [6] (fun y => ∃ e : Nat, b ≤ e ∧ e ≤ n ∧ y = .int .i64 e) (fun y => (intOf y).toNat)
        case atStart => exact ⟨n, by have := T.out.bn; have := hl.out; omega, Nat.le_refl _, rfl⟩
        case round =>
          obtain ⟨e, hbe, hen, rfl⟩ := hrel
          clear hcz
          have kb := AB.out
          obtain ⟨b2, off2, z3, e2, _, hz, hcz⟩ := H.out.at_z (k := e - 1) (by omega)
          cases e2
          have hcz' : W0.cell? ⟨b', off + ((e : Int) - 1).toNat, none⟩ = some (.int .i64 z3) := by rw [show ((e : Int) - 1).toNat = e - 1 by omega]; exact hcz
          have d2 : decide ((k : Int) < (e : Int)) = true := by simp; omega
          have e1 : ((k : Int) == (e : Int)) = false := by simp; omega
          have j0 : (1 : Int) ≤ (e : Int) := by omega
          have j1 : (e : Int) - 1 < (n : Int) := by omega
          have j2 : (0 : Int) ≤ (e : Int) - 1 := by omega
          have j3 : 1 ≤ e := by omega
          by_cases hlt : b < e
          · have z0 : z3 = 0 := by rw [← hz]; exact T.out.hi _ (by omega) (by have := hl.out; omega)
            subst z0
            clear hz
            go_wp2
            go_round
            case rel => exact ⟨e - 1, by omega, by omega, by rw [show ((e - 1 : Nat) : Int) = (e : Int) - 1 by omega]⟩
            case measure => simp [intOf]; omega
          · obtain rfl : e = b := by omega
            have z0 : ¬ z3 = 0 := by rw [← hz]; exact T.out.last AB.out
            have t3 : (z3 == 0) = false := by simpa using z0
            clear hz z0
            have kc : ¬ c = k := by omega
            have hkc : k ≤ c := by omega
            have hec : e ≤ c := by omega
            have hke : k ≤ e := by omega
            have OE := Lib.hid (ownEmpty W0)
            have HN := Lib.hid (fun (j : Nat) (u : Value) (hu : ((Lau.cut l k e).map (Value.int .i64))[j]? = some u) => (show (W0.alloc (Obj.cells #[] 2)).cell? ((⟨b', off + k, none⟩ : Addr).add j) = some u from by
              have hj : j < e - k := by
                have := (List.getElem?_eq_some_iff.1 hu).1
                rw [List.length_map, Lau.cut_len (by have := hl.out; omega)] at this
                exact this
              obtain ⟨b4, off4, e4, _, h4⟩ := (H.out.into (al1 W0 (Obj.cells #[] 2))).2 (by omega)
              cases e4
              have h5 := h4 (k + j) (by omega)
              have e5 : (⟨b', off + k, none⟩ : Addr).add j = ⟨b', off + (k + j), none⟩ := by unfold Addr.add; split <;> simp_all; omega
              rw [e5, h5, ← hu, List.getElem?_map]
              have h6 := Lau.cut_at (l := l) (a := k) (b := e) hj
              rw [List.getD_eq_getElem?_getD] at h6
              have h7 : j < (Lau.cut l k e).length := by rw [Lau.cut_len (by have := hl.out; omega)]; exact hj
              rw [List.getElem?_eq_getElem h7] at h6 ⊢
              simp at h6
              simp [h6]))
            have CL := Lib.hid (show ((Lau.cut l k e).map (Value.int .i64)).length = (e - k) * 1 by rw [List.length_map, Lau.cut_len (by have := hl.out; omega), Nat.mul_one])
            go_wp2_with (at_builtin; refine wpList_append_lies _ rfl _ _ 24 rfl W0.heap.size 2 ti _ 1 8 Try.underlying24 HI.out.1 HI.out.2.1 HI.out.2.2.1 HI.out.2.2.2 rfl (by decide) (.slice (some ⟨W0.heap.size, 0, none⟩) 0 0) 0 [] rfl (by exact OE.out.1) ⟨b', off + k, none⟩ (e - k) (c - k) ((Lau.cut l k e).map (Value.int .i64)) rfl CL.out (by exact HN.out) (by simp [Value.oneCell']) (by omega) (by unfold maxLen; omega) (by omega) (by simp <;> omega) (W0.heap.size + 1) (by simp) ?_; intro gg cap w7 hown7 hgrow hat hlt7; have O7 : Hid (Own w7 W0.heap.size w7.heap.size (some ⟨gg, 0, none⟩) (e - k) cap (Lau.cut l k e)) := Lib.hid ⟨by simpa using hown7, fun a ha => by cases ha; exact hlt7⟩; have B7 := Lib.hid (((Below.refl _ _).alloc (Nat.le_refl _) _).grown hgrow (by simp <;> omega) (fun k hk => (OE.out.1.lt k hk).1)); obtain ⟨n0, n1⟩ := K0.out.below B7.out s0; have f0 := F0.out.below B7.out s0; unfold Free at f0; have s7 := B7.out.size; clear hown7 hgrow hat hlt7)
            refine bodyPost_ret (v := .agg #[.int .i64 (low + (k : Int)), .slice (some ⟨gg, 0, none⟩) (e - k) cap]) (by simp [results, Try.results23, n0, n1, go_sem]) rfl ⟨fun h => absurd AB.out (by omega), fun _ => ⟨some ⟨gg, 0, none⟩, cap, by rw [Lau.cut_len (by have := hl.out; omega)], ?_, ?_⟩⟩
            · rw [Lau.cut_len (by have := hl.out; omega)]
              refine (((O7.out.far (p := ⟨w.heap.size, 0, none⟩) (.inl s0) _).far (p := ⟨w.heap.size, 1, none⟩) (.inl s0) _)).wide (by omega) (by simp [World.setCell])
            · exact ((D0.out.trans (B7.out.mono (by omega))).setCell (by simp) _).setCell (by simp) _


theorem Own.caps {w : World} {lo hi : Nat} {A : Option Addr} {n c : Nat} {zs : List Int} (h : Own w lo hi A n c zs) : n ≤ c ∧ c ≤ maxLen := by
  rcases h.1.2 with ⟨hv, h0⟩ | ⟨g, cap, cur, hv, _, _, hn, hm, _⟩
  · injection hv with h1 h2 h3
    subst h3
    unfold maxLen
    omega
  · injection hv with h1 h2 h3
    subst h3
    exact ⟨hn, hm⟩

theorem Kept.of_grownH {w w' : World} {v : Value} {lo hi : Nat} (hg : w.grownBy w' v.ownBlock) (hlo : ∀ k, v.ownBlock = some k → lo ≤ k ∧ k < hi) : Kept lo hi w w' :=
  ⟨hg.os, hg.tape, hg.output, hg.size, fun k hk hn => hg.block k hk (fun e => by have := hlo k e.symm; omega)⟩
/-- A number is appended to a list of the call's own. -/
theorem wpList_push_int {w : World} {ops : Array Oper} {rest : List Oper} {o : Oper} {a : Act} {Q : Exit → Act → World → Prop} (hgd : o.guard = none) (s x : Operand) (ho : o.op = .call { callee := .builtin .append, args := #[s, x], argTypes := #[24, 24] })
    (lo hi c g : Nat) (A : Option Addr) (l : List Int) (z : Int) (hs : a.eval s = .slice A l.length c) (hown : Own w lo hi A l.length c l) (hx : a.eval x = .slice (some ⟨g, 0, none⟩) 1 1) (hc : w.cell? ⟨g, 0, none⟩ = some (.int .i64 z)) (hlo : lo ≤ w.heap.size) (hlen : l.length ≤ 1000)
    (h : ∀ A' c' w', Own w' lo w'.heap.size A' (l.length + 1) c' (l ++ [z]) → Kept lo hi w w' → wpList Try.prog ops Q rest (a.put o.dst (.slice A' (l.length + 1) c')) w') : wpList Try.prog ops Q (o :: rest) a w := by
  obtain ⟨ti, hi0, hz0, hz1, hz2⟩ := info_parts info2
  refine wpList_append_own w hgd s x 24 ho lo 2 ti _ 1 8 Try.underlying24 hi0 hz0 hz1 hz2 rfl (by decide) (.slice A l.length c) l.length (l.map (Value.int .i64)) hs hown.1 ⟨g, 0, none⟩ 1 1 [.int .i64 z] hx rfl
    (by intro j u hj; cases j with | zero => (simp at hj; subst hj; simpa [Addr.add] using hc) | succ j => simp at hj) (by intro u hu; simp at hu; subst hu; rfl) (by unfold maxLen; omega) (by omega) hlo ?_
  intro v' w' h1 hg _
  have hk : Kept lo hi w w' := Kept.of_grownH hg fun k hk => ⟨(hown.1.lt k hk).1, by
    cases A with
    | none => simp [Value.ownBlock] at hk
    | some p =>
      have h2 := hown.2 p rfl
      simp [Value.ownBlock] at hk
      omega⟩
  obtain ⟨g', cap, rfl, _⟩ := h1.form (by omega)
  have hlt : g' < w'.heap.size := (World.ownsRow.lt h1 g' rfl).2
  refine h (some ⟨g', 0, none⟩) cap w' ⟨?_, fun a ha => by cases ha; exact hlt⟩ hk
  rw [List.map_append]
  exact h1
end Go.Proofs.Ytpkjjcfcpmcdiaa
