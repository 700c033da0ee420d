/- The specification's list of images. No condition but those that each theorem names. -/
import Derived.Test.YtjendlfophdfeaaDoorPfA
import Derived.Test.YtjendlfophdfeaaDoorWdC
import Derived.Deep.RegionHeld3
import Derived.Deep.RegionLaw
import Derived.Deep.Cut
import Derived.Outline
namespace Go.Proofs.YtjendlfophdfeaaDoor
open Go.RowKit

namespace Wd
/-- An append of nothing at a step of a region that draws its order. -/
theorem step_append_none {w : World} {ops : Array Oper} {o : Oper} {a : Act} {K : Act → World → Prop} {Q : Exit → Act → World → Prop} {E : Prop} (hgd : o.guard = none) (s x : Operand) (t e : TypeId)
    (ho : o.op = .call { callee := .builtin .append, args := #[s, x], argTypes := #[t, t] }) (i : TypeInfo) (ht : Tryd.prog.underlying t = some (.slice e)) (hi : Tryd.prog.info? e = some i)
    (b : Option Addr) (n cap : Nat) (hn : n ≤ cap) (hs : a.eval s = .slice b n cap) (A : Option Addr) (c : Nat) (hx : a.eval x = .slice A 0 c)
    (h : K (a.put o.dst (.slice b n cap)) w) : if Region.wanted o (yielded ops a.tmps) = true then Oper.wp Tryd.prog o a w K Q else E := by
  have hw : Region.wanted o (yielded ops a.tmps) = true := by simp [Region.wanted, hgd]
  rw [if_pos hw]
  have hr := run_append_nothing (P := Tryd.prog) w t t o.type e i ht hi b n cap hn (.slice A 0 c) ⟨.inl ⟨e, ht⟩, fun w' => by simp [Builtin.lenOf], by cases A <;> simp [Builtin.firstCells, loadCells, loadCellsFrom], by cases A <;> simp [Builtin.firstCells, loadCells, loadCellsFrom], by simp, by simp⟩
  unfold Oper.wp
  simp [execOp, ho, resolve, invoke, builtin, hs, hx, hr, Result.andThen]
  exact h
/-- A list, empty or not, is appended to a list of the call's own at a step of a region that draws its order. -/
theorem step_push_any {w : World} {ops : Array Oper} {o : Oper} {a : Act} {K : Act → World → Prop} {Q : Exit → Act → World → Prop} {E : Prop} (hgd : o.guard = none) (s x : Operand) (ho : o.op = .call { callee := .builtin .append, args := #[s, x], argTypes := #[48, 48] })
    (lo hi c B n m cm : Nat) (A A2 : Option Addr) (l zs : List Int) (hs : a.eval s = .slice A n c) (hown : Own w lo hi A n c l) (hx : a.eval x = .slice A2 m cm) (hc : Ints w B A2 m zs) (hlo : lo ≤ w.heap.size) (hhi : hi ≤ w.heap.size) (hlen : n + m ≤ 4194304)
    (h : ∀ A' c' w', Own w' lo w'.heap.size A' (n + m) c' (l ++ zs) → Kept lo hi w w' → K (a.put o.dst (.slice A' (n + m) c')) w') : if Region.wanted o (yielded ops a.tmps) = true then Oper.wp Tryd.prog o a w K Q else E := by
  obtain ⟨ti, hi0, hz0, hz1, hz2⟩ := info_parts info2
  rcases Nat.eq_zero_or_pos m with h0 | h0
  · subst h0
    refine step_append_none hgd s x 48 2 ho ti Tryd.underlying48 hi0 A n c (own_le hown) hs A2 cm hx ?_
    have e : zs = [] := List.length_eq_zero_iff.1 hc.1
    subst e
    have := h A c w (by rw [List.append_nil]; exact hown.wide (Nat.le_refl _) hhi) (Kept.refl _ _ _)
    exact this
  · have hl := hown.len
    have hzl := hc.1
    obtain ⟨b, off, rfl, hb, hcell⟩ := hc.2 h0
    refine step_append_lies w hgd s x 48 ho lo 2 ti _ 1 8 Tryd.underlying48 hi0 hz0 hz1 hz2 rfl (by decide) (.slice A n c) n (l.map (Value.int .i64)) hs hown.1 ⟨b, off, none⟩ m cm (zs.map (Value.int .i64)) hx (by simpa using hzl)
      (by
        intro j u hj
        rw [List.getElem?_map] at hj
        have hjl : j < zs.length := by
          rcases Nat.lt_or_ge j zs.length with h | h
          · exact h
          · rw [List.getElem?_eq_none h] at hj; simp at hj
        rw [List.getElem?_eq_getElem hjl] at hj
        simp at hj
        have := hcell j (by omega)
        rw [List.getD_eq_getElem?_getD, List.getElem?_eq_getElem hjl] at this
        subst hj
        rw [show (⟨b, off, none⟩ : Addr).add j = ⟨b, off + j, none⟩ from by unfold Addr.add; split <;> simp_all]
        simpa using this)
      (by intro u hu; obtain ⟨z, _, rfl⟩ := List.mem_map.1 hu; rfl) (by omega) (by unfold maxLen; omega) (by omega) hlo _ rfl ?_
    intro g' cap w' h1 hg hat hlt
    have hk : Kept lo hi w w' := kept_grown hg fun k hk => ⟨(hown.1.lt k hk).1, by
      cases A with
      | none => simp [Value.ownBlock] at hk
      | some p =>
        have h2 := hown.2 p rfl
        simp [Value.ownBlock] at hk
        omega⟩
    refine h (some ⟨g', 0, none⟩) cap w' ⟨?_, fun a ha => by cases ha; exact hlt⟩ hk
    rw [List.map_append]
    exact h1
theorem ints_part {w : World} {B b off n : Nat} {zs : List Int} (h : Ints w B (some ⟨b, off, none⟩) n zs) {i j : Nat} (hij : i ≤ j) (hj : j ≤ n) : Ints w B (some ⟨b, off + i, none⟩) (j - i) ((zs.take j).drop i) := ⟨by rw [List.length_drop, List.length_take, h.1]; omega, fun h0 => by
  obtain ⟨b', off', e, hb, hc⟩ := h.2 (by omega)
  cases e
  refine ⟨b, off + i, rfl, hb, fun k hk => ?_⟩
  have := hc (i + k) (by omega)
  rw [← Nat.add_assoc] at this
  rw [this]
  congr 2
  rw [List.getD_eq_getElem?_getD, List.getD_eq_getElem?_getD, List.getElem?_drop, List.getElem?_take_of_lt (by omega)]⟩
theorem ints_nil {w : World} {B : Nat} (A : Option Addr) : Ints w B A 0 [] := ⟨rfl, fun h => by omega⟩
end Wd

/-- The four images in memory of the call's own. -/
def ResIm (w : World) (p : Nat) (e : Ending) (w' : World) : Prop := ∃ A c, e = .returned (.slice A 4 c) ∧ Own w' w.heap.size w'.heap.size A 4 c (P4.im p) ∧ Below w.heap.size w w'

theorem Own.tight {w : World} {lo hi g n c : Nat} {zs : List Int} (h : Own w lo hi (some ⟨g, 0, none⟩) n c zs) : Own w g (g + 1) (some ⟨g, 0, none⟩) n c zs :=
  ⟨⟨h.1.1, h.1.2.elim .inl fun ⟨g', cap, cur, hv, _, r⟩ => .inr ⟨g', cap, cur, hv, by injection hv with h1 _ _; cases h1; exact Nat.le_refl _, r⟩⟩, fun a ha => by cases ha; exact Nat.lt_succ_self _⟩
theorem Ints.keptOff {w w' : World} {b off n g hi B : Nat} {zs : List Int} (h : Ints w B (some ⟨b, off, none⟩) n zs) (hk : Kept g hi w w') (hb : b < w.heap.size) (hg : ¬ (g ≤ b ∧ b < hi)) : Ints w' w'.heap.size (some ⟨b, off, none⟩) n zs :=
  ⟨h.1, fun h0 => by
    obtain ⟨b', off', e, _, hc⟩ := h.2 h0
    cases e
    exact ⟨b, off, rfl, Nat.lt_of_lt_of_le hb hk.size, fun j hj => (World.cell?_of_block (a := ⟨b, off + j, none⟩) (hk.block b hb hg)).trans (hc j hj)⟩⟩
def ImSt (w : World) (p j : Nat) (out left : Value) (W : World) : Prop :=
  ∃ g c A2 c2, out = .slice (some ⟨g, 0, none⟩) j c ∧ left = .slice A2 (4 - j) c2 ∧ Own W g (g + 1) (some ⟨g, 0, none⟩) j c ((P4.im p).take j) ∧ (4 - j ≤ c2 ∧ c2 ≤ maxLen) ∧ Ints W W.heap.size A2 (4 - j) (P4.left p j) ∧ w.heap.size ≤ g ∧ g < W.heap.size ∧ (∀ a, A2 = some a → a.block ≠ g) ∧ Below w.heap.size w W

set_option maxRecDepth 100000 in
set_option maxHeartbeats 4000000 in
theorem images_spec (p : Nat) (w : World) (hp : p < 24) :
    Calls Tryd.prog 132 #[.int .i64 p] w (ResIm w p) := by
  have PL := Lib.hid (P4.im_len p hp)
  go_enter Tryd.func132, Tryd.ntmps132
  go_wp2
  go_loopw [0, 3, 4, 5, 6] (fun x left out s n W => ∃ j : Nat, j ≤ 4 ∧ x = .int .i64 (P4.rem p j) ∧ s = .int .i64 (P4.sz j) ∧ n = .int .i64 (3 - (j : Int)) ∧ ImSt w p j out left W) (fun _ _ _ _ n _ => (intOf n + 1).toNat)
  case atStart =>
    refine ⟨0, Nat.zero_le _, rfl, rfl, rfl, w.heap.size + 1, 0, some ⟨w.heap.size, 0, none⟩, 4, rfl, rfl, ?_, ⟨Nat.le_refl _, by unfold maxLen; omega⟩, ?_, by omega, by simp, fun a ha => by cases ha; exact fun h => by simp at h, ((al1 w _).trans ((al1 _ _).mono (by simp)))⟩
    · have h := Wd.own_nil (w.alloc (Obj.cells #[.int .i64 0, .int .i64 1, .int .i64 2, .int .i64 3] 2))
      have e : (w.alloc (Obj.cells #[.int .i64 0, .int .i64 1, .int .i64 2, .int .i64 3] 2)).heap.size = w.heap.size + 1 := by simp
      rw [e] at h
      exact h
    · exact ((Blk.new w [0, 1, 2, 3]).alloc (Obj.cells #[] 2)).ints rfl
  case round =>
    obtain ⟨j, hj, rfl, rfl, rfl, g, c, A2, c2, rfl, rfl, ho, ⟨hc1, hc2⟩, hI, hg0, hg1, hne, hbel⟩ := hrel
    have O := Lib.hid ho
    have D := Lib.hid hbel
    have sz0 : w.heap.size ≤ wr.heap.size := hbel.size
    clear ho hbel
    obtain ⟨N, hN⟩ : ∃ N : Int, 3 - (j : Int) = N := ⟨_, rfl⟩
    have HN := Lib.hid hN
    by_cases hlt : j < 4
    · obtain ⟨s1, s2, s3, s4⟩ := P4.im_step p hp j hlt
      obtain ⟨sp1, sp2⟩ := P4.sz_pos j
      have NXR := Lib.hid (show P4.rem p (j + 1) = P4.rem p j % P4.sz j from rfl)
      have NXL := Lib.hid (show P4.left p (j + 1) = (P4.left p j).take (P4.pick p j) ++ (P4.left p j).drop (P4.pick p j + 1) from rfl)
      have NXO := Lib.hid (show (P4.im p).take (j + 1) = (P4.im p).take j ++ [(P4.im p).getD j 0] from Wd.take_snoc _ (by rw [PL.out]; exact hlt))
      have QK := Lib.hid (show P4.rem p j / P4.sz j = P4.pick p j from rfl)
      obtain ⟨R, hR⟩ : ∃ R, P4.rem p j = R := ⟨_, rfl⟩
      obtain ⟨K, hK⟩ : ∃ K, P4.pick p j = K := ⟨_, rfl⟩
      obtain ⟨S, hS⟩ : ∃ S, P4.sz j = S := ⟨_, rfl⟩
      obtain ⟨L, hL⟩ : ∃ L, P4.left p j = L := ⟨_, rfl⟩
      obtain ⟨m, hm⟩ : ∃ m, 4 - j = m := ⟨_, rfl⟩
      have HS := Lib.hid hS
      rw [hK, hm] at s1
      rw [hL, hm] at s2
      rw [hL, hK] at s3
      rw [hR] at s4
      rw [hS] at sp1 sp2
      rw [hR, hS] at NXR
      rw [hL, hK] at NXL
      rw [hR, hS, hK] at QK
      rw [hm] at hc1 hI
      rw [hL] at hI
      rw [hm, hR, hS, hN]
      obtain ⟨b, off, z, rfl, hb, hz, hcz⟩ := hI.at_z s1
      have Z := Lib.hid (show (P4.im p).getD j 0 = z from by rw [← s3, hz])
      have bg : b ≠ g := hne _ rfl
      have HI := Lib.hid hI
      have LL := Lib.hid s2
      have HM := Lib.hid hm
      unfold maxLen at hc2
      clear hne hI hz s3 s2 hR hK hS hL hm hN
      have d1 : (R : Int) / (S : Int) = (K : Int) := by rw [← QK.out]; exact (Int.natCast_ediv _ _).symm
      have s0 : ¬ (S : Int) = 0 := by omega
      have k1 : IntKind.i64.wrap ((K : Int) + 1) = (K : Int) + 1 := IntWalk.i64_in _ (by omega)
      have n0 : (0 : Int) ≤ N := by have := HN.out; omega
      have n1 : N ≤ 3 := by have := HN.out; omega
      have m4 : m ≤ 4 := by have := HM.out; omega
      have k2 : (K : Int) < (m : Int) := by omega
      have k3 : (0 : Int) ≤ (K : Int) := by omega
      go_upto_region 10 with (at_builtin; refine Wd.push_int rfl _ _ rfl g (g + 1) c wr.heap.size j (some ⟨g, 0, none⟩) _ z rfl (by exact O.out.below (al1 wr _) (by omega)) rfl (by exact Wd.alloc_first _ _ _ _ rfl) (by simp; omega) (by omega) ?_; intro A7 c7 w7 h5 h6; obtain ⟨g7, z7, rfl, hg7, hg7', hx1, hx2, hx3⟩ := h5.at_ (k := j) (by omega); clear hx1 hx2 hx3; have O7 := Lib.hid h5.tight; have K7 := Lib.hid h6; clear h5 h6)
      have h6 := K7.out
      clear K7
      have sw7 : wr.heap.size < w7.heap.size := by have := h6.size; simp at this; omega
      have D7 := Lib.hid ((D.out.trans ((al1 wr (Obj.cells #[Value.int .i64 z] 2)).mono sz0)).trans (h6.below hg0 (by simp; omega)))
      have HI7 := Lib.hid (Ints.keptOff (HI.out.below (al1 wr (Obj.cells #[Value.int .i64 z] 2))) h6 (by simp; omega) (by omega))
      have P1 := Lib.hid (Wd.ints_part HI7.out (i := 0) (j := K) (by omega) (by omega))
      rw [Nat.add_zero, Nat.sub_zero, List.drop_zero] at P1
      have P2 := Lib.hid (Wd.ints_part HI7.out (i := K + 1) (j := m) (by omega) (by omega))
      rw [List.take_of_length_le (Nat.le_of_eq LL.out)] at P2
      clear h6 hcz
      have k4 : ((K : Int) + 1).toNat = K + 1 := by omega
      have k5 : (0 : Int) ≤ (K : Int) + 1 := by omega
      have k6 : (K : Int) + 1 ≤ (m : Int) := by omega
      have k7 : (K : Int) ≤ (c2 : Int) := by omega
      by_cases hcp : K + 1 = c2
      · have P3 := Lib.hid (show Ints w7 w7.heap.size (some ⟨b, off, none⟩) 0 (L.drop (K + 1)) from by
          rw [List.drop_of_length_le (by rw [LL.out]; omega)]; exact Wd.ints_nil _)
        have M0 := Lib.hid (show m - (K + 1) = 0 from by omega)
        go_wp2_with fail
        go_region_law (first
          | (refine Wd.step_push_any (by rfl) _ _ (by rfl) w7.heap.size (w7.heap.size + 1) 0 w7.heap.size 0 K c2 (some ⟨w7.heap.size, 0, none⟩) (some ⟨b, off, none⟩) [] (L.take K) (by rfl) (by exact Wd.own_nil w7) (by rfl) (by exact P1.out.below ((al1 w7 _).drew)) (by simp) (by simp) (by omega) ?_; intro A8 c8 w8 h7 h8; have O8 := Lib.hid (show Own w8 w7.heap.size w8.heap.size A8 K c8 (L.take K) from by simpa using h7); have D8 := Lib.hid (((al1 w7 _).drew).trans (h8.below (Nat.le_refl _) (by simp))); have s8 := D8.out.size; clear h7 h8)
          | (refine Wd.step_push_any (by rfl) _ _ (by rfl) w7.heap.size w8.heap.size c8 w7.heap.size K 0 0 A8 (some ⟨b, off, none⟩) (L.take K) (L.drop (K + 1)) (by rfl) (by exact O8.out) (by rfl) (by exact P3.out.below D8.out) (by omega) (Nat.le_refl _) (by omega) ?_; intro A9 c9 w9 h7 h8; have O9 := Lib.hid (show Own w9 w7.heap.size w9.heap.size A9 K c9 (L.take K ++ L.drop (K + 1)) from by simpa using h7); have D9 := Lib.hid (D8.out.trans (h8.below (Nat.le_refl _) (by omega))); have s9 := h8.size; clear h7 h8))
        all_goals
          have C9 := Lib.hid (Wd.own_caps O9.out)
          have MM := Lib.hid (show K = 4 - (j + 1) from by have := HM.out; omega)
          have NEW := Lib.hid (show ImSt w p (j + 1) (.slice (some ⟨g7, 0, none⟩) (j + 1) c7) (.slice A9 K c9) w9 from by
            have h1 := O9.out.ints
            have h2 := O9.out.1
            refine ⟨g7, c7, A9, c9, rfl, by rw [MM.out], ?_, ?_, ?_, by omega, by omega, ?_, D7.out.trans (D9.out.mono (by omega))⟩
            · rw [NXO.out, Z.out]; exact O7.out.below D9.out (by omega)
            · rw [← MM.out]; exact C9.out
            · rw [NXL.out, ← MM.out]; exact h1
            · intro a ha
              subst ha
              rcases h2.2 with ⟨h0, _⟩ | ⟨g', cap, cur, hv, hb', _⟩
              · cases h0
              · injection hv with e1 _ _
                cases e1
                dsimp only
                omega)
          clear C9 D9 O9 O8 D8
          by_cases hj3 : j < 3
          · have t1 : decide ((0 : Int) < N) = true := by have := HN.out; simp; omega
            have n3 : (0 : Int) < N := by have := HN.out; omega
            have d3 : (S : Int) / N = ((P4.sz (j + 1) : Nat) : Int) := by
              have h1 := P4.sz_step j hj3
              rw [HS.out] at h1
              rw [← h1, ← HN.out, show (3 : Int) - (j : Int) = ((3 - j : Nat) : Int) by omega]
              exact (Int.natCast_ediv _ _).symm
            have s3 : ¬ N = 0 := by omega
            obtain ⟨q1, q2⟩ := P4.sz_pos (j + 1)
            obtain ⟨S2, hS2⟩ : ∃ S2, P4.sz (j + 1) = S2 := ⟨_, rfl⟩
            have HS2 := Lib.hid hS2
            rw [hS2] at d3 q1 q2
            clear hS2
            go_wp2
            go_roundw
            case rel => exact ⟨j + 1, by omega, by rw [NXR.out, Int.natCast_emod], by rw [HS2.out], by rw [← HN.out]; congr 1; omega, NEW.out⟩
            case measure => simp [intOf]; omega
          · have e3 : j = 3 := by omega
            have t1 : decide ((0 : Int) < N) = false := by have := HN.out; simp; omega
            have n3 : ¬ (0 : Int) < N := by have := HN.out; omega
            have SS := Lib.hid (show S = P4.sz (j + 1) from by rw [← HS.out, e3]; rfl)
            clear e3
            go_wp2
            go_roundw
            case rel => exact ⟨j + 1, by omega, by rw [NXR.out, Int.natCast_emod], by rw [SS.out], by rw [← HN.out]; congr 1; omega, NEW.out⟩
            case measure => simp [intOf]; omega
      · have hcp2 : ¬ c2 = K + 1 := by omega
        go_wp2_with fail
        go_region_law (first
          | (refine Wd.step_push_any (by rfl) _ _ (by rfl) w7.heap.size (w7.heap.size + 1) 0 w7.heap.size 0 K c2 (some ⟨w7.heap.size, 0, none⟩) (some ⟨b, off, none⟩) [] (L.take K) (by rfl) (by exact Wd.own_nil w7) (by rfl) (by exact P1.out.below ((al1 w7 _).drew)) (by simp) (by simp) (by omega) ?_; intro A8 c8 w8 h7 h8; have O8 := Lib.hid (show Own w8 w7.heap.size w8.heap.size A8 K c8 (L.take K) from by simpa using h7); have D8 := Lib.hid (((al1 w7 _).drew).trans (h8.below (Nat.le_refl _) (by simp))); have s8 := D8.out.size; clear h7 h8)
          | (refine Wd.step_push_any (by rfl) _ _ (by rfl) w7.heap.size w8.heap.size c8 w7.heap.size K (m - (K + 1)) (c2 - (K + 1)) A8 (some ⟨b, off + (K + 1), none⟩) (L.take K) (L.drop (K + 1)) (by rfl) (by exact O8.out) (by rfl) (by exact P2.out.below D8.out) (by omega) (Nat.le_refl _) (by omega) ?_; intro A9 c9 w9 h7 h8; have O9 := Lib.hid (show Own w9 w7.heap.size w9.heap.size A9 (K + (m - (K + 1))) c9 (L.take K ++ L.drop (K + 1)) from h7); have D9 := Lib.hid (D8.out.trans (h8.below (Nat.le_refl _) (by omega))); have s9 := h8.size; clear h7 h8))
        all_goals
          have C9 := Lib.hid (Wd.own_caps O9.out)
          have MM := Lib.hid (show K + (m - (K + 1)) = 4 - (j + 1) from by have := HM.out; omega)
          have NEW := Lib.hid (show ImSt w p (j + 1) (.slice (some ⟨g7, 0, none⟩) (j + 1) c7) (.slice A9 (K + (m - (K + 1))) c9) w9 from by
            have h1 := O9.out.ints
            have h2 := O9.out.1
            refine ⟨g7, c7, A9, c9, rfl, by rw [MM.out], ?_, ?_, ?_, by omega, by omega, ?_, D7.out.trans (D9.out.mono (by omega))⟩
            · rw [NXO.out, Z.out]; exact O7.out.below D9.out (by omega)
            · rw [← MM.out]; exact C9.out
            · rw [NXL.out, ← MM.out]; exact h1
            · intro a ha
              subst ha
              rcases h2.2 with ⟨h0, _⟩ | ⟨g', cap, cur, hv, hb', _⟩
              · cases h0
              · injection hv with e1 _ _
                cases e1
                dsimp only
                omega)
          clear C9 D9 O9 O8 D8
          by_cases hj3 : j < 3
          · have t1 : decide ((0 : Int) < N) = true := by have := HN.out; simp; omega
            have n3 : (0 : Int) < N := by have := HN.out; omega
            have d3 : (S : Int) / N = ((P4.sz (j + 1) : Nat) : Int) := by
              have h1 := P4.sz_step j hj3
              rw [HS.out] at h1
              rw [← h1, ← HN.out, show (3 : Int) - (j : Int) = ((3 - j : Nat) : Int) by omega]
              exact (Int.natCast_ediv _ _).symm
            have s3 : ¬ N = 0 := by omega
            obtain ⟨q1, q2⟩ := P4.sz_pos (j + 1)
            obtain ⟨S2, hS2⟩ : ∃ S2, P4.sz (j + 1) = S2 := ⟨_, rfl⟩
            have HS2 := Lib.hid hS2
            rw [hS2] at d3 q1 q2
            clear hS2
            go_wp2
            go_roundw
            case rel => exact ⟨j + 1, by omega, by rw [NXR.out, Int.natCast_emod], by rw [HS2.out], by rw [← HN.out]; congr 1; omega, NEW.out⟩
            case measure => simp [intOf]; omega
          · have e3 : j = 3 := by omega
            have t1 : decide ((0 : Int) < N) = false := by have := HN.out; simp; omega
            have n3 : ¬ (0 : Int) < N := by have := HN.out; omega
            have SS := Lib.hid (show S = P4.sz (j + 1) from by rw [← HS.out, e3]; rfl)
            clear e3
            go_wp2
            go_roundw
            case rel => exact ⟨j + 1, by omega, by rw [NXR.out, Int.natCast_emod], by rw [SS.out], by rw [← HN.out]; congr 1; omega, NEW.out⟩
            case measure => simp [intOf]; omega
    · obtain rfl : j = 4 := by omega
      have n3 : ¬ (0 : Int) ≤ N := by have := HN.out; omega
      have ALL := Lib.hid (show (P4.im p).take 4 = P4.im p from List.take_of_length_le (Nat.le_of_eq PL.out))
      rw [hN]
      clear hN hI hne
      go_wp2
      go_ret
      exact ⟨_, c, rfl, by have := O.out.wide hg0 (Nat.succ_le_of_lt hg1); rw [ALL.out] at this; exact this, D.out⟩

end Go.Proofs.YtjendlfophdfeaaDoor
