/- Contracts of the three changes of a line of a matrix, the program's. No condition but those that each theorem names. -/
import Derived.Test.YtpojkahlllochaaSmF
namespace Go.Proofs.Ytpojkahlllochaa
open Go.RowKit

def Box2 (w : World) (g : Nat) (x y : Value) : Prop := w.cell? ⟨g, 0, none⟩ = some x ∧ w.cell? ⟨g, 1, none⟩ = some y
theorem Box2.below {w w' : World} {g : Nat} {x y : Value} {B : Nat} (h : Box2 w g x y) (hb : Below B w w') (hg : g < B) : Box2 w' g x y :=
  ⟨(hb.cell (p := ⟨g, 0, none⟩) hg).trans h.1, (hb.cell (p := ⟨g, 1, none⟩) hg).trans h.2⟩
theorem Box2.new (w : World) (t : TypeId) (x y : Value) : Box2 (w.alloc (.cells #[x, y] t)) w.heap.size x y := by
  refine ⟨?_, ?_⟩ <;> simp [go_sem]
theorem Box2.kept {w w' : World} {lo hi g : Nat} {x y : Value} (h : Box2 w g x y) (hk : Kept lo hi w w') (hg : g < w.heap.size) (hn : ¬ (lo ≤ g ∧ g < hi)) : Box2 w' g x y :=
  ⟨(World.cell?_of_block (a := ⟨g, 0, none⟩) (hk.block g hg hn)).trans h.1, (World.cell?_of_block (a := ⟨g, 1, none⟩) (hk.block g hg hn)).trans h.2⟩
theorem Own.drewN {w : World} {lo hi : Nat} {A : Option Addr} {n c : Nat} {zs : List Int} (h : Own w lo hi A n c zs) (k : Nat) : Own (w.drewN k) lo hi A n c zs := h.keep fun _ _ _ => rfl

/-- A line's places: m of them from offset o on, s apart, within a slice of na of the n entries. -/
structure Line (o s m na n : Nat) : Prop where
  pos : 0 < s
  hs : s ≤ 48
  hm : m * s ≤ 4608
  stop : na ≤ m * s
  go : ∀ t, t < m → t * s < na ∧ o + t * s < n

set_option maxHeartbeats 2000000 in
theorem exch_impl (g n c oa ob s m na ca nb cb lo hi : Nat) (fac : Int) (l : List Int) (w : World) (h : Own w lo hi (some ⟨g, 0, none⟩) n c l) (hhi : hi ≤ w.heap.size) (ha : Line oa s m na n) (hb : Line ob s m nb n) (hne : oa ≠ ob) :
    Calls Try.prog 142 #[.agg #[.slice (some ⟨g, oa, none⟩) na ca, .int .i64 s], .agg #[.slice (some ⟨g, ob, none⟩) nb cb, .int .i64 s], .int .i64 fac] w fun e w' => e = .returned (.bool true) ∧ Own w' lo hi (some ⟨g, 0, none⟩) n c (Sm.exch oa ob s l m) ∧ Kept lo hi w w' := by
  have hg := h.2 _ rfl
  dsimp only at hg
  have o1 : Obj := Obj.cells #[.slice (some ⟨g, oa, none⟩) na ca, .int .i64 s] 160
  have H := Lib.hid (h.al hhi (al2 w (Obj.cells #[.slice (some ⟨g, oa, none⟩) na ca, .int .i64 s] 160) (Obj.cells #[.slice (some ⟨g, ob, none⟩) nb cb, .int .i64 s] 160)))
  have K1 := Lib.hid ((Box2.new w 160 (.slice (some ⟨g, oa, none⟩) na ca) (.int .i64 s)).below (al1 _ (Obj.cells #[.slice (some ⟨g, ob, none⟩) nb cb, .int .i64 s] 160)) (by simp))
  have K2 := Lib.hid (Box2.new (w.alloc (Obj.cells #[.slice (some ⟨g, oa, none⟩) na ca, .int .i64 s] 160)) 160 (.slice (some ⟨g, ob, none⟩) nb cb) (.int .i64 s))
  have HB0 := Lib.hid (Kept.of_below (al2 w (Obj.cells #[.slice (some ⟨g, oa, none⟩) na ca, .int .i64 s] 160) (Obj.cells #[.slice (some ⟨g, ob, none⟩) nb cb, .int .i64 s] 160)) lo hi)
  have HA := Lib.hid ha
  have HB := Lib.hid hb
  have hs1 := ha.hs
  have hm1 := ha.hm
  have hstop := ha.stop
  have hstop2 := hb.stop
  have hpos := ha.pos
  clear h ha hb o1
  simp only [World.size_alloc] at K2
  go_enter Try.func142, Try.ntmps142
  go_wp2
  obtain ⟨W0, hW0⟩ : ∃ W0, W0 = ((w.alloc (Obj.cells #[.slice (some ⟨g, oa, none⟩) na ca, .int .i64 s] 160)).alloc (Obj.cells #[.slice (some ⟨g, ob, none⟩) nb cb, .int .i64 s] 160)) := ⟨_, rfl⟩
  have s0 : w.heap.size + 1 < W0.heap.size := by rw [hW0]; simp
  rw [← hW0] at K1 K2 HB0 H
  rw [← hW0]
  clear hW0
  go_loopw [7] (fun x wr => ∃ t : Nat, t ≤ m ∧ x = .int .i64 ((t * s : Nat) : Int) ∧ Own wr lo hi (some ⟨g, 0, none⟩) n c (Sm.exch oa ob s l t) ∧ Kept lo hi W0 wr) (fun x _ => m * s - (intOf x).toNat)
  case atStart => exact ⟨0, Nat.zero_le _, by simp, H.out, Kept.refl _ _ _⟩
  case round =>
    obtain ⟨t, ht, rfl, hown, hkept⟩ := hrel
    have HO := Lib.hid hown
    have HK := Lib.hid hkept
    have sz : W0.heap.size ≤ wr.heap.size := hkept.size
    clear hown hkept
    have X1 := Lib.hid (K1.out.kept HK.out (by omega) (by omega))
    have X2 := Lib.hid (K2.out.kept HK.out (by omega) (by omega))
    have hts : t * s ≤ m * s := Nat.mul_le_mul_right s ht
    obtain ⟨p, hp⟩ : ∃ p, t * s = p := ⟨_, rfl⟩
    have HP := Lib.hid hp
    rw [hp] at hts
    obtain ⟨k0, k1⟩ := X1.out
    obtain ⟨l0, l1⟩ := X2.out
    by_cases hlt : t < m
    · obtain ⟨a1, a2⟩ := HA.out.go t hlt
      obtain ⟨b1, b2⟩ := HB.out.go t hlt
      rw [hp] at a1 a2 b1 b2 ⊢
      clear hp
      obtain ⟨z, hz⟩ : ∃ z, Sm.exch oa ob s l t = z := ⟨_, rfl⟩
      rw [hz] at HO
      obtain ⟨g', x, eg, _, _, hx, hcx, hfx⟩ := HO.out.at_ a2
      cases eg
      obtain ⟨g', y, eg, _, _, hy, hcy, hfy⟩ := HO.out.at_ b2
      cases eg
      have Q := Lib.hid (show Sm.exch oa ob s l (t + 1) = (z.set (oa + p) y).set (ob + p) x by rw [Sm.exch, hz, HP.out, hx, hy])
      have e0 : (0 : Int) ≤ (p : Int) := by omega
      have e1 : (p : Int) < (na : Int) := by omega
      have e2 : (p : Int) < (nb : Int) := by omega
      have hgw : g < wr.heap.size := by omega
      clear hz hx hy
      go_wp2
      go_quiet (fail)
      go_wp2
      go_roundw
      case rel => exact ⟨t + 1, by omega, by have := HP.out; rw [Nat.add_mul, Nat.one_mul, this]; go_num, by rw [Q.out]; exact ((HO.out.drewN _).set_ _ _).set_ _ _, ((HK.out.drewN _).set_ (p := ⟨g, oa + p, none⟩) (by dsimp only; omega) (by dsimp only; omega) _).set_ (p := ⟨g, ob + p, none⟩) (by dsimp only; omega) (by dsimp only; omega) _⟩
      case measure => simp [intOf]; omega
    · obtain rfl : t = m := by omega
      rw [hp]
      clear hp
      have e1 : (na : Int) ≤ (p : Int) := by have := HP.out; omega
      have e3 : ¬ (p : Int) < (na : Int) := by omega
      go_wp2
      go_ret
      exact ⟨rfl, HO.out, HB0.out.trans HK.out⟩


set_option maxHeartbeats 2000000 in
theorem neg_impl (g n c oa ob s m na ca nb cb lo hi : Nat) (fac : Int) (l : List Int) (w : World) (h : Own w lo hi (some ⟨g, 0, none⟩) n c l) (hhi : hi ≤ w.heap.size) (hwin : Sm.Win l) (ha : Line oa s m na n) :
    Calls Try.prog 144 #[.agg #[.slice (some ⟨g, oa, none⟩) na ca, .int .i64 s], .agg #[.slice (some ⟨g, ob, none⟩) nb cb, .int .i64 s], .int .i64 fac] w fun e w' => e = .returned (.bool true) ∧ Own w' lo hi (some ⟨g, 0, none⟩) n c (Sm.negl oa s l m) ∧ Kept lo hi w w' := by
  have hg := h.2 _ rfl
  dsimp only at hg
  have H := Lib.hid (h.al hhi (al2 w (Obj.cells #[.slice (some ⟨g, oa, none⟩) na ca, .int .i64 s] 160) (Obj.cells #[.slice (some ⟨g, ob, none⟩) nb cb, .int .i64 s] 160)))
  have K1 := Lib.hid ((Box2.new w 160 (.slice (some ⟨g, oa, none⟩) na ca) (.int .i64 s)).below (al1 _ (Obj.cells #[.slice (some ⟨g, ob, none⟩) nb cb, .int .i64 s] 160)) (by simp))
  have K2 := Lib.hid (Box2.new (w.alloc (Obj.cells #[.slice (some ⟨g, oa, none⟩) na ca, .int .i64 s] 160)) 160 (.slice (some ⟨g, ob, none⟩) nb cb) (.int .i64 s))
  have HB0 := Lib.hid (Kept.of_below (al2 w (Obj.cells #[.slice (some ⟨g, oa, none⟩) na ca, .int .i64 s] 160) (Obj.cells #[.slice (some ⟨g, ob, none⟩) nb cb, .int .i64 s] 160)) lo hi)
  have HA := Lib.hid ha
  have hs1 := ha.hs
  have hm1 := ha.hm
  have hstop := ha.stop
  have hpos := ha.pos
  have HW := Lib.hid hwin
  clear h ha hwin
  simp only [World.size_alloc] at K2
  go_enter Try.func144, Try.ntmps144
  go_wp2
  obtain ⟨W0, hW0⟩ : ∃ W0, W0 = ((w.alloc (Obj.cells #[.slice (some ⟨g, oa, none⟩) na ca, .int .i64 s] 160)).alloc (Obj.cells #[.slice (some ⟨g, ob, none⟩) nb cb, .int .i64 s] 160)) := ⟨_, rfl⟩
  have s0 : w.heap.size + 1 < W0.heap.size := by rw [hW0]; simp
  rw [← hW0] at K1 K2 HB0 H
  rw [← hW0]
  clear hW0
  go_loopw [7] (fun x wr => ∃ t : Nat, t ≤ m ∧ x = .int .i64 ((t * s : Nat) : Int) ∧ Own wr lo hi (some ⟨g, 0, none⟩) n c (Sm.negl oa s l t) ∧ Kept lo hi W0 wr) (fun x _ => m * s - (intOf x).toNat)
  case atStart => exact ⟨0, Nat.zero_le _, by simp, H.out, Kept.refl _ _ _⟩
  case round =>
    obtain ⟨t, ht, rfl, hown, hkept⟩ := hrel
    have HO := Lib.hid hown
    have HK := Lib.hid hkept
    have sz : W0.heap.size ≤ wr.heap.size := hkept.size
    clear hown hkept
    have X1 := Lib.hid (K1.out.kept HK.out (by omega) (by omega))
    have hts : t * s ≤ m * s := Nat.mul_le_mul_right s ht
    obtain ⟨p, hp⟩ : ∃ p, t * s = p := ⟨_, rfl⟩
    have HP := Lib.hid hp
    rw [hp] at hts
    obtain ⟨k0, k1⟩ := X1.out
    by_cases hlt : t < m
    · obtain ⟨a1, a2⟩ := HA.out.go t hlt
      rw [hp] at a1 a2 ⊢
      clear hp
      obtain ⟨z, hz⟩ : ∃ z, Sm.negl oa s l t = z := ⟨_, rfl⟩
      have hb := (Sm.negl_win (o := oa) (s := s) HW.out t) (oa + p)
      rw [hz] at HO hb
      obtain ⟨g', x, eg, _, _, hx, hcx, hfx⟩ := HO.out.at_ a2
      cases eg
      rw [hx] at hb
      obtain ⟨hb0, hb1⟩ := hb
      have Q := Lib.hid (show Sm.negl oa s l (t + 1) = z.set (oa + p) (-x) by rw [Sm.negl, hz, HP.out, hx])
      have e0 : (0 : Int) ≤ (p : Int) := by omega
      have e1 : (p : Int) < (na : Int) := by omega
      have hgw : g < wr.heap.size := by omega
      clear hz hx
      go_wp2
      go_region
      all_goals
        go_wp2
        go_roundw
        case rel => exact ⟨t + 1, by omega, by have := HP.out; rw [Nat.add_mul, Nat.one_mul, this]; go_num, by rw [Q.out]; exact (HO.out.drewN _).set_ _ _, (HK.out.drewN _).set_ (p := ⟨g, oa + p, none⟩) (by dsimp only; omega) (by dsimp only; omega) _⟩
        case measure => simp [intOf]; omega
    · obtain rfl : t = m := by omega
      rw [hp]
      clear hp
      have e3 : ¬ (p : Int) < (na : Int) := by have := HP.out; omega
      go_wp2
      go_ret
      exact ⟨rfl, HO.out, HB0.out.trans HK.out⟩

/-- What a change of a line answers: the new list, or that an entry would leave the limit. -/
def LineSays (lo hi g n c : Nat) (w : World) (o : Option (List Int)) (e : Ending) (w' : World) : Prop :=
  match o with
  | some l => e = .returned (.bool true) ∧ Own w' lo hi (some ⟨g, 0, none⟩) n c l ∧ Kept lo hi w w'
  | none => e = .returned (.bool false) ∧ Kept lo hi w w'
theorem subl_none {ot os s : Nat} {q : Int} {l : List Int} {t k : Nat} (h : Sm.subl ot os s q l t = none) (hk : t ≤ k) : Sm.subl ot os s q l k = none := by
  induction k with
  | zero => have : t = 0 := by omega
            subst this; exact h
  | succ k ih =>
    by_cases e : t = k + 1
    · subst e; exact h
    · rw [Sm.subl, ih (by omega)]

set_option maxHeartbeats 2000000 in
theorem sub_impl_zero (g n c oa ob s _m na ca nb cb lo hi : Nat) (l : List Int) (w : World) (h : Own w lo hi (some ⟨g, 0, none⟩) n c l) (hhi : hi ≤ w.heap.size) :
    Calls Try.prog 133 #[.agg #[.slice (some ⟨g, oa, none⟩) na ca, .int .i64 s], .agg #[.slice (some ⟨g, ob, none⟩) nb cb, .int .i64 s], .int .i64 0] w (LineSays lo hi g n c w (some l)) := by
  have H := Lib.hid (h.al hhi (al2 w (Obj.cells #[.slice (some ⟨g, oa, none⟩) na ca, .int .i64 s] 160) (Obj.cells #[.slice (some ⟨g, ob, none⟩) nb cb, .int .i64 s] 160)))
  have HB0 := Lib.hid (Kept.of_below (al2 w (Obj.cells #[.slice (some ⟨g, oa, none⟩) na ca, .int .i64 s] 160) (Obj.cells #[.slice (some ⟨g, ob, none⟩) nb cb, .int .i64 s] 160)) lo hi)
  clear h
  go_enter Try.func133, Try.ntmps133
  go_wp2
  go_ret
  exact ⟨rfl, H.out, HB0.out⟩

set_option maxHeartbeats 4000000 in
theorem sub_impl (g n c oa ob s m na ca nb cb lo hi : Nat) (q : Int) (l : List Int) (w : World) (h : Own w lo hi (some ⟨g, 0, none⟩) n c l) (hhi : hi ≤ w.heap.size) (hwin : Sm.Win l) (ha : Line oa s m na n) (hb : Line ob s m nb n) (hq : q ≠ 0) (hq0 : -4000000000000 ≤ q ∧ q ≤ 4000000000000) :
    Calls Try.prog 133 #[.agg #[.slice (some ⟨g, oa, none⟩) na ca, .int .i64 s], .agg #[.slice (some ⟨g, ob, none⟩) nb cb, .int .i64 s], .int .i64 q] w (LineSays lo hi g n c w (Sm.subl oa ob s q l m)) := by
  have hg := h.2 _ rfl
  dsimp only at hg
  have H := Lib.hid (h.al hhi (al2 w (Obj.cells #[.slice (some ⟨g, oa, none⟩) na ca, .int .i64 s] 160) (Obj.cells #[.slice (some ⟨g, ob, none⟩) nb cb, .int .i64 s] 160)))
  have K1 := Lib.hid ((Box2.new w 160 (.slice (some ⟨g, oa, none⟩) na ca) (.int .i64 s)).below (al1 _ (Obj.cells #[.slice (some ⟨g, ob, none⟩) nb cb, .int .i64 s] 160)) (by simp))
  have K2 := Lib.hid (Box2.new (w.alloc (Obj.cells #[.slice (some ⟨g, oa, none⟩) na ca, .int .i64 s] 160)) 160 (.slice (some ⟨g, ob, none⟩) nb cb) (.int .i64 s))
  have HB0 := Lib.hid (Kept.of_below (al2 w (Obj.cells #[.slice (some ⟨g, oa, none⟩) na ca, .int .i64 s] 160) (Obj.cells #[.slice (some ⟨g, ob, none⟩) nb cb, .int .i64 s] 160)) lo hi)
  have HA := Lib.hid ha
  have hs1 := ha.hs
  have hm1 := ha.hm
  have hstop := ha.stop
  have hpos := ha.pos
  have HB := Lib.hid hb
  have HW := Lib.hid hwin
  have hq1 : (q == 0) = false := by simpa using hq
  have HQ := Lib.hid hq0
  have HQZ := Lib.hid hq
  clear h ha hb hwin hq hq0
  simp only [World.size_alloc] at K2
  go_enter Try.func133, Try.ntmps133
  go_wp2
  obtain ⟨W0, hW0⟩ : ∃ W0, W0 = ((w.alloc (Obj.cells #[.slice (some ⟨g, oa, none⟩) na ca, .int .i64 s] 160)).alloc (Obj.cells #[.slice (some ⟨g, ob, none⟩) nb cb, .int .i64 s] 160)) := ⟨_, rfl⟩
  have s0 : w.heap.size + 1 < W0.heap.size := by rw [hW0]; simp
  rw [← hW0] at K1 K2 HB0 H
  rw [← hW0]
  clear hW0
  go_loopw [7, 6] (fun x _ wr => ∃ (t : Nat) (z : List Int), t ≤ m ∧ x = .int .i64 ((t * s : Nat) : Int) ∧ Sm.subl oa ob s q l t = some z ∧ Own wr lo hi (some ⟨g, 0, none⟩) n c z ∧ Kept lo hi W0 wr) (fun x _ _ => m * s - (intOf x).toNat)
  case atStart => exact ⟨0, l, Nat.zero_le _, by simp, rfl, H.out, Kept.refl _ _ _⟩
  case round =>
    obtain ⟨t, z, ht, rfl, hz, hown, hkept⟩ := hrel
    have HO := Lib.hid hown
    have HK := Lib.hid hkept
    have sz : W0.heap.size ≤ wr.heap.size := hkept.size
    clear hown hkept
    have X1 := Lib.hid (K1.out.kept HK.out (by omega) (by omega))
    have X2 := Lib.hid (K2.out.kept HK.out (by omega) (by omega))
    have hts : t * s ≤ m * s := Nat.mul_le_mul_right s ht
    obtain ⟨p, hp⟩ : ∃ p, t * s = p := ⟨_, rfl⟩
    have HP := Lib.hid hp
    have HZ := Lib.hid hz
    have hwz := Sm.subl_win HW.out hz
    rw [hp] at hts
    obtain ⟨k0, k1⟩ := X1.out
    obtain ⟨l0, l1⟩ := X2.out
    clear hz
    by_cases hlt : t < m
    · obtain ⟨a1, a2⟩ := HA.out.go t hlt
      obtain ⟨b1, b2⟩ := HB.out.go t hlt
      rw [hp] at a1 a2 b1 b2 ⊢
      clear hp
      obtain ⟨g', x, eg, _, _, hx, hcx, hfx⟩ := HO.out.at_ a2
      cases eg
      obtain ⟨g', y, eg, _, _, hy, hcy, hfy⟩ := HO.out.at_ b2
      cases eg
      have bx := hwz (oa + p)
      have by' := hwz (ob + p)
      rw [hx] at bx
      rw [hy] at by'
      have BX := Lib.hid bx
      have BY := Lib.hid by'
      have HX := Lib.hid hx
      have HY := Lib.hid hy
      have e0 : (0 : Int) ≤ (p : Int) := by omega
      have e1 : (p : Int) < (na : Int) := by omega
      have e2 : (p : Int) < (nb : Int) := by omega
      have hgw : g < wr.heap.size := by omega
      clear hx hy bx by' hwz
      by_cases hf : -1000000000000 ≤ x - y * q ∧ x - y * q ≤ 1000000000000
      · have HF := Lib.hid hf
        clear hf
        go_wp2
        go_quiet ((go_at_call 147; exact Calls.quiet_of_same ((sp_yes x y q _ BX.out BY.out HQ.out HF.out).mono fun _ _ h => ⟨h.1, h.2.symm⟩)))
        go_wp2
        go_roundw
        case rel => exact ⟨t + 1, z.set (oa + p) (x - y * q), by omega, by have := HP.out; rw [Nat.add_mul, Nat.one_mul, this]; go_num, by rw [Sm.subl, HZ.out]; dsimp only; rw [HP.out, HX.out, HY.out, Int.mul_comm q y, if_pos HF.out], (HO.out.drewN _).set_ _ _, (HK.out.drewN _).set_ (p := ⟨g, oa + p, none⟩) (by dsimp only; omega) (by dsimp only; omega) _⟩
        case measure => simp [intOf]; omega
      · have HF := Lib.hid hf
        clear hf
        obtain ⟨v, hv⟩ := sp_no x y q BX.out BY.out HQ.out HF.out
        have HV := Lib.hid hv
        clear hv
        go_wp2
        go_quiet ((go_at_call 147; exact Calls.quiet_of_same ((HV.out _).mono fun _ _ h => ⟨h.1, h.2.symm⟩)))
        go_wp2
        go_ret
        have hnone : Sm.subl oa ob s q l m = none := subl_none (t := t + 1) (by rw [Sm.subl, HZ.out]; dsimp only; rw [HP.out, HX.out, HY.out, Int.mul_comm q y, if_neg HF.out]) (by omega)
        rw [hnone]
        exact ⟨rfl, HB0.out.trans (HK.out.drewN _)⟩
    · obtain rfl : t = m := by omega
      rw [hp]
      clear hp
      have e3 : ¬ (p : Int) < (na : Int) := by have := HP.out; omega
      clear hwz
      go_wp2
      go_ret
      rw [HZ.out]
      exact ⟨rfl, HO.out, HB0.out.trans HK.out⟩

end Go.Proofs.Ytpojkahlllochaa
