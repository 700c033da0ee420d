/- The contract of the specification's round for one place. No condition but those that each theorem names. -/
import Derived.Test.YtpojkahlllochaaTsE
namespace Go.Proofs.Ytpojkahlllochaa
open Go.RowKit

/-- What a round for one place answers. -/
def RoundSays (L : Lay) (R C gw a0 a3 : Nat) (o : Sm.Res) (w : World) (e : Ending) (w' : World) : Prop :=
  Kept a0 a3 w w' ∧ match o with
  | .bad => e = .returned (.tuple #[.bool false, .bool false]) ∧ Marked L R C gw w'
  | .fin t => e = .returned (.tuple #[.bool true, .bool false]) ∧ Work L R C gw w' t
  | .all t => e = .returned (.tuple #[.bool true, .bool true]) ∧ Work L R C gw w' t
  | .again t => e = .returned (.tuple #[.bool false, .bool false]) ∧ Work L R C gw w' t
theorem RoundSays.bad {L : Lay} {R C gw a0 a3 : Nat} {o : Sm.Res} {w w' : World} (h : o = .bad) (hk : Kept a0 a3 w w') (hm : Marked L R C gw w') : RoundSays L R C gw a0 a3 o w (.returned (.tuple #[.bool false, .bool false])) w' := by
  subst h; exact ⟨hk, rfl, hm⟩
theorem RoundSays.fin {L : Lay} {R C gw a0 a3 : Nat} {o : Sm.Res} {t : Sm.St} {w w' : World} (h : o = .fin t) (hk : Kept a0 a3 w w') (hm : Work L R C gw w' t) : RoundSays L R C gw a0 a3 o w (.returned (.tuple #[.bool true, .bool false])) w' := by
  subst h; exact ⟨hk, rfl, hm⟩
theorem RoundSays.all {L : Lay} {R C gw a0 a3 : Nat} {o : Sm.Res} {t : Sm.St} {w w' : World} (h : o = .all t) (hk : Kept a0 a3 w w') (hm : Work L R C gw w' t) : RoundSays L R C gw a0 a3 o w (.returned (.tuple #[.bool true, .bool true])) w' := by
  subst h; exact ⟨hk, rfl, hm⟩
theorem RoundSays.again {L : Lay} {R C gw a0 a3 : Nat} {o : Sm.Res} {t : Sm.St} {w w' : World} (h : o = .again t) (hk : Kept a0 a3 w w') (hm : Work L R C gw w' t) : RoundSays L R C gw a0 a3 o w (.returned (.tuple #[.bool false, .bool false])) w' := by
  subst h; exact ⟨hk, rfl, hm⟩

theorem WorkOut.cells3 {L : Lay} {R C gw : Nat} {w : World} {o : Option Sm.St} (h : match o with | some s => Work L R C gw w s | none => Marked L R C gw w) :
    w.cell? ⟨gw, 0, none⟩ = some (.int .i64 R) ∧ w.cell? ⟨gw, 1, none⟩ = some (.int .i64 C) ∧ w.cell? ⟨gw, 2, none⟩ = some (.slice (some ⟨L.gd, 0, none⟩) (R * C) L.cd) := by
  cases o with
  | some s => exact ⟨h.row.box16.1, h.row.box16.2.1, h.row.box16.2.2.1⟩
  | none => exact ⟨(Row.box16 h).1, (Row.box16 h).2.1, (Row.box16 h).2.2.1⟩

set_option maxRecDepth 100000 in
set_option maxHeartbeats 16000000 in
theorem round_work (L : Lay) (R C gw a0 a3 k : Nat) (s : Sm.St) (w : World) (hR : R ≤ 48) (hC : C ≤ 48) (hk : k < R) (hkC : k < C) (hp : Pos L gw a0 a3) (hs : a3 ≤ w.heap.size) (h : Work L R C gw w s) (g : Sm.Good R C s) (hck : Sm.CK R C k s.d) :
    Calls Try.prog 121 #[.pointer (some ⟨gw, 0, none⟩), .int .i64 k] w (RoundSays L R C gw a0 a3 (Sm.round R C k s) w) := by
  have pc1 := rc_le hR hC
  have HPS := Lib.hid hp
  have G1 := Lib.hid g
  have C1 := Lib.hid hck
  have HW0 := Lib.hid h
  have hbd := hp.bd
  clear h g hck hp
  obtain ⟨y0, y1, y2, y3, y4, y5, y6, y7, y8, y9, y10, y11, y12, y13, y14, y15⟩ := HW0.out.row.box16
  go_enter Try.func121, Try.ntmps121
  go_wp2_with fail
  refine (select_work L R C gw a0 a3 k s w hR hC hk hkC HPS.out hs HW0.out G1.out).mono ?_
  rintro e w2 ⟨hk2, hsel⟩
  have K2 := Lib.hid hk2
  have z2 : w.heap.size ≤ w2.heap.size := hk2.size
  clear hk2 y0 y1 y2 y3 y4 y5 y6 y7 y8 y9 y10 y11 y12 y13 y14 y15
  cases he : Sm.selAll C s.d k (R - k) with
  | none =>
    rw [he] at hsel
    obtain ⟨rfl, hw2⟩ := hsel
    have HRO := Lib.hid (Sm.round_all (s := s) he)
    have W2 := Lib.hid hw2
    clear he hw2
    go_wp2
    go_ret2
    exact RoundSays.all HRO.out K2.out W2.out
  | some pp =>
  rw [he] at hsel
  obtain ⟨rfl, hw2⟩ := hsel
  have hle := Sm.selAll_least s.d (show k ≤ C by omega) (R - k)
  rw [he] at hle
  obtain ⟨⟨l1, l2, l3, l4⟩, hnz, _⟩ := hle
  obtain ⟨p, q⟩ := pp
  dsimp only at l1 l2 l3 l4 hnz hw2 ⊢
  have hpR : p < R := by omega
  have HE := Lib.hid he
  have GZ := Lib.hid (G1.out.place (k := k) (p := p) (q := q))
  have hpp : 0 < Sm.ent C (Sm.place R C k p q s).d k k := by
    rw [Sm.place_piv G1.out hk hkC hpR l4]
    have h1 := Sm.av_nonneg (Sm.ent C s.d p q)
    have h2 : Sm.av (Sm.ent C s.d p q) ≠ 0 := fun e => hnz (Sm.av_zero.1 e)
    omega
  have HPP := Lib.hid hpp
  have HBAD1 := Lib.hid (fun (h1 : Sm.rowsFrom R C k (Sm.place R C k p q s) (R - (k + 1)) = none) => Sm.round_bad1 (s := s) HE.out h1)
  have HBAD2 := Lib.hid (fun (t : Sm.St) (h1 : Sm.rowsFrom R C k (Sm.place R C k p q s) (R - (k + 1)) = some t) (h2 : Sm.colsFrom R C k t (C - (k + 1)) = none) => Sm.round_bad2 (s := s) HE.out h1 h2)
  have HNEXT := Lib.hid (fun (t u : Sm.St) (h1 : Sm.rowsFrom R C k (Sm.place R C k p q s) (R - (k + 1)) = some t) (h2 : Sm.colsFrom R C k t (C - (k + 1)) = some u) (h3 : ¬ Sm.Clear R C k u.d) => Sm.round_next (s := s) HE.out h1 h2 h3)
  have HFIN := Lib.hid (fun (t u : Sm.St) (h1 : Sm.rowsFrom R C k (Sm.place R C k p q s) (R - (k + 1)) = some t) (h2 : Sm.colsFrom R C k t (C - (k + 1)) = some u) (h3 : Sm.Clear R C k u.d) (h4 : ∀ i, ¬ Sm.FirstOdd R C k u.d i) => Sm.round_fin (s := s) HE.out h1 h2 h3 h4)
  have HODD := Lib.hid (fun (t u : Sm.St) (i : Nat) (h1 : Sm.rowsFrom R C k (Sm.place R C k p q s) (R - (k + 1)) = some t) (h2 : Sm.colsFrom R C k t (C - (k + 1)) = some u) (h3 : Sm.Clear R C k u.d) (h4 : Sm.FirstOdd R C k u.d i) => Sm.round_odd (s := s) HE.out h1 h2 h3 h4)
  have HAF := Lib.hid (fun (t u : Sm.St) (h1 : Sm.rowsFrom R C k (Sm.place R C k p q s) (R - (k + 1)) = some t) (h2 : Sm.colsFrom R C k t (C - (k + 1)) = some u) => Sm.after_of G1.out hk hkC HE.out h1 h2)
  obtain ⟨z, hz⟩ : ∃ z, Sm.place R C k p q s = z := ⟨_, rfl⟩
  rw [hz] at hw2 GZ HPP HBAD1 HBAD2 HNEXT HFIN HODD HAF
  have W2 := Lib.hid hw2
  clear he hnz hw2 hpp hz HE
  obtain ⟨y0, y1, y2, y3, y4, y5, y6, y7, y8, y9, y10, y11, y12, y13, y14, y15⟩ := W2.out.row.box16
  go_wp2
  clear y0 y1 y2 y3 y4 y5 y6 y7 y8 y9 y10 y11 y12 y13 y14 y15
  go_loopw [6] (fun x wr => ∃ a : Nat, a ≤ R - (k + 1) ∧ x = .int .i64 ((k + 1 + a : Nat) : Int) ∧ Kept a0 a3 w wr ∧ ((∃ t, Sm.rowsFrom R C k z a = some t ∧ Work L R C gw wr t) ∨ (Sm.round R C k s = .bad ∧ Marked L R C gw wr))) (fun x _ => R - (intOf x).toNat)
  case atStart => exact ⟨0, Nat.zero_le _, by simp, K2.out, .inl ⟨z, rfl, W2.out⟩⟩
  case round =>
    obtain ⟨a, ha, rfl, hkept, hor⟩ := hrel
    have K3 := Lib.hid hkept
    have z3 : w.heap.size ≤ wr.heap.size := hkept.size
    obtain ⟨wo, rfl⟩ : ∃ wo : World, wo = wr := ⟨_, rfl⟩
    obtain ⟨i, hi⟩ : ∃ i, k + 1 + a = i := ⟨_, rfl⟩
    rw [hi]
    have HI := Lib.hid hi
    have hiN : i ≤ R := by omega
    have hki : k < i := by omega
    clear hi hkept
    rcases hor with ⟨t, ht, hwt⟩ | ⟨hbad, hmk⟩
    case inr =>
      have HB := Lib.hid hbad
      have MK := Lib.hid hmk
      clear hbad hmk
      obtain ⟨y0, y1, y2, y3, y4, y5, y6, y7, y8, y9, y10, y11, y12, y13, y14, y15⟩ := Row.box16 MK.out
      by_cases hlt : i < R
      · go_wp2
        go_loopw [7] (fun x wr => x = .int .i64 ((k : Int) + 1) ∧ wr = wo) (fun _ _ => 0)
        case atStart => exact ⟨rfl, rfl⟩
        case round =>
          obtain ⟨rfl, rfl⟩ := hrel
          by_cases hjl : (k : Int) + 1 < (C : Int)
          · go_wp2
            go_ret2
            exact RoundSays.bad HB.out K3.out MK.out
          · go_wp2
            go_ret2
            exact RoundSays.bad HB.out K3.out MK.out
      · go_wp2
        go_loopw [7] (fun x wr => x = .int .i64 ((k : Int) + 1) ∧ wr = wo) (fun _ _ => 0)
        case atStart => exact ⟨rfl, rfl⟩
        case round =>
          obtain ⟨rfl, rfl⟩ := hrel
          by_cases hjl : (k : Int) + 1 < (C : Int)
          · go_wp2
            go_ret2
            exact RoundSays.bad HB.out K3.out MK.out
          · go_wp2
            go_ret2
            exact RoundSays.bad HB.out K3.out MK.out
    have HT := Lib.hid ht
    have HWT := Lib.hid hwt
    have gs := Sm.Good.rowsFrom GZ.out ht
    have GS := Lib.hid gs
    have pe := (Sm.rowsFrom_ent GZ.out ht hk hkC (by omega) HPP.out).1
    have ps : 0 < Sm.ent C t.d k k := by rw [pe]; exact HPP.out
    have PS := Lib.hid ps
    clear ht hwt gs pe ps
    by_cases hlt : i < R
    case pos =>
      obtain ⟨x, hx⟩ : ∃ x, t.d.getD (i * C + k) 0 = x := ⟨_, rfl⟩
      obtain ⟨pv, hpv⟩ : ∃ pv, t.d.getD (k * C + k) 0 = pv := ⟨_, rfl⟩
      have hxb := GS.out.wd (i * C + k)
      have hpb := GS.out.wd (k * C + k)
      have hp0 : 0 < pv := by rw [← hpv]; exact PS.out
      rw [hx] at hxb
      rw [hpv] at hpb
      have ATF := fun (x y : Nat) (hx : x < R) (hy : y < C) (W : World) (hW : Below wo.heap.size wo W) => at_spec R C (some ⟨L.gd, 0, none⟩) (R * C) L.cd t.d W ((((HWT.out.below HPS.out (by omega) hW).five.d.ints).more (show L.gd + 1 ≤ W.heap.size by have := hW.size; omega))) (by omega) x y _ (by rw [castM]; omega) (by rw [castM]; have := Nat.mul_le_mul_right C (show x ≤ R by omega); omega) (castI x C y) (ij_lt hx hy)
      have AX := Lib.hid (ATF i k hlt hkC)
      have AP := Lib.hid (ATF k k hk hkC)
      rw [hx] at AX
      rw [hpv] at AP
      have HX := Lib.hid hx
      have HPV := Lib.hid hpv
      have HXB := Lib.hid hxb
      have HPB := Lib.hid (show 0 < pv ∧ pv ≤ 1000000000000 by omega)
      have hqb := Sm.fq_bound hp0 hxb.1 hxb.2
      have HQB := Lib.hid (show -4000000000000 ≤ Sm.fq x pv ∧ Sm.fq x pv ≤ 4000000000000 by omega)
      have X1 := Lib.hid HWT.out.row
      have gwr := HWT.out.row.lt
      clear ATF hx hpv hxb hpb hp0 hqb
      obtain ⟨y0, y1, y2, y3, y4, y5, y6, y7, y8, y9, y10, y11, y12, y13, y14, y15⟩ := X1.out.box16
      go_wp2_with fail
      go_region_held3 (fun W => W.cell? ⟨gw, 0, none⟩ = some (.int .i64 R) ∧ W.cell? ⟨gw, 1, none⟩ = some (.int .i64 C) ∧ W.cell? ⟨gw, 2, none⟩ = some (.slice (some ⟨L.gd, 0, none⟩) (R * C) L.cd)) (go_keep)
        (first
          | (go_at_call 112; (with_reducible refine (AX.out _ (by exact (Below.refl _ _).drew)).mono ?_); rintro e w6 ⟨rfl, hb'⟩; have B6 := Lib.hid (undrew hb'); have z6 := B6.out.size; obtain ⟨e0, e1, e2, e3, e4, e5, e6, e7, e8, e9, e10, e11, e12, e13, e14, e15⟩ := (X1.out.below B6.out (by omega)).box16; clear hb')
          | (go_at_call 112; (with_reducible refine (AP.out _ (by exact B6.out)).mono ?_); rintro e w7 ⟨rfl, hb'⟩; have B7 := Lib.hid (B6.out.trans (hb'.mono z6)); have z7 := B7.out.size; obtain ⟨f0, f1, f2, f3, f4, f5, f6, f7, f8, f9, f10, f11, f12, f13, f14, f15⟩ := (X1.out.below B7.out (by omega)).box16; clear hb')
          | (go_at_call 137; (with_reducible refine (fq_spec x pv _ HXB.out HPB.out).mono ?_); rintro e w8 ⟨rfl, rfl⟩)
          | (go_at_call 136; (with_reducible refine (row_work L R C gw a0 a3 i k (Sm.fq x pv) t _ hR hC hlt hk HPS.out (by omega) (by exact HWT.out.below HPS.out (by omega) B7.out) GS.out HQB.out).mono ?_); rintro e w9 ⟨rfl, hk9', h9'⟩; have H9 := Lib.hid h9'; have KK9 := Lib.hid hk9'; obtain ⟨g0, g1, g2⟩ := WorkOut.cells3 h9'; clear hk9' h9'))
      clear y0 y1 y2 y3 y4 y5 y6 y7 y8 y9 y10 y11 y12 y13 y14 y15 e0 e1 e2 e3 e4 e5 e6 e7 e8 e9 e10 e11 e12 e13 e14 e15 f0 f1 f2 f3 f4 f5 f6 f7 f8 f9 f10 f11 f12 f13 f14 f15 g0 g1 g2
      have h9 := H9.out
      have hk9 := KK9.out
      clear H9 KK9
      have Q9 := Lib.hid (show Sm.rowsFrom R C k z (a + 1) = Sm.rowSub R C i k (Sm.fq x pv) t by
        rw [Sm.rowsFrom, HT.out, HI.out]
        show Sm.rowSub R C i k (Sm.fq (t.d.getD (i * C + k) 0) (t.d.getD (k * C + k) 0)) t = _
        rw [HX.out, HPV.out])
      have K9 := Lib.hid (K3.out.trans ((Kept.of_below B7.out _ _).trans hk9))
      have z9 : w.heap.size ≤ w9.heap.size := by have := hk9.size; omega
      clear hk9
      cases hq : Sm.rowSub R C i k (Sm.fq x pv) t with
      | none =>
        rw [hq] at h9
        have hn := rowsFrom_none (R := R) (C := C) (k := k) (s := z) (a := a + 1) (b := R - (k + 1)) (by rw [Q9.out, hq]) (by have := HI.out; omega)
        have HBD := Lib.hid (HBAD1.out hn)
        have MK := Lib.hid h9
        clear hq hn h9
        go_wp2
        go_roundw
        case rel => exact ⟨a + 1, by have := HI.out; omega, by have := HI.out; go_num, K9.out, .inr ⟨HBD.out, MK.out⟩⟩
        case measure => simp [intOf]; omega
      | some s9 =>
        rw [hq] at h9
        have W9 := Lib.hid h9
        have HQ := Lib.hid hq
        clear hq h9
        go_wp2
        go_roundw
        case rel => exact ⟨a + 1, by have := HI.out; omega, by have := HI.out; go_num, K9.out, .inl ⟨s9, by rw [Q9.out, HQ.out], W9.out⟩⟩
        case measure => simp [intOf]; omega
    have ha2 : a = R - (k + 1) := by have := HI.out; omega
    have HROW := Lib.hid (show Sm.rowsFrom R C k z (R - (k + 1)) = some t by rw [← ha2]; exact HT.out)
    have PT := Lib.hid PS.out
    have GT := Lib.hid GS.out
    clear ha2 HT PS GS
    obtain ⟨y0, y1, y2, y3, y4, y5, y6, y7, y8, y9, y10, y11, y12, y13, y14, y15⟩ := HWT.out.row.box16
    go_wp2
    clear y0 y1 y2 y3 y4 y5 y6 y7 y8 y9 y10 y11 y12 y13 y14 y15
    go_loopw [7] (fun x wr => ∃ b : Nat, b ≤ C - (k + 1) ∧ x = .int .i64 ((k + 1 + b : Nat) : Int) ∧ Kept a0 a3 w wr ∧ ((∃ u, Sm.colsFrom R C k t b = some u ∧ Work L R C gw wr u) ∨ (Sm.round R C k s = .bad ∧ Marked L R C gw wr))) (fun x _ => C - (intOf x).toNat)
    case atStart => exact ⟨0, Nat.zero_le _, by simp, K3.out, .inl ⟨t, rfl, HWT.out⟩⟩
    case round =>
      obtain ⟨b, hb, rfl, hkept, hor⟩ := hrel
      have K4 := Lib.hid hkept
      have z4 : w.heap.size ≤ wr.heap.size := hkept.size
      obtain ⟨j, hj⟩ : ∃ j, k + 1 + b = j := ⟨_, rfl⟩
      rw [hj]
      have HJ := Lib.hid hj
      have hjN : j ≤ C := by omega
      have hkj : k < j := by omega
      clear hj hkept
      rcases hor with ⟨u, hu, hwu⟩ | ⟨hbad, hmk⟩
      case inr =>
        have HB := Lib.hid hbad
        have MK := Lib.hid hmk
        clear hbad hmk
        obtain ⟨y0, y1, y2, y3, y4, y5, y6, y7, y8, y9, y10, y11, y12, y13, y14, y15⟩ := Row.box16 MK.out
        by_cases hjl : j < C
        · go_wp2
          go_ret2
          exact RoundSays.bad HB.out K4.out MK.out
        · go_wp2
          go_ret2
          exact RoundSays.bad HB.out K4.out MK.out
      have HU := Lib.hid hu
      have HWU := Lib.hid hwu
      have gs := Sm.Good.colsFrom GT.out hu
      have GS := Lib.hid gs
      have pe := (Sm.colsFrom_ent GT.out hu hk hkC (by omega) PT.out).1
      have ps : 0 < Sm.ent C u.d k k := by rw [pe]; exact PT.out
      have PS := Lib.hid ps
      clear hu hwu gs pe ps
      by_cases hjl : j < C
      case pos =>
        obtain ⟨x, hx⟩ : ∃ x, u.d.getD (k * C + j) 0 = x := ⟨_, rfl⟩
        obtain ⟨pv, hpv⟩ : ∃ pv, u.d.getD (k * C + k) 0 = pv := ⟨_, rfl⟩
        have hxb := GS.out.wd (k * C + j)
        have hpb := GS.out.wd (k * C + k)
        have hp0 : 0 < pv := by rw [← hpv]; exact PS.out
        rw [hx] at hxb
        rw [hpv] at hpb
        have ATF := fun (x y : Nat) (hx : x < R) (hy : y < C) (W : World) (hW : Below wr.heap.size wr W) => at_spec R C (some ⟨L.gd, 0, none⟩) (R * C) L.cd u.d W ((((HWU.out.below HPS.out (by omega) hW).five.d.ints).more (show L.gd + 1 ≤ W.heap.size by have := hW.size; omega))) (by omega) x y _ (by rw [castM]; omega) (by rw [castM]; have := Nat.mul_le_mul_right C (show x ≤ R by omega); omega) (castI x C y) (ij_lt hx hy)
        have AX := Lib.hid (ATF k j hk hjl)
        have AP := Lib.hid (ATF k k hk hkC)
        rw [hx] at AX
        rw [hpv] at AP
        have HX := Lib.hid hx
        have HPV := Lib.hid hpv
        have HXB := Lib.hid hxb
        have HPB := Lib.hid (show 0 < pv ∧ pv ≤ 1000000000000 by omega)
        have hqb := Sm.fq_bound hp0 hxb.1 hxb.2
        have HQB := Lib.hid (show -4000000000000 ≤ Sm.fq x pv ∧ Sm.fq x pv ≤ 4000000000000 by omega)
        have X1 := Lib.hid HWU.out.row
        have gwr := HWU.out.row.lt
        clear ATF hx hpv hxb hpb hp0 hqb
        obtain ⟨y0, y1, y2, y3, y4, y5, y6, y7, y8, y9, y10, y11, y12, y13, y14, y15⟩ := X1.out.box16
        go_wp2_with fail
        go_region_held3 (fun W => W.cell? ⟨gw, 0, none⟩ = some (.int .i64 R) ∧ W.cell? ⟨gw, 1, none⟩ = some (.int .i64 C) ∧ W.cell? ⟨gw, 2, none⟩ = some (.slice (some ⟨L.gd, 0, none⟩) (R * C) L.cd)) (go_keep)
          (first
            | (go_at_call 112; (with_reducible refine (AX.out _ (by exact (Below.refl _ _).drew)).mono ?_); rintro e w6 ⟨rfl, hb'⟩; have B6 := Lib.hid (undrew hb'); have z6 := B6.out.size; obtain ⟨e0, e1, e2, e3, e4, e5, e6, e7, e8, e9, e10, e11, e12, e13, e14, e15⟩ := (X1.out.below B6.out (by omega)).box16; clear hb')
            | (go_at_call 112; (with_reducible refine (AP.out _ (by exact B6.out)).mono ?_); rintro e w7 ⟨rfl, hb'⟩; have B7 := Lib.hid (B6.out.trans (hb'.mono z6)); have z7 := B7.out.size; obtain ⟨f0, f1, f2, f3, f4, f5, f6, f7, f8, f9, f10, f11, f12, f13, f14, f15⟩ := (X1.out.below B7.out (by omega)).box16; clear hb')
            | (go_at_call 137; (with_reducible refine (fq_spec x pv _ HXB.out HPB.out).mono ?_); rintro e w8 ⟨rfl, rfl⟩)
            | (go_at_call 138; (with_reducible refine (col_work L R C gw a0 a3 j k (Sm.fq x pv) u _ hR hC hjl hkC HPS.out (by omega) (by exact HWU.out.below HPS.out (by omega) B7.out) GS.out HQB.out).mono ?_); rintro e w9 ⟨rfl, hk9', h9'⟩; have H9 := Lib.hid h9'; have KK9 := Lib.hid hk9'; obtain ⟨g0, g1, g2⟩ := WorkOut.cells3 h9'; clear hk9' h9'))
        clear y0 y1 y2 y3 y4 y5 y6 y7 y8 y9 y10 y11 y12 y13 y14 y15 e0 e1 e2 e3 e4 e5 e6 e7 e8 e9 e10 e11 e12 e13 e14 e15 f0 f1 f2 f3 f4 f5 f6 f7 f8 f9 f10 f11 f12 f13 f14 f15 g0 g1 g2
        have h9 := H9.out
        have hk9 := KK9.out
        clear H9 KK9
        have Q9 := Lib.hid (show Sm.colsFrom R C k t (b + 1) = Sm.colSub R C j k (Sm.fq x pv) u by
          rw [Sm.colsFrom, HU.out, HJ.out]
          show Sm.colSub R C j k (Sm.fq (u.d.getD (k * C + j) 0) (u.d.getD (k * C + k) 0)) u = _
          rw [HX.out, HPV.out])
        have K9 := Lib.hid (K4.out.trans ((Kept.of_below B7.out _ _).trans hk9))
        have z9 : w.heap.size ≤ w9.heap.size := by have := hk9.size; omega
        clear hk9
        cases hq : Sm.colSub R C j k (Sm.fq x pv) u with
        | none =>
          rw [hq] at h9
          have hn := colsFrom_none (R := R) (C := C) (k := k) (s := t) (a := b + 1) (b := C - (k + 1)) (by rw [Q9.out, hq]) (by have := HJ.out; omega)
          have HBD := Lib.hid (HBAD2.out t HROW.out hn)
          have MK := Lib.hid h9
          clear hq hn h9
          go_wp2
          go_roundw
          case rel => exact ⟨b + 1, by have := HJ.out; omega, by have := HJ.out; go_num, K9.out, .inr ⟨HBD.out, MK.out⟩⟩
          case measure => simp [intOf]; omega
        | some s9 =>
          rw [hq] at h9
          have W9 := Lib.hid h9
          have HQ := Lib.hid hq
          clear hq h9
          go_wp2
          go_roundw
          case rel => exact ⟨b + 1, by have := HJ.out; omega, by have := HJ.out; go_num, K9.out, .inl ⟨s9, by rw [Q9.out, HQ.out], W9.out⟩⟩
          case measure => simp [intOf]; omega
      have hb2 : b = C - (k + 1) := by have := HJ.out; omega
      have HCOL := Lib.hid (show Sm.colsFrom R C k t (C - (k + 1)) = some u by rw [← hb2]; exact HU.out)
      have A5 := Lib.hid (HAF.out t u HROW.out HCOL.out)
      clear hb2 HU
      obtain ⟨y0, y1, y2, y3, y4, y5, y6, y7, y8, y9, y10, y11, y12, y13, y14, y15⟩ := HWU.out.row.box16
      go_wp2_with fail
      refine (clear_work L R C gw a0 a3 k u _ hR hC hk hkC HPS.out (by omega) HWU.out).mono ?_
      rintro e w6 ⟨f, rfl, hf, hb6⟩
      have W6 := Lib.hid (HWU.out.below HPS.out (by omega) hb6)
      have K6 := Lib.hid (K4.out.trans (Kept.of_below hb6 _ _))
      have z6 : w.heap.size ≤ w6.heap.size := by have := hb6.size; omega
      clear hb6 y0 y1 y2 y3 y4 y5 y6 y7 y8 y9 y10 y11 y12 y13 y14 y15
      by_cases hc : Sm.Clear R C k u.d
      case neg =>
        obtain rfl : f = false := by
          cases f
          · rfl
          · exact absurd (hf.1 rfl) hc
        have HRO := Lib.hid (HNEXT.out t u HROW.out HCOL.out hc)
        clear hf hc
        go_wp2
        go_ret2
        exact RoundSays.again HRO.out K6.out W6.out
      obtain rfl : f = true := hf.2 hc
      have HC := Lib.hid hc
      clear hf hc
      obtain ⟨y0, y1, y2, y3, y4, y5, y6, y7, y8, y9, y10, y11, y12, y13, y14, y15⟩ := W6.out.row.box16
      go_wp2_with fail
      refine (odd_work L R C gw a0 a3 k u _ hR hC hk hkC HPS.out (by omega) W6.out GS.out.wd PS.out).mono ?_
      rintro e w7 ⟨hodd, hb7⟩
      have W7 := Lib.hid (W6.out.below HPS.out (by omega) hb7)
      have K7 := Lib.hid (K6.out.trans (Kept.of_below hb7 _ _))
      have z7 : w.heap.size ≤ w7.heap.size := by have := hb7.size; omega
      clear hb7 y0 y1 y2 y3 y4 y5 y6 y7 y8 y9 y10 y11 y12 y13 y14 y15
      rcases hodd with ⟨i', ho, rfl⟩ | ⟨ho, rfl⟩
      case inr =>
        have HRO := Lib.hid (HFIN.out t u HROW.out HCOL.out HC.out ho)
        clear ho
        go_wp2
        go_ret2
        exact RoundSays.fin HRO.out K7.out W7.out
      have HRO := Lib.hid (HODD.out t u i' HROW.out HCOL.out HC.out ho)
      have hiR : i' < R := ho.2.1
      have hki' : k < i' := ho.1
      have tneg : decide ((i' : Int) < 0) = false := by simp
      clear ho
      obtain ⟨y0, y1, y2, y3, y4, y5, y6, y7, y8, y9, y10, y11, y12, y13, y14, y15⟩ := W7.out.row.box16
      go_wp2_with fail
      refine (row_work L R C gw a0 a3 k i' (-1) u _ hR hC hk hiR HPS.out (by omega) W7.out GS.out (by omega)).mono ?_
      rintro e w8 ⟨rfl, hk8, h8⟩
      have K8 := Lib.hid (K7.out.trans hk8)
      clear hk8 y0 y1 y2 y3 y4 y5 y6 y7 y8 y9 y10 y11 y12 y13 y14 y15
      cases hsub : Sm.rowSub R C k i' (-1) u with
      | none =>
        rw [hsub] at h8
        have hro := HRO.out
        rw [hsub] at hro
        have HRP := Lib.hid hro
        have MK := Lib.hid h8
        clear hro hsub h8
        go_wp2
        go_ret2
        exact RoundSays.bad HRP.out K8.out MK.out
      | some v =>
        rw [hsub] at h8
        have hro := HRO.out
        rw [hsub] at hro
        have HRP := Lib.hid hro
        have W8 := Lib.hid h8
        clear hro hsub h8
        go_wp2
        go_ret2
        exact RoundSays.again HRP.out K8.out W8.out

end Go.Proofs.Ytpojkahlllochaa
