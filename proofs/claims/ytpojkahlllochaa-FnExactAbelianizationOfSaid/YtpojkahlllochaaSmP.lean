/- The contract of the rounds for one place, the program's. No condition but those that each theorem names. -/
import Derived.Test.YtpojkahlllochaaSmO
import Derived.Deep.LoopGhost
namespace Go.Proofs.Ytpojkahlllochaa
open Go.RowKit

/-- The state that the rounds for one place leave; none where an entry leaves the limit. -/
def resOut : Sm.Res → Option Sm.St
  | .bad => none
  | .fin s => some s
  | .all s => some s
  | .again _ => none

set_option maxRecDepth 100000 in
set_option maxHeartbeats 16000000 in
theorem settle_impl (L : Lay) (R C k n : Nat) (z : Sm.St) (o : Sm.Res) (w : World) (hR : R ≤ 48) (hC : C ≤ 48) (hk : k < R) (hkC : k < C) (ok : L.Ok w) (h : Five L R C w z) (g : Sm.Good R C z) (hck : Sm.CK R C k z.d) (hr : Sm.Runs R C k n z o) :
    Calls Try.prog 115 #[.agg #[.int .i64 R, .int .i64 R, .slice (some ⟨L.gl, 0, none⟩) (R * R) L.cl, .int .i64 R, .int .i64 R, .slice (some ⟨L.gli, 0, none⟩) (R * R) L.cli, .int .i64 R, .int .i64 C, .slice (some ⟨L.gd, 0, none⟩) (R * C) L.cd, .int .i64 C, .int .i64 C, .slice (some ⟨L.gr, 0, none⟩) (C * C) L.cr, .int .i64 C, .int .i64 C, .slice (some ⟨L.gri, 0, none⟩) (C * C) L.cri], .int .i64 k] w (FiveSays L R C (resOut o) w) := by
  have p1 := rc_le hR hC
  have X0 := Lib.hid (Row.new w #[.int .i64 R, .int .i64 R, .slice (some ⟨L.gl, 0, none⟩) (R * R) L.cl, .int .i64 R, .int .i64 R, .slice (some ⟨L.gli, 0, none⟩) (R * R) L.cli, .int .i64 R, .int .i64 C, .slice (some ⟨L.gd, 0, none⟩) (R * C) L.cd, .int .i64 C, .int .i64 C, .slice (some ⟨L.gr, 0, none⟩) (C * C) L.cr, .int .i64 C, .int .i64 C, .slice (some ⟨L.gri, 0, none⟩) (C * C) L.cri] 120)
  have HB0 := Lib.hid (Kept.of_below (al1 w (Obj.cells #[.int .i64 R, .int .i64 R, .slice (some ⟨L.gl, 0, none⟩) (R * R) L.cl, .int .i64 R, .int .i64 R, .slice (some ⟨L.gli, 0, none⟩) (R * R) L.cli, .int .i64 R, .int .i64 C, .slice (some ⟨L.gd, 0, none⟩) (R * C) L.cd, .int .i64 C, .int .i64 C, .slice (some ⟨L.gr, 0, none⟩) (C * C) L.cr, .int .i64 C, .int .i64 C, .slice (some ⟨L.gri, 0, none⟩) (C * C) L.cri] 120)) L.b0 L.b5)
  have H0 := Lib.hid (h.below ok (al1 w (Obj.cells #[.int .i64 R, .int .i64 R, .slice (some ⟨L.gl, 0, none⟩) (R * R) L.cl, .int .i64 R, .int .i64 R, .slice (some ⟨L.gli, 0, none⟩) (R * R) L.cli, .int .i64 R, .int .i64 C, .slice (some ⟨L.gd, 0, none⟩) (R * C) L.cd, .int .i64 C, .int .i64 C, .slice (some ⟨L.gr, 0, none⟩) (C * C) L.cr, .int .i64 C, .int .i64 C, .slice (some ⟨L.gri, 0, none⟩) (C * C) L.cri] 120)))
  have OK := Lib.hid ok
  have i5 := ok.i5
  have G := Lib.hid g
  have HCK := Lib.hid hck
  have HRN := Lib.hid hr
  clear h ok g hck hr
  go_enter Try.func115, Try.ntmps115
  go_wp2
  obtain ⟨W0, hW0⟩ : ∃ W0, W0 = (w.alloc (Obj.cells #[.int .i64 R, .int .i64 R, .slice (some ⟨L.gl, 0, none⟩) (R * R) L.cl, .int .i64 R, .int .i64 R, .slice (some ⟨L.gli, 0, none⟩) (R * R) L.cli, .int .i64 R, .int .i64 C, .slice (some ⟨L.gd, 0, none⟩) (R * C) L.cd, .int .i64 C, .int .i64 C, .slice (some ⟨L.gr, 0, none⟩) (C * C) L.cr, .int .i64 C, .int .i64 C, .slice (some ⟨L.gri, 0, none⟩) (C * C) L.cri] 120)) := ⟨_, rfl⟩
  have s0 : w.heap.size < W0.heap.size := by rw [hW0]; simp
  rw [← hW0] at X0 HB0 H0
  rw [← hW0]
  clear hW0
  go_loopg [5, 6, 7] n (fun g _ _ _ wr => ∃ s : Sm.St, Five L R C wr s ∧ Sm.Good R C s ∧ Sm.CK R C k s.d ∧ Kept L.b0 L.b5 W0 wr ∧ Sm.Runs R C k g s o)
  case atStart => exact ⟨z, H0.out, G.out, HCK.out, Kept.refl _ _ _, HRN.out⟩
  case round =>
    obtain ⟨s, hfive, hg, hck, hkept, hruns⟩ := hrel
    obtain ⟨m, hm⟩ : ∃ m, gk = m + 1 := by
      cases gk with
      | zero => exact hruns.elim
      | succ m => exact ⟨m, rfl⟩
    subst hm
    rw [Sm.Runs] at hruns
    have F1 := Lib.hid hfive
    have G1 := Lib.hid hg
    have C1 := Lib.hid hck
    have K1 := Lib.hid hkept
    have HRU := Lib.hid hruns
    have z1 : W0.heap.size ≤ wr.heap.size := hkept.size
    have z1' : w.heap.size < wr.heap.size := by omega
    have X1 := Lib.hid (X0.out.kept hkept (by omega))
    have OK1 := Lib.hid (OK.out.more (show w.heap.size ≤ wr.heap.size by omega))
    clear hfive hg hck hkept hruns
    obtain ⟨b0, b1, b2⟩ := X1.out.box
    go_wp2_with fail
    refine (small_impl R C k _ _ _ s.d _ (F1.out.intsD OK1.out) rfl hR hC hk hkC G1.out.wd).mono ?_
    rintro e w2 ⟨x, y, f, rfl, hsel, hb2⟩
    have F2 := Lib.hid (F1.out.below OK1.out hb2)
    have X2 := Lib.hid (X1.out.below hb2 z1')
    have K2 := Lib.hid (K1.out.trans (Kept.of_below hb2 _ _))
    have z2 : w.heap.size < w2.heap.size := by have := hb2.size; omega
    have OK2 := Lib.hid (OK.out.more (show w.heap.size ≤ w2.heap.size by omega))
    clear hb2 b0 b1 b2 X1 F1 K1 OK1 z1 z1'
    cases he : Sm.selAll C s.d k (R - k) with
    | none =>
      rw [he] at hsel
      dsimp only at hsel
      subst hsel
      have hro := HRU.out
      rw [Sm.round_all he] at hro
      have HRO := Lib.hid hro
      clear hro he
      go_wp2
      go_ret
      have := HRO.out
      rw [show o = Sm.Res.all s from this]
      exact ⟨rfl, F2.out, HB0.out.trans K2.out⟩
    | some p =>
    rw [he] at hsel
    obtain ⟨rfl, rfl, rfl⟩ := hsel
    have hle := Sm.selAll_least s.d (show k ≤ C by omega) (R - k)
    rw [he] at hle
    obtain ⟨⟨l1, l2, l3, l4⟩, hnz, _⟩ := hle
    obtain ⟨p, q⟩ := p
    dsimp only at l1 l2 l3 l4 hnz ⊢
    have hpR : p < R := by omega
    have HE := Lib.hid he
    have HNZ := Lib.hid hnz
    clear he hnz
    obtain ⟨y0, y1, y2, y3, y4, y5, y6, y7, y8, y9, y10, y11, y12, y13, y14⟩ := X2.out.box15
    go_wp2_with fail
    refine (place_impl L R C k p q s _ hR hC hk hkC hpR l4 OK2.out F2.out G1.out HNZ.out).mono ?_
    rintro e w3 ⟨rfl, hf3, hk3⟩
    have F3 := Lib.hid hf3
    have X3 := Lib.hid (X2.out.kept hk3 (by omega))
    have K3 := Lib.hid (K2.out.trans hk3)
    have z3 : w.heap.size < w3.heap.size := by have := hk3.size; omega
    have OK3 := Lib.hid (OK.out.more (show w.heap.size ≤ w3.heap.size by omega))
    have G3 := Lib.hid (G1.out.place (k := k) (p := p) (q := q))
    have hpp : 0 < Sm.ent C (Sm.place R C k p q s).d k k := by
      rw [Sm.place_piv G1.out hk hkC hpR l4]
      have h1 := Sm.av_nonneg (Sm.ent C s.d p q)
      have h2 : Sm.av (Sm.ent C s.d p q) ≠ 0 := fun e => HNZ.out (Sm.av_zero.1 e)
      omega
    have HPP := Lib.hid hpp
    clear hf3 hk3 y0 y1 y2 y3 y4 y5 y6 y7 y8 y9 y10 y11 y12 y13 y14 hpp
    obtain ⟨y0, y1, y2, y3, y4, y5, y6, y7, y8, y9, y10, y11, y12, y13, y14⟩ := X3.out.box15
    go_wp2_with fail
    refine (rowsBelow_impl L R C k _ _ hR hC hk hkC OK3.out F3.out G3.out HPP.out).mono ?_
    intro e w4 h4
    cases hrow : Sm.rowsFrom R C k (Sm.place R C k p q s) (R - (k + 1)) with
    | none =>
      rw [hrow] at h4
      obtain ⟨rfl, hk4⟩ := h4
      have hro := HRU.out
      rw [Sm.round_bad1 HE.out hrow] at hro
      have HRO := Lib.hid hro
      have K4 := Lib.hid (K3.out.trans hk4)
      clear hk4 hro hrow y0 y1 y2 y3 y4 y5 y6 y7 y8 y9 y10 y11 y12 y13 y14
      go_wp2
      go_ret
      have := HRO.out
      rw [show o = Sm.Res.bad from this]
      exact ⟨rfl, HB0.out.trans K4.out⟩
    | some t =>
    rw [hrow] at h4
    obtain ⟨rfl, hf4, hk4⟩ := h4
    have HROW := Lib.hid hrow
    have F4 := Lib.hid hf4
    have X4 := Lib.hid (X3.out.kept hk4 (by omega))
    have K4 := Lib.hid (K3.out.trans hk4)
    have z4 : w.heap.size < w4.heap.size := by have := hk4.size; omega
    have OK4 := Lib.hid (OK.out.more (show w.heap.size ≤ w4.heap.size by omega))
    have G4 := Lib.hid (G3.out.rowsFrom hrow)
    have hpt : 0 < Sm.ent C t.d k k := by
      rw [(Sm.rowsFrom_ent G3.out hrow hk hkC (by omega) HPP.out).1]; exact HPP.out
    have HPT := Lib.hid hpt
    clear hf4 hk4 y0 y1 y2 y3 y4 y5 y6 y7 y8 y9 y10 y11 y12 y13 y14 hpt hrow
    obtain ⟨y0, y1, y2, y3, y4, y5, y6, y7, y8, y9, y10, y11, y12, y13, y14⟩ := X4.out.box15
    go_wp2_with fail
    refine (colsBelow_impl L R C k _ _ hR hC hk hkC OK4.out F4.out G4.out HPT.out).mono ?_
    intro e w5 h5
    cases hcol : Sm.colsFrom R C k t (C - (k + 1)) with
    | none =>
      rw [hcol] at h5
      obtain ⟨rfl, hk5⟩ := h5
      have hro := HRU.out
      rw [Sm.round_bad2 HE.out HROW.out hcol] at hro
      have HRO := Lib.hid hro
      have K5 := Lib.hid (K4.out.trans hk5)
      clear hk5 hro hcol y0 y1 y2 y3 y4 y5 y6 y7 y8 y9 y10 y11 y12 y13 y14
      go_wp2
      go_ret
      have := HRO.out
      rw [show o = Sm.Res.bad from this]
      exact ⟨rfl, HB0.out.trans K5.out⟩
    | some u =>
    rw [hcol] at h5
    obtain ⟨rfl, hf5, hk5⟩ := h5
    have HCOL := Lib.hid hcol
    have F5 := Lib.hid hf5
    have X5 := Lib.hid (X4.out.kept hk5 (by omega))
    have K5 := Lib.hid (K4.out.trans hk5)
    have z5 : w.heap.size < w5.heap.size := by have := hk5.size; omega
    have OK5 := Lib.hid (OK.out.more (show w.heap.size ≤ w5.heap.size by omega))
    have A5 := Lib.hid (Sm.after_of G1.out hk hkC HE.out HROW.out hcol)
    have C5 := Lib.hid (Sm.ck_of C1.out G1.out hk hkC HE.out HROW.out hcol)
    clear hf5 hk5 y0 y1 y2 y3 y4 y5 y6 y7 y8 y9 y10 y11 y12 y13 y14 hcol
    obtain ⟨b0, b1, b2⟩ := X5.out.box
    go_wp2_with fail
    refine (alone_impl R C k _ _ _ u.d _ (F5.out.intsD OK5.out) rfl hR hC hk hkC).mono ?_
    rintro e w6 ⟨f, rfl, hf, hb6⟩
    rw [alone_iff C5.out hk hkC] at hf
    have F6 := Lib.hid (F5.out.below OK5.out hb6)
    have X6 := Lib.hid (X5.out.below hb6 z5)
    have K6 := Lib.hid (K5.out.trans (Kept.of_below hb6 _ _))
    have z6 : w.heap.size < w6.heap.size := by have := hb6.size; omega
    have OK6 := Lib.hid (OK.out.more (show w.heap.size ≤ w6.heap.size by omega))
    clear hb6 b0 b1 b2
    by_cases hc : Sm.Clear R C k u.d
    case neg =>
      obtain rfl : f = false := by
        cases f
        · rfl
        · exact absurd (hf.1 rfl) hc
      have hro := HRU.out
      rw [Sm.round_next HE.out HROW.out HCOL.out hc] at hro
      have HRO := Lib.hid hro
      clear hf hro hc
      go_wp2
      go_roundg m
      case measure => omega
      case rel => exact ⟨u, F6.out, A5.out.good, C5.out, K6.out, HRO.out⟩
    obtain rfl : f = true := hf.2 hc
    have HC := Lib.hid hc
    clear hf hc
    obtain ⟨b0, b1, b2⟩ := X6.out.box
    go_wp2_with fail
    refine (odd_impl R C k _ _ _ u.d _ (F6.out.intsD OK6.out) rfl hR hC hk hkC A5.out.good.wd (by rw [A5.out.piv]; exact A5.out.pos)).mono ?_
    rintro e w7 ⟨hodd, hb7⟩
    have F7 := Lib.hid (F6.out.below OK6.out hb7)
    have X7 := Lib.hid (X6.out.below hb7 z6)
    have K7 := Lib.hid (K6.out.trans (Kept.of_below hb7 _ _))
    have z7 : w.heap.size < w7.heap.size := by have := hb7.size; omega
    have OK7 := Lib.hid (OK.out.more (show w.heap.size ≤ w7.heap.size by omega))
    clear hb7 b0 b1 b2
    rcases hodd with ⟨i, ho, rfl⟩ | ⟨ho, rfl⟩
    case inr =>
      have hro := HRU.out
      rw [Sm.round_fin HE.out HROW.out HCOL.out HC.out ho] at hro
      have HRO := Lib.hid hro
      clear hro ho
      go_wp2
      go_ret
      have := HRO.out
      rw [show o = Sm.Res.fin u from this]
      exact ⟨rfl, F7.out, HB0.out.trans K7.out⟩
    have hro := HRU.out
    rw [Sm.round_odd HE.out HROW.out HCOL.out HC.out ho] at hro
    have HRO := Lib.hid hro
    have HO := Lib.hid ho
    have hiR : i < R := ho.2.1
    have hki : k < i := ho.1
    clear hro ho
    obtain ⟨y0, y1, y2, y3, y4, y5, y6, y7, y8, y9, y10, y11, y12, y13, y14⟩ := X7.out.box15
    go_wp2_with fail
    refine (rowSub_impl L R C u _ (by omega) (by omega) hR hC OK7.out F7.out k i (-1) A5.out.good hk hiR (by omega)).mono ?_
    intro e w8 h8
    cases hsub : Sm.rowSub R C k i (-1) u with
    | none =>
      rw [hsub] at h8
      obtain ⟨rfl, hk8⟩ := h8
      have hro := HRO.out
      rw [hsub] at hro
      have HRP := Lib.hid hro
      have K8 := Lib.hid (K7.out.trans hk8)
      clear hk8 hro hsub y0 y1 y2 y3 y4 y5 y6 y7 y8 y9 y10 y11 y12 y13 y14
      go_wp2
      go_ret
      have := HRP.out
      rw [show o = Sm.Res.bad from this]
      exact ⟨rfl, HB0.out.trans K8.out⟩
    | some v =>
      rw [hsub] at h8
      obtain ⟨rfl, hf8, hk8⟩ := h8
      have hro := HRO.out
      rw [hsub] at hro
      have HRP := Lib.hid hro
      have K8 := Lib.hid (K7.out.trans hk8)
      have F8 := Lib.hid hf8
      have HV := Lib.hid hsub
      clear hk8 hf8 hro hsub y0 y1 y2 y3 y4 y5 y6 y7 y8 y9 y10 y11 y12 y13 y14
      go_wp2
      go_roundg m
      case measure => omega
      case rel => exact ⟨v, F8.out, A5.out.good.rowSub HV.out, C5.out.rowSub A5.out.good HV.out hk hiR (by omega) (Nat.le_refl k) (by omega), K8.out, HRP.out⟩

end Go.Proofs.Ytpojkahlllochaa
