/- Contracts of the steps as functions on states, and of the functions that clear the rows below and the columns behind a pivot, the program's. No condition but those that each theorem names. -/
import Derived.Test.YtpojkahlllochaaSmKb
import Derived.Test.YtpojkahlllochaaSmKc
import Derived.Test.YtpojkahlllochaaSmM
namespace Go.Proofs.Ytpojkahlllochaa
open Go.RowKit

theorem line_row {R C i : Nat} (hi : i < R) (hC : C ≤ 48) : Line (i * C) 1 C C (R * C) where
  pos := by omega
  hs := by omega
  hm := by omega
  stop := by omega
  go t ht := ⟨by omega, by rw [Nat.mul_one]; exact ij_lt hi ht⟩
theorem line_col {R C j : Nat} (hj : j < C) (hR : R ≤ 48) (hC : C ≤ 48) : Line j C R (R * C - j) (R * C) where
  pos := by omega
  hs := hC
  hm := by have := rc_le hR hC; omega
  stop := by omega
  go t ht := by have := ij_lt ht hj; omega
section
variable (L : Lay) (R C : Nat) (z : Sm.St) (w : World) (hR0 : 0 < R) (hC0 : 0 < C) (hR : R ≤ 48) (hC : C ≤ 48) (ok : L.Ok w) (h : Five L R C w z)
include hR0 hC0 hR hC ok h
theorem rowSub_impl (i k : Nat) (q : Int) (g : Sm.Good R C z) (hi : i < R) (hk : k < R) (hq : -4000000000000 ≤ q ∧ q ≤ 4000000000000) :
    Calls Try.prog 132 #[.agg #[.int .i64 R, .int .i64 R, .slice (some ⟨L.gl, 0, none⟩) (R * R) L.cl, .int .i64 R, .int .i64 R, .slice (some ⟨L.gli, 0, none⟩) (R * R) L.cli, .int .i64 R, .int .i64 C, .slice (some ⟨L.gd, 0, none⟩) (R * C) L.cd, .int .i64 C, .int .i64 C, .slice (some ⟨L.gr, 0, none⟩) (C * C) L.cr, .int .i64 C, .int .i64 C, .slice (some ⟨L.gri, 0, none⟩) (C * C) L.cri], .agg #[.func (.func 133) #[] #[], .int .i64 i, .int .i64 k, .int .i64 q]] w (FiveSays L R C (Sm.rowSub R C i k q z) w) := by
  by_cases hz : q = 0
  · subst hz
    have := stepRows_su L R C i k 0 z (some z.d) (some z.l) (some z.li) w hi hk hR0 hC0 hR hC hq ok h (fun W hW hh => sub_impl_zero _ _ _ _ _ _ R _ _ _ _ _ _ _ W hW hh) (fun W hW hh => sub_impl_zero _ _ _ _ _ _ R _ _ _ _ _ _ _ W hW hh) (fun W hW hh => sub_impl_zero _ _ _ _ _ _ R _ _ _ _ _ _ _ W hW hh)
    rw [Sm.rowSub, if_pos rfl]
    exact this
  · have hq2 : -4000000000000 ≤ -q ∧ -q ≤ 4000000000000 := by omega
    have := stepRows_su L R C i k q z (Sm.subl (i * C) (k * C) 1 q z.d C) (Sm.subl (i * R) (k * R) 1 q z.l R) (Sm.subl k i R (-q) z.li R) w hi hk hR0 hC0 hR hC hq ok h
      (fun W hW hh => sub_impl _ _ _ _ _ _ _ _ _ _ _ _ _ q _ W hW hh g.wl (line_row hi hR) (line_row hk hR) hz hq)
      (fun W hW hh => sub_impl _ _ _ _ _ _ _ _ _ _ _ _ _ (-q) _ W hW hh g.wli (line_col hk hR hR) (line_col hi hR hR) (by omega) hq2)
      (fun W hW hh => sub_impl _ _ _ _ _ _ _ _ _ _ _ _ _ q _ W hW hh g.wd (line_row hi hC) (line_row hk hC) hz hq)
    rw [Sm.rowSub, if_neg hz]
    exact this
theorem colSub_impl (j k : Nat) (q : Int) (g : Sm.Good R C z) (hj : j < C) (hk : k < C) (hq : -4000000000000 ≤ q ∧ q ≤ 4000000000000) :
    Calls Try.prog 143 #[.agg #[.int .i64 R, .int .i64 R, .slice (some ⟨L.gl, 0, none⟩) (R * R) L.cl, .int .i64 R, .int .i64 R, .slice (some ⟨L.gli, 0, none⟩) (R * R) L.cli, .int .i64 R, .int .i64 C, .slice (some ⟨L.gd, 0, none⟩) (R * C) L.cd, .int .i64 C, .int .i64 C, .slice (some ⟨L.gr, 0, none⟩) (C * C) L.cr, .int .i64 C, .int .i64 C, .slice (some ⟨L.gri, 0, none⟩) (C * C) L.cri], .agg #[.func (.func 133) #[] #[], .int .i64 j, .int .i64 k, .int .i64 q]] w (FiveSays L R C (Sm.colSub R C j k q z) w) := by
  by_cases hz : q = 0
  · subst hz
    have := stepColumns_su L R C j k 0 z (some z.d) (some z.r) (some z.ri) w hj hk hR0 hC0 hR hC hq ok h (fun W hW hh => sub_impl_zero _ _ _ _ _ _ R _ _ _ _ _ _ _ W hW hh) (fun W hW hh => sub_impl_zero _ _ _ _ _ _ R _ _ _ _ _ _ _ W hW hh) (fun W hW hh => sub_impl_zero _ _ _ _ _ _ R _ _ _ _ _ _ _ W hW hh)
    rw [Sm.colSub, if_pos rfl]
    exact this
  · have hq2 : -4000000000000 ≤ -q ∧ -q ≤ 4000000000000 := by omega
    have := stepColumns_su L R C j k q z (Sm.subl j k C q z.d R) (Sm.subl j k C q z.r C) (Sm.subl (k * C) (j * C) 1 (-q) z.ri C) w hj hk hR0 hC0 hR hC hq ok h
      (fun W hW hh => sub_impl _ _ _ _ _ _ _ _ _ _ _ _ _ q _ W hW hh g.wd (line_col hj hR hC) (line_col hk hR hC) hz hq)
      (fun W hW hh => sub_impl _ _ _ _ _ _ _ _ _ _ _ _ _ q _ W hW hh g.wr (line_col hj hC hC) (line_col hk hC hC) hz hq)
      (fun W hW hh => sub_impl _ _ _ _ _ _ _ _ _ _ _ _ _ (-q) _ W hW hh g.wri (line_row hk hC) (line_row hj hC) (by omega) hq2)
    rw [Sm.colSub, if_neg hz]
    exact this
theorem rowEx_impl (a b : Nat) (hi : a < R) (hk : b < R) (hab : a ≠ b) :
    Calls Try.prog 132 #[.agg #[.int .i64 R, .int .i64 R, .slice (some ⟨L.gl, 0, none⟩) (R * R) L.cl, .int .i64 R, .int .i64 R, .slice (some ⟨L.gli, 0, none⟩) (R * R) L.cli, .int .i64 R, .int .i64 C, .slice (some ⟨L.gd, 0, none⟩) (R * C) L.cd, .int .i64 C, .int .i64 C, .slice (some ⟨L.gr, 0, none⟩) (C * C) L.cr, .int .i64 C, .int .i64 C, .slice (some ⟨L.gri, 0, none⟩) (C * C) L.cri], .agg #[.func (.func 142) #[] #[], .int .i64 a, .int .i64 b, .int .i64 0]] w (FiveSays L R C (some (Sm.rowEx R C a b z)) w) := by
  have := stepRows_ex L R C a b 0 z (some (Sm.exch (a * C) (b * C) 1 z.d C)) (some (Sm.exch (a * R) (b * R) 1 z.l R)) (some (Sm.exch a b R z.li R)) w hi hk hR0 hC0 hR hC (by omega) ok h
    (fun W hW hh => exch_impl _ _ _ _ _ _ _ _ _ _ _ _ _ _ _ W hW hh (line_row hi hR) (line_row hk hR) (fun e => hab (Nat.eq_of_mul_eq_mul_right hR0 e)))
    (fun W hW hh => by rw [Sm.exch_comm]; exact exch_impl _ _ _ _ _ _ _ _ _ _ _ _ _ _ _ W hW hh (line_col hk hR hR) (line_col hi hR hR) (Ne.symm hab))
    (fun W hW hh => exch_impl _ _ _ _ _ _ _ _ _ _ _ _ _ _ _ W hW hh (line_row hi hC) (line_row hk hC) (fun e => hab (Nat.eq_of_mul_eq_mul_right hC0 e)))
  exact this
theorem colEx_impl (a b : Nat) (hi : a < C) (hk : b < C) (hab : a ≠ b) :
    Calls Try.prog 143 #[.agg #[.int .i64 R, .int .i64 R, .slice (some ⟨L.gl, 0, none⟩) (R * R) L.cl, .int .i64 R, .int .i64 R, .slice (some ⟨L.gli, 0, none⟩) (R * R) L.cli, .int .i64 R, .int .i64 C, .slice (some ⟨L.gd, 0, none⟩) (R * C) L.cd, .int .i64 C, .int .i64 C, .slice (some ⟨L.gr, 0, none⟩) (C * C) L.cr, .int .i64 C, .int .i64 C, .slice (some ⟨L.gri, 0, none⟩) (C * C) L.cri], .agg #[.func (.func 142) #[] #[], .int .i64 a, .int .i64 b, .int .i64 0]] w (FiveSays L R C (some (Sm.colEx R C a b z)) w) := by
  have := stepColumns_ex L R C a b 0 z (some (Sm.exch a b C z.d R)) (some (Sm.exch a b C z.r C)) (some (Sm.exch (a * C) (b * C) 1 z.ri C)) w hi hk hR0 hC0 hR hC (by omega) ok h
    (fun W hW hh => exch_impl _ _ _ _ _ _ _ _ _ _ _ _ _ _ _ W hW hh (line_col hi hR hC) (line_col hk hR hC) hab)
    (fun W hW hh => exch_impl _ _ _ _ _ _ _ _ _ _ _ _ _ _ _ W hW hh (line_col hi hC hC) (line_col hk hC hC) hab)
    (fun W hW hh => by rw [Sm.exch_comm]; exact exch_impl _ _ _ _ _ _ _ _ _ _ _ _ _ _ _ W hW hh (line_row hk hC) (line_row hi hC) (fun e => hab (Nat.eq_of_mul_eq_mul_right hC0 e.symm)))
  exact this
theorem rowNeg_impl (k : Nat) (g : Sm.Good R C z) (hk : k < R) :
    Calls Try.prog 132 #[.agg #[.int .i64 R, .int .i64 R, .slice (some ⟨L.gl, 0, none⟩) (R * R) L.cl, .int .i64 R, .int .i64 R, .slice (some ⟨L.gli, 0, none⟩) (R * R) L.cli, .int .i64 R, .int .i64 C, .slice (some ⟨L.gd, 0, none⟩) (R * C) L.cd, .int .i64 C, .int .i64 C, .slice (some ⟨L.gr, 0, none⟩) (C * C) L.cr, .int .i64 C, .int .i64 C, .slice (some ⟨L.gri, 0, none⟩) (C * C) L.cri], .agg #[.func (.func 144) #[] #[], .int .i64 k, .int .i64 k, .int .i64 0]] w (FiveSays L R C (some (Sm.rowNeg R C k z)) w) := by
  have := stepRows_ne L R C k k 0 z (some (Sm.negl (k * C) 1 z.d C)) (some (Sm.negl (k * R) 1 z.l R)) (some (Sm.negl k R z.li R)) w hk hk hR0 hC0 hR hC (by omega) ok h
    (fun W hW hh => neg_impl _ _ _ _ _ _ _ _ _ _ _ _ _ _ _ W hW hh g.wl (line_row hk hR))
    (fun W hW hh => neg_impl _ _ _ _ _ _ _ _ _ _ _ _ _ _ _ W hW hh g.wli (line_col hk hR hR))
    (fun W hW hh => neg_impl _ _ _ _ _ _ _ _ _ _ _ _ _ _ _ W hW hh g.wd (line_row hk hC))
  exact this
end
theorem Five.kept {L : Lay} {R C lo hi : Nat} {w w' : World} {s : Sm.St} (h : Five L R C w s) (ok : L.Ok w) (hk : Kept lo hi w w') (hd : L.b5 ≤ lo ∨ hi ≤ L.b0) : Five L R C w' s := by
  obtain ⟨i0, i1, i2, i3, i4, i5⟩ := ok
  exact ⟨h.d.kept hk (by omega) (by omega), h.l.kept hk (by omega) (by omega), h.li.kept hk (by omega) (by omega), h.r.kept hk (by omega) (by omega), h.ri.kept hk (by omega) (by omega)⟩
theorem Five.below {L : Lay} {R C : Nat} {w w' : World} {s : Sm.St} (h : Five L R C w s) (ok : L.Ok w) (hb : Below w.heap.size w w') : Five L R C w' s := by
  obtain ⟨i0, i1, i2, i3, i4, i5⟩ := ok
  exact ⟨h.d.al (by omega) hb, h.l.al (by omega) hb, h.li.al (by omega) hb, h.r.al (by omega) hb, h.ri.al (by omega) hb⟩
theorem Lay.Ok.more {L : Lay} {w w' : World} (ok : L.Ok w) (h : w.heap.size ≤ w'.heap.size) : L.Ok w' := ⟨ok.i0, ok.i1, ok.i2, ok.i3, ok.i4, Nat.le_trans ok.i5 h⟩
theorem Five.intsD {L : Lay} {R C : Nat} {w : World} {s : Sm.St} (h : Five L R C w s) (ok : L.Ok w) : Ints w w.heap.size (some ⟨L.gd, 0, none⟩) (R * C) s.d := by
  obtain ⟨i0, i1, i2, i3, i4, i5⟩ := ok
  exact h.d.ints.more (by omega)
theorem rowsFrom_none {R C k a b : Nat} {s : Sm.St} (h : Sm.rowsFrom R C k s a = none) (hab : a ≤ b) : Sm.rowsFrom R C k s b = none := by
  induction b with
  | zero => have : a = 0 := by omega
            subst this; exact h
  | succ b ih =>
    by_cases e : a = b + 1
    · subst e; exact h
    · rw [Sm.rowsFrom, ih (by omega)]
theorem colsFrom_none {R C k a b : Nat} {s : Sm.St} (h : Sm.colsFrom R C k s a = none) (hab : a ≤ b) : Sm.colsFrom R C k s b = none := by
  induction b with
  | zero => have : a = 0 := by omega
            subst this; exact h
  | succ b ih =>
    by_cases e : a = b + 1
    · subst e; exact h
    · rw [Sm.colsFrom, ih (by omega)]

theorem rowsOrCols_rows {R C k a b : Nat} {s : Sm.St} (h : Sm.rowsFrom R C k s a = none) (hab : a ≤ b) : Sm.rowsFrom R C k s b = none := rowsFrom_none h hab
theorem rowsOrCols_cols {R C k a b : Nat} {s : Sm.St} (h : Sm.colsFrom R C k s a = none) (hab : a ≤ b) : Sm.colsFrom R C k s b = none := colsFrom_none h hab

set_option maxRecDepth 100000 in
set_option maxHeartbeats 8000000 in
theorem rowsBelow_impl (L : Lay) (R C k : Nat) (z : Sm.St) (w : World) (hR : R ≤ 48) (hC : C ≤ 48) (hk : k < R) (hkC : k < C) (ok : L.Ok w) (h : Five L R C w z) (g : Sm.Good R C z) (hp : 0 < Sm.ent C z.d k k) :
    Calls Try.prog 128 #[.agg #[.int .i64 R, .int .i64 R, .slice (some ⟨L.gl, 0, none⟩) (R * R) L.cl, .int .i64 R, .int .i64 R, .slice (some ⟨L.gli, 0, none⟩) (R * R) L.cli, .int .i64 R, .int .i64 C, .slice (some ⟨L.gd, 0, none⟩) (R * C) L.cd, .int .i64 C, .int .i64 C, .slice (some ⟨L.gr, 0, none⟩) (C * C) L.cr, .int .i64 C, .int .i64 C, .slice (some ⟨L.gri, 0, none⟩) (C * C) L.cri], .int .i64 k] w (FiveSays L R C (Sm.rowsFrom R C k z (R - (k + 1))) w) := by
  have p1 := rc_le hR hC
  have X0 := Lib.hid ((Row.new w #[.int .i64 R, .int .i64 R, .slice (some ⟨L.gl, 0, none⟩) (R * R) L.cl, .int .i64 R, .int .i64 R, .slice (some ⟨L.gli, 0, none⟩) (R * R) L.cli, .int .i64 R, .int .i64 C, .slice (some ⟨L.gd, 0, none⟩) (R * C) L.cd, .int .i64 C, .int .i64 C, .slice (some ⟨L.gr, 0, none⟩) (C * C) L.cr, .int .i64 C, .int .i64 C, .slice (some ⟨L.gri, 0, none⟩) (C * C) L.cri] 120).below (al1 _ (Obj.cells #[.int .i64 R, .int .i64 C, .slice (some ⟨L.gd, 0, none⟩) (R * C) L.cd] 77)) (by simp))
  have Y0 := Lib.hid (Box3.new (w.alloc (Obj.cells #[.int .i64 R, .int .i64 R, .slice (some ⟨L.gl, 0, none⟩) (R * R) L.cl, .int .i64 R, .int .i64 R, .slice (some ⟨L.gli, 0, none⟩) (R * R) L.cli, .int .i64 R, .int .i64 C, .slice (some ⟨L.gd, 0, none⟩) (R * C) L.cd, .int .i64 C, .int .i64 C, .slice (some ⟨L.gr, 0, none⟩) (C * C) L.cr, .int .i64 C, .int .i64 C, .slice (some ⟨L.gri, 0, none⟩) (C * C) L.cri] 120)) 77 (.int .i64 R) (.int .i64 C) (.slice (some ⟨L.gd, 0, none⟩) (R * C) L.cd))
  have HB0 := Lib.hid (Kept.of_below (al2 w (Obj.cells #[.int .i64 R, .int .i64 R, .slice (some ⟨L.gl, 0, none⟩) (R * R) L.cl, .int .i64 R, .int .i64 R, .slice (some ⟨L.gli, 0, none⟩) (R * R) L.cli, .int .i64 R, .int .i64 C, .slice (some ⟨L.gd, 0, none⟩) (R * C) L.cd, .int .i64 C, .int .i64 C, .slice (some ⟨L.gr, 0, none⟩) (C * C) L.cr, .int .i64 C, .int .i64 C, .slice (some ⟨L.gri, 0, none⟩) (C * C) L.cri] 120) (Obj.cells #[.int .i64 R, .int .i64 C, .slice (some ⟨L.gd, 0, none⟩) (R * C) L.cd] 77)) L.b0 L.b5)
  have H0 := Lib.hid (h.below ok (al2 w (Obj.cells #[.int .i64 R, .int .i64 R, .slice (some ⟨L.gl, 0, none⟩) (R * R) L.cl, .int .i64 R, .int .i64 R, .slice (some ⟨L.gli, 0, none⟩) (R * R) L.cli, .int .i64 R, .int .i64 C, .slice (some ⟨L.gd, 0, none⟩) (R * C) L.cd, .int .i64 C, .int .i64 C, .slice (some ⟨L.gr, 0, none⟩) (C * C) L.cr, .int .i64 C, .int .i64 C, .slice (some ⟨L.gri, 0, none⟩) (C * C) L.cri] 120) (Obj.cells #[.int .i64 R, .int .i64 C, .slice (some ⟨L.gd, 0, none⟩) (R * C) L.cd] 77)))
  simp only [World.size_alloc] at Y0
  have OK := Lib.hid ok
  have i5 := ok.i5
  have G := Lib.hid g
  have HP := Lib.hid hp
  clear h ok g hp
  go_enter Try.func128, Try.ntmps128
  go_wp2
  obtain ⟨W0, hW0⟩ : ∃ W0, W0 = ((w.alloc (Obj.cells #[.int .i64 R, .int .i64 R, .slice (some ⟨L.gl, 0, none⟩) (R * R) L.cl, .int .i64 R, .int .i64 R, .slice (some ⟨L.gli, 0, none⟩) (R * R) L.cli, .int .i64 R, .int .i64 C, .slice (some ⟨L.gd, 0, none⟩) (R * C) L.cd, .int .i64 C, .int .i64 C, .slice (some ⟨L.gr, 0, none⟩) (C * C) L.cr, .int .i64 C, .int .i64 C, .slice (some ⟨L.gri, 0, none⟩) (C * C) L.cri] 120)).alloc (Obj.cells #[.int .i64 R, .int .i64 C, .slice (some ⟨L.gd, 0, none⟩) (R * C) L.cd] 77)) := ⟨_, rfl⟩
  have s0 : w.heap.size + 1 < W0.heap.size := by rw [hW0]; simp
  rw [← hW0] at X0 Y0 HB0 H0
  rw [← hW0]
  clear hW0
  have OK0 := Lib.hid (OK.out.more (show w.heap.size ≤ W0.heap.size by omega))
  go_loopw [6] (fun x wr => ∃ (a : Nat) (s : Sm.St), a ≤ R - (k + 1) ∧ x = .int .i64 ((k + 1 + a : Nat) : Int) ∧ Sm.rowsFrom R C k z a = some s ∧ Five L R C wr s ∧ Kept L.b0 L.b5 W0 wr) (fun x _ => R - (intOf x).toNat)
  case atStart => exact ⟨0, z, Nat.zero_le _, by simp, rfl, H0.out, Kept.refl _ _ _⟩
  case round =>
    obtain ⟨a, s, ha, rfl, hs, hfive, hkept⟩ := hrel
    have HF := Lib.hid hfive
    have HK := Lib.hid hkept
    have HS := Lib.hid hs
    have sz : W0.heap.size ≤ wr.heap.size := hkept.size
    have gs := Sm.Good.rowsFrom G.out hs
    have GS := Lib.hid gs
    have pe := (Sm.rowsFrom_ent G.out hs hk hkC (by omega) HP.out).1
    have ps : 0 < Sm.ent C s.d k k := by rw [pe]; exact HP.out
    have PS := Lib.hid ps
    have OKr := Lib.hid (OK.out.more (show w.heap.size ≤ wr.heap.size by omega))
    clear hfive hkept hs gs pe ps
    obtain ⟨i, hi⟩ : ∃ i, k + 1 + a = i := ⟨_, rfl⟩
    rw [hi]
    have HI := Lib.hid hi
    have hiN : i ≤ R := by omega
    have hki : k < i := by omega
    clear hi
    have XR := Lib.hid (X0.out.kept HK.out (by omega))
    have YR := Lib.hid (Y0.out.kept HK.out (by omega) (by omega))
    obtain ⟨k0, k1, k2⟩ := YR.out
    by_cases hlt : i < R
    · obtain ⟨x, hx⟩ : ∃ x, s.d.getD (i * C + k) 0 = x := ⟨_, rfl⟩
      obtain ⟨pv, hpv⟩ : ∃ pv, s.d.getD (k * C + k) 0 = pv := ⟨_, rfl⟩
      have hxb := GS.out.wd (i * C + k)
      have hpb := GS.out.wd (k * C + k)
      have hp0 : 0 < pv := by rw [← hpv]; exact PS.out
      rw [hx] at hxb
      rw [hpv] at hpb
      have AT := fun (i j : Nat) (hs : i * C + j < R * C) (hi : i ≤ R) (W : World) (hW : Below wr.heap.size wr W) => at_impl R C (some ⟨L.gd, 0, none⟩) (R * C) L.cd s.d W (((HF.out.intsD OKr.out).below hW).more hW.size) (by omega) i j _ (by rw [castM]; omega) (by rw [castM]; have := Nat.mul_le_mul_right C hi; omega) (castI i C j) hs
      have AX := Lib.hid (AT i k (ij_lt hlt hkC) (by omega))
      have AP := Lib.hid (AT k k (ij_lt hk hkC) (by omega))
      rw [hx] at AX
      rw [hpv] at AP
      have HX := Lib.hid hx
      have HPV := Lib.hid hpv
      have HXB := Lib.hid hxb
      have HPB := Lib.hid (show 0 < pv ∧ pv ≤ 1000000000000 by omega)
      have hqb := Sm.fq_bound hp0 hxb.1 hxb.2
      have HQB := Lib.hid (show -4000000000000 ≤ Sm.fq x pv ∧ Sm.fq x pv ≤ 4000000000000 by omega)
      clear AT hx hpv hxb hpb hp0 hqb
      go_wp2_with fail
      go_region_held3 (fun W => W.cell? ⟨w.heap.size + 1, 0, none⟩ = some (.int .i64 R) ∧ W.cell? ⟨w.heap.size + 1, 1, none⟩ = some (.int .i64 C) ∧ W.cell? ⟨w.heap.size + 1, 2, none⟩ = some (.slice (some ⟨L.gd, 0, none⟩) (R * C) L.cd)) (go_keep)
        (first
          | (go_at_call 97; (with_reducible refine (AX.out _ (by exact (Below.refl _ _).drew)).mono ?_); rintro e w6 ⟨rfl, hb'⟩; have B6 := Lib.hid (undrew hb'); have z6 := B6.out.size; obtain ⟨e0, e1, e2⟩ := YR.out.below B6.out (by omega); clear hb')
          | (go_at_call 97; (with_reducible refine (AP.out _ (by exact B6.out)).mono ?_); rintro e w7 ⟨rfl, hb'⟩; have B7 := Lib.hid (B6.out.trans (hb'.mono z6)); have z7 := B7.out.size; obtain ⟨f0, f1, f2⟩ := YR.out.below B7.out (by omega); clear hb')
          | (go_at_call 145; (with_reducible refine (fq_impl x pv _ HXB.out HPB.out).mono ?_); rintro e w8 ⟨rfl, rfl⟩))
      clear k0 k1 k2 e0 e1 e2 f0 f1 f2
      have XS := Lib.hid (XR.out.below B7.out (by omega))
      go_wp2_with (first
        | (refine wpList_load_row (by rfl) 120 (.tmp 2) (by rfl) w.heap.size (by rfl) 120 #[.int .i64 R, .int .i64 R, .slice (some ⟨L.gl, 0, none⟩) (R * R) L.cl, .int .i64 R, .int .i64 R, .slice (some ⟨L.gli, 0, none⟩) (R * R) L.cli, .int .i64 R, .int .i64 C, .slice (some ⟨L.gd, 0, none⟩) (R * C) L.cd, .int .i64 C, .int .i64 C, .slice (some ⟨L.gr, 0, none⟩) (C * C) L.cr, .int .i64 C, .int .i64 C, .slice (some ⟨L.gri, 0, none⟩) (C * C) L.cri] (0, 0) _ (by exact XS.out) Try.underlying120 (by rfl) sizeR ?_))
      refine (rowSub_impl L R C s _ (by omega) (by omega) hR hC (OK.out.more (by omega)) (HF.out.below OKr.out B7.out) i k (Sm.fq x pv) GS.out hlt hk HQB.out).mono ?_
      intro e w9 h9
      have Q9 := Lib.hid (show Sm.rowsFrom R C k z (a + 1) = Sm.rowSub R C i k (Sm.fq x pv) s by
        rw [Sm.rowsFrom, HS.out, HI.out]
        show Sm.rowSub R C i k (Sm.fq (s.d.getD (i * C + k) 0) (s.d.getD (k * C + k) 0)) s = _
        rw [HX.out, HPV.out])
      cases hq : Sm.rowSub R C i k (Sm.fq x pv) s with
      | none =>
        rw [hq] at h9
        obtain ⟨rfl, hk9⟩ := h9
        have hn := rowsOrCols_rows (R := R) (C := C) (k := k) (s := z) (a := a + 1) (b := R - (k + 1)) (by rw [Q9.out, hq]) (by have := HI.out; omega)
        have HNN := Lib.hid hn
        have K9 := Lib.hid (HB0.out.trans (HK.out.trans ((Kept.of_below B7.out _ _).trans hk9)))
        clear hk9 hq hn
        go_wp2
        go_ret
        rw [HNN.out]
        exact ⟨rfl, K9.out⟩
      | some s9 =>
        rw [hq] at h9
        obtain ⟨rfl, hf9, hk9⟩ := h9
        have HF9 := Lib.hid hf9
        have K9 := Lib.hid (HK.out.trans ((Kept.of_below B7.out _ _).trans hk9))
        have HQ := Lib.hid hq
        clear hf9 hk9 hq
        go_wp2
        go_roundw
        case rel => exact ⟨a + 1, s9, by have := HI.out; omega, by have := HI.out; go_num, by rw [Q9.out, HQ.out], HF9.out, K9.out⟩
        case measure => simp [intOf]; omega
    · have ha2 : a = R - (k + 1) := by have := HI.out; omega
      have HA := Lib.hid ha2
      clear ha2
      go_wp2
      go_ret
      rw [← HA.out, HS.out]
      exact ⟨rfl, HF.out, HB0.out.trans HK.out⟩

set_option maxRecDepth 100000 in
set_option maxHeartbeats 8000000 in
theorem colsBelow_impl (L : Lay) (R C k : Nat) (z : Sm.St) (w : World) (hR : R ≤ 48) (hC : C ≤ 48) (hk : k < R) (hkC : k < C) (ok : L.Ok w) (h : Five L R C w z) (g : Sm.Good R C z) (hp : 0 < Sm.ent C z.d k k) :
    Calls Try.prog 129 #[.agg #[.int .i64 R, .int .i64 R, .slice (some ⟨L.gl, 0, none⟩) (R * R) L.cl, .int .i64 R, .int .i64 R, .slice (some ⟨L.gli, 0, none⟩) (R * R) L.cli, .int .i64 R, .int .i64 C, .slice (some ⟨L.gd, 0, none⟩) (R * C) L.cd, .int .i64 C, .int .i64 C, .slice (some ⟨L.gr, 0, none⟩) (C * C) L.cr, .int .i64 C, .int .i64 C, .slice (some ⟨L.gri, 0, none⟩) (C * C) L.cri], .int .i64 k] w (FiveSays L R C (Sm.colsFrom R C k z (C - (k + 1))) w) := by
  have p1 := rc_le hR hC
  have X0 := Lib.hid ((Row.new w #[.int .i64 R, .int .i64 R, .slice (some ⟨L.gl, 0, none⟩) (R * R) L.cl, .int .i64 R, .int .i64 R, .slice (some ⟨L.gli, 0, none⟩) (R * R) L.cli, .int .i64 R, .int .i64 C, .slice (some ⟨L.gd, 0, none⟩) (R * C) L.cd, .int .i64 C, .int .i64 C, .slice (some ⟨L.gr, 0, none⟩) (C * C) L.cr, .int .i64 C, .int .i64 C, .slice (some ⟨L.gri, 0, none⟩) (C * C) L.cri] 120).below (al1 _ (Obj.cells #[.int .i64 R, .int .i64 C, .slice (some ⟨L.gd, 0, none⟩) (R * C) L.cd] 77)) (by simp))
  have Y0 := Lib.hid (Box3.new (w.alloc (Obj.cells #[.int .i64 R, .int .i64 R, .slice (some ⟨L.gl, 0, none⟩) (R * R) L.cl, .int .i64 R, .int .i64 R, .slice (some ⟨L.gli, 0, none⟩) (R * R) L.cli, .int .i64 R, .int .i64 C, .slice (some ⟨L.gd, 0, none⟩) (R * C) L.cd, .int .i64 C, .int .i64 C, .slice (some ⟨L.gr, 0, none⟩) (C * C) L.cr, .int .i64 C, .int .i64 C, .slice (some ⟨L.gri, 0, none⟩) (C * C) L.cri] 120)) 77 (.int .i64 R) (.int .i64 C) (.slice (some ⟨L.gd, 0, none⟩) (R * C) L.cd))
  have HB0 := Lib.hid (Kept.of_below (al2 w (Obj.cells #[.int .i64 R, .int .i64 R, .slice (some ⟨L.gl, 0, none⟩) (R * R) L.cl, .int .i64 R, .int .i64 R, .slice (some ⟨L.gli, 0, none⟩) (R * R) L.cli, .int .i64 R, .int .i64 C, .slice (some ⟨L.gd, 0, none⟩) (R * C) L.cd, .int .i64 C, .int .i64 C, .slice (some ⟨L.gr, 0, none⟩) (C * C) L.cr, .int .i64 C, .int .i64 C, .slice (some ⟨L.gri, 0, none⟩) (C * C) L.cri] 120) (Obj.cells #[.int .i64 R, .int .i64 C, .slice (some ⟨L.gd, 0, none⟩) (R * C) L.cd] 77)) L.b0 L.b5)
  have H0 := Lib.hid (h.below ok (al2 w (Obj.cells #[.int .i64 R, .int .i64 R, .slice (some ⟨L.gl, 0, none⟩) (R * R) L.cl, .int .i64 R, .int .i64 R, .slice (some ⟨L.gli, 0, none⟩) (R * R) L.cli, .int .i64 R, .int .i64 C, .slice (some ⟨L.gd, 0, none⟩) (R * C) L.cd, .int .i64 C, .int .i64 C, .slice (some ⟨L.gr, 0, none⟩) (C * C) L.cr, .int .i64 C, .int .i64 C, .slice (some ⟨L.gri, 0, none⟩) (C * C) L.cri] 120) (Obj.cells #[.int .i64 R, .int .i64 C, .slice (some ⟨L.gd, 0, none⟩) (R * C) L.cd] 77)))
  simp only [World.size_alloc] at Y0
  have OK := Lib.hid ok
  have i5 := ok.i5
  have G := Lib.hid g
  have HP := Lib.hid hp
  clear h ok g hp
  go_enter Try.func129, Try.ntmps129
  go_wp2
  obtain ⟨W0, hW0⟩ : ∃ W0, W0 = ((w.alloc (Obj.cells #[.int .i64 R, .int .i64 R, .slice (some ⟨L.gl, 0, none⟩) (R * R) L.cl, .int .i64 R, .int .i64 R, .slice (some ⟨L.gli, 0, none⟩) (R * R) L.cli, .int .i64 R, .int .i64 C, .slice (some ⟨L.gd, 0, none⟩) (R * C) L.cd, .int .i64 C, .int .i64 C, .slice (some ⟨L.gr, 0, none⟩) (C * C) L.cr, .int .i64 C, .int .i64 C, .slice (some ⟨L.gri, 0, none⟩) (C * C) L.cri] 120)).alloc (Obj.cells #[.int .i64 R, .int .i64 C, .slice (some ⟨L.gd, 0, none⟩) (R * C) L.cd] 77)) := ⟨_, rfl⟩
  have s0 : w.heap.size + 1 < W0.heap.size := by rw [hW0]; simp
  rw [← hW0] at X0 Y0 HB0 H0
  rw [← hW0]
  clear hW0
  have OK0 := Lib.hid (OK.out.more (show w.heap.size ≤ W0.heap.size by omega))
  go_loopw [6] (fun x wr => ∃ (a : Nat) (s : Sm.St), a ≤ C - (k + 1) ∧ x = .int .i64 ((k + 1 + a : Nat) : Int) ∧ Sm.colsFrom R C k z a = some s ∧ Five L R C wr s ∧ Kept L.b0 L.b5 W0 wr) (fun x _ => C - (intOf x).toNat)
  case atStart => exact ⟨0, z, Nat.zero_le _, by simp, rfl, H0.out, Kept.refl _ _ _⟩
  case round =>
    obtain ⟨a, s, ha, rfl, hs, hfive, hkept⟩ := hrel
    have HF := Lib.hid hfive
    have HK := Lib.hid hkept
    have HS := Lib.hid hs
    have sz : W0.heap.size ≤ wr.heap.size := hkept.size
    have gs := Sm.Good.colsFrom G.out hs
    have GS := Lib.hid gs
    have pe := (Sm.colsFrom_ent G.out hs hk hkC (by omega) HP.out).1
    have ps : 0 < Sm.ent C s.d k k := by rw [pe]; exact HP.out
    have PS := Lib.hid ps
    have OKr := Lib.hid (OK.out.more (show w.heap.size ≤ wr.heap.size by omega))
    clear hfive hkept hs gs pe ps
    obtain ⟨i, hi⟩ : ∃ i, k + 1 + a = i := ⟨_, rfl⟩
    rw [hi]
    have HI := Lib.hid hi
    have hiN : i ≤ C := by omega
    have hki : k < i := by omega
    clear hi
    have XR := Lib.hid (X0.out.kept HK.out (by omega))
    have YR := Lib.hid (Y0.out.kept HK.out (by omega) (by omega))
    obtain ⟨k0, k1, k2⟩ := YR.out
    by_cases hlt : i < C
    · obtain ⟨x, hx⟩ : ∃ x, s.d.getD (k * C + i) 0 = x := ⟨_, rfl⟩
      obtain ⟨pv, hpv⟩ : ∃ pv, s.d.getD (k * C + k) 0 = pv := ⟨_, rfl⟩
      have hxb := GS.out.wd (k * C + i)
      have hpb := GS.out.wd (k * C + k)
      have hp0 : 0 < pv := by rw [← hpv]; exact PS.out
      rw [hx] at hxb
      rw [hpv] at hpb
      have AT := fun (i j : Nat) (hs : i * C + j < R * C) (hi : i ≤ R) (W : World) (hW : Below wr.heap.size wr W) => at_impl R C (some ⟨L.gd, 0, none⟩) (R * C) L.cd s.d W (((HF.out.intsD OKr.out).below hW).more hW.size) (by omega) i j _ (by rw [castM]; omega) (by rw [castM]; have := Nat.mul_le_mul_right C hi; omega) (castI i C j) hs
      have AX := Lib.hid (AT k i (ij_lt hk hlt) (by omega))
      have AP := Lib.hid (AT k k (ij_lt hk hkC) (by omega))
      rw [hx] at AX
      rw [hpv] at AP
      have HX := Lib.hid hx
      have HPV := Lib.hid hpv
      have HXB := Lib.hid hxb
      have HPB := Lib.hid (show 0 < pv ∧ pv ≤ 1000000000000 by omega)
      have hqb := Sm.fq_bound hp0 hxb.1 hxb.2
      have HQB := Lib.hid (show -4000000000000 ≤ Sm.fq x pv ∧ Sm.fq x pv ≤ 4000000000000 by omega)
      clear AT hx hpv hxb hpb hp0 hqb
      go_wp2_with fail
      go_region_held3 (fun W => W.cell? ⟨w.heap.size + 1, 0, none⟩ = some (.int .i64 R) ∧ W.cell? ⟨w.heap.size + 1, 1, none⟩ = some (.int .i64 C) ∧ W.cell? ⟨w.heap.size + 1, 2, none⟩ = some (.slice (some ⟨L.gd, 0, none⟩) (R * C) L.cd)) (go_keep)
        (first
          | (go_at_call 97; (with_reducible refine (AX.out _ (by exact (Below.refl _ _).drew)).mono ?_); rintro e w6 ⟨rfl, hb'⟩; have B6 := Lib.hid (undrew hb'); have z6 := B6.out.size; obtain ⟨e0, e1, e2⟩ := YR.out.below B6.out (by omega); clear hb')
          | (go_at_call 97; (with_reducible refine (AP.out _ (by exact B6.out)).mono ?_); rintro e w7 ⟨rfl, hb'⟩; have B7 := Lib.hid (B6.out.trans (hb'.mono z6)); have z7 := B7.out.size; obtain ⟨f0, f1, f2⟩ := YR.out.below B7.out (by omega); clear hb')
          | (go_at_call 145; (with_reducible refine (fq_impl x pv _ HXB.out HPB.out).mono ?_); rintro e w8 ⟨rfl, rfl⟩))
      clear k0 k1 k2 e0 e1 e2 f0 f1 f2
      have XS := Lib.hid (XR.out.below B7.out (by omega))
      go_wp2_with (first
        | (refine wpList_load_row (by rfl) 120 (.tmp 2) (by rfl) w.heap.size (by rfl) 120 #[.int .i64 R, .int .i64 R, .slice (some ⟨L.gl, 0, none⟩) (R * R) L.cl, .int .i64 R, .int .i64 R, .slice (some ⟨L.gli, 0, none⟩) (R * R) L.cli, .int .i64 R, .int .i64 C, .slice (some ⟨L.gd, 0, none⟩) (R * C) L.cd, .int .i64 C, .int .i64 C, .slice (some ⟨L.gr, 0, none⟩) (C * C) L.cr, .int .i64 C, .int .i64 C, .slice (some ⟨L.gri, 0, none⟩) (C * C) L.cri] (0, 0) _ (by exact XS.out) Try.underlying120 (by rfl) sizeR ?_))
      refine (colSub_impl L R C s _ (by omega) (by omega) hR hC (OK.out.more (by omega)) (HF.out.below OKr.out B7.out) i k (Sm.fq x pv) GS.out hlt hkC HQB.out).mono ?_
      intro e w9 h9
      have Q9 := Lib.hid (show Sm.colsFrom R C k z (a + 1) = Sm.colSub R C i k (Sm.fq x pv) s by
        rw [Sm.colsFrom, HS.out, HI.out]
        show Sm.colSub R C i k (Sm.fq (s.d.getD (k * C + i) 0) (s.d.getD (k * C + k) 0)) s = _
        rw [HX.out, HPV.out])
      cases hq : Sm.colSub R C i k (Sm.fq x pv) s with
      | none =>
        rw [hq] at h9
        obtain ⟨rfl, hk9⟩ := h9
        have hn := rowsOrCols_cols (R := R) (C := C) (k := k) (s := z) (a := a + 1) (b := C - (k + 1)) (by rw [Q9.out, hq]) (by have := HI.out; omega)
        have HNN := Lib.hid hn
        have K9 := Lib.hid (HB0.out.trans (HK.out.trans ((Kept.of_below B7.out _ _).trans hk9)))
        clear hk9 hq hn
        go_wp2
        go_ret
        rw [HNN.out]
        exact ⟨rfl, K9.out⟩
      | some s9 =>
        rw [hq] at h9
        obtain ⟨rfl, hf9, hk9⟩ := h9
        have HF9 := Lib.hid hf9
        have K9 := Lib.hid (HK.out.trans ((Kept.of_below B7.out _ _).trans hk9))
        have HQ := Lib.hid hq
        clear hf9 hk9 hq
        go_wp2
        go_roundw
        case rel => exact ⟨a + 1, s9, by have := HI.out; omega, by have := HI.out; go_num, by rw [Q9.out, HQ.out], HF9.out, K9.out⟩
        case measure => simp [intOf]; omega
    · have ha2 : a = C - (k + 1) := by have := HI.out; omega
      have HA := Lib.hid ha2
      clear ha2
      go_wp2
      go_ret
      rw [← HA.out, HS.out]
      exact ⟨rfl, HF.out, HB0.out.trans HK.out⟩

end Go.Proofs.Ytpojkahlllochaa
