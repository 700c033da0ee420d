/- Contracts of the steps on all five matrices of a reduction, the program's. No condition but those that each theorem names. -/
import Derived.Test.YtpojkahlllochaaSmJ
namespace Go.Proofs.Ytpojkahlllochaa
open Go.RowKit

theorem Own.cap {w : World} {lo hi : Nat} {A : Option Addr} {n c : Nat} {zs : List Int} (h : Own w lo hi A n c zs) (h0 : 0 < n) : n ≤ c ∧ c ≤ maxLen := by
  rcases h.1.2 with ⟨h1, h2⟩ | ⟨g, cap, cur, hv, hb, hg, h3, h4, r⟩
  · have := h.1.1
    rw [h2] at this
    simp at this
    omega
  · injection hv with h1 h2 h3'
    subst h3'
    exact ⟨h3, h4⟩
/-- Where the five matrices lie: their ranges of blocks, one behind the other, and the blocks and capacities. -/
structure Lay where
  b0 : Nat
  b1 : Nat
  b2 : Nat
  b3 : Nat
  b4 : Nat
  b5 : Nat
  gd : Nat
  gl : Nat
  gli : Nat
  gr : Nat
  gri : Nat
  cd : Nat
  cl : Nat
  cli : Nat
  cr : Nat
  cri : Nat
structure Five (L : Lay) (R C : Nat) (w : World) (s : Sm.St) : Prop where
  d : Own w L.b0 L.b1 (some ⟨L.gd, 0, none⟩) (R * C) L.cd s.d
  l : Own w L.b1 L.b2 (some ⟨L.gl, 0, none⟩) (R * R) L.cl s.l
  li : Own w L.b2 L.b3 (some ⟨L.gli, 0, none⟩) (R * R) L.cli s.li
  r : Own w L.b3 L.b4 (some ⟨L.gr, 0, none⟩) (C * C) L.cr s.r
  ri : Own w L.b4 L.b5 (some ⟨L.gri, 0, none⟩) (C * C) L.cri s.ri
structure Lay.Ok (L : Lay) (w : World) : Prop where
  i0 : L.b0 ≤ L.b1
  i1 : L.b1 ≤ L.b2
  i2 : L.b2 ≤ L.b3
  i3 : L.b3 ≤ L.b4
  i4 : L.b4 ≤ L.b5
  i5 : L.b5 ≤ w.heap.size
/-- What a step on the matrices answers. -/
def FiveSays (L : Lay) (R C : Nat) (o : Option Sm.St) (w : World) (e : Ending) (w' : World) : Prop :=
  match o with
  | some s => e = .returned (.bool true) ∧ Five L R C w' s ∧ Kept L.b0 L.b5 w w'
  | none => e = .returned (.bool false) ∧ Kept L.b0 L.b5 w w'
def rowOut (od ol oli : Option (List Int)) (s : Sm.St) : Option Sm.St := match od, ol, oli with
  | some x, some y, some z => some ⟨y, z, x, s.r, s.ri⟩
  | _, _, _ => none
def colOut (od or_ ori : Option (List Int)) (s : Sm.St) : Option Sm.St := match od, or_, ori with
  | some x, some y, some z => some ⟨s.l, s.li, x, y, z⟩
  | _, _, _ => none
theorem rowOut_none {od ol oli : Option (List Int)} {s : Sm.St} (h : od = none ∨ ol = none ∨ oli = none) : rowOut od ol oli s = none := by
  cases od <;> cases ol <;> cases oli <;> first | rfl | simp at h
theorem colOut_none {od ol oli : Option (List Int)} {s : Sm.St} (h : od = none ∨ ol = none ∨ oli = none) : colOut od ol oli s = none := by
  cases od <;> cases ol <;> cases oli <;> first | rfl | simp at h

set_option maxRecDepth 100000 in
set_option maxHeartbeats 8000000 in
theorem stepRows_su (L : Lay) (R C t s : Nat) (q : Int) (z : Sm.St) (od ol oli : Option (List Int)) (w : World) (ht : t < R) (hs : s < R) (hR0 : 0 < R) (hC0 : 0 < C) (hR : R ≤ 48) (hC : C ≤ 48) (hq : -4000000000000 ≤ q ∧ q ≤ 4000000000000)
    (ok : L.Ok w) (h : Five L R C w z)
    (fl : ∀ W, Own W L.b1 L.b2 (some ⟨L.gl, 0, none⟩) (R * R) L.cl z.l → L.b2 ≤ W.heap.size → Calls Try.prog 133 #[.agg #[.slice (some ⟨L.gl, t * R, none⟩) R (L.cl - t * R), .int .i64 1], .agg #[.slice (some ⟨L.gl, s * R, none⟩) R (L.cl - s * R), .int .i64 1], .int .i64 (q)] W (LineSays L.b1 L.b2 L.gl (R * R) L.cl W ol))
    (fli : ∀ W, Own W L.b2 L.b3 (some ⟨L.gli, 0, none⟩) (R * R) L.cli z.li → L.b3 ≤ W.heap.size → Calls Try.prog 133 #[.agg #[.slice (some ⟨L.gli, s, none⟩) (R * R - s) (L.cli - s), .int .i64 R], .agg #[.slice (some ⟨L.gli, t, none⟩) (R * R - t) (L.cli - t), .int .i64 R], .int .i64 (-q)] W (LineSays L.b2 L.b3 L.gli (R * R) L.cli W oli))
    (fd : ∀ W, Own W L.b0 L.b1 (some ⟨L.gd, 0, none⟩) (R * C) L.cd z.d → L.b1 ≤ W.heap.size → Calls Try.prog 133 #[.agg #[.slice (some ⟨L.gd, t * C, none⟩) C (L.cd - t * C), .int .i64 1], .agg #[.slice (some ⟨L.gd, s * C, none⟩) C (L.cd - s * C), .int .i64 1], .int .i64 (q)] W (LineSays L.b0 L.b1 L.gd (R * C) L.cd W od))
    : Calls Try.prog 132 #[.agg #[.int .i64 R, .int .i64 R, .slice (some ⟨L.gl, 0, none⟩) (R * R) L.cl, .int .i64 R, .int .i64 R, .slice (some ⟨L.gli, 0, none⟩) (R * R) L.cli, .int .i64 R, .int .i64 C, .slice (some ⟨L.gd, 0, none⟩) (R * C) L.cd, .int .i64 C, .int .i64 C, .slice (some ⟨L.gr, 0, none⟩) (C * C) L.cr, .int .i64 C, .int .i64 C, .slice (some ⟨L.gri, 0, none⟩) (C * C) L.cri], .agg #[.func (.func 133) #[] #[], .int .i64 t, .int .i64 s, .int .i64 q]] w (FiveSays L R C (rowOut od ol oli z) w) := by
  obtain ⟨i0, i1, i2, i3, i4, i5⟩ := ok
  have Hd0 := Lib.hid (h.d.al (by omega) (al2 w (Obj.cells #[.int .i64 R, .int .i64 R, .slice (some ⟨L.gl, 0, none⟩) (R * R) L.cl, .int .i64 R, .int .i64 R, .slice (some ⟨L.gli, 0, none⟩) (R * R) L.cli, .int .i64 R, .int .i64 C, .slice (some ⟨L.gd, 0, none⟩) (R * C) L.cd, .int .i64 C, .int .i64 C, .slice (some ⟨L.gr, 0, none⟩) (C * C) L.cr, .int .i64 C, .int .i64 C, .slice (some ⟨L.gri, 0, none⟩) (C * C) L.cri] 120) (Obj.cells #[.func (.func 133) #[] #[], .int .i64 t, .int .i64 s, .int .i64 q] 150)))
  have Hl0 := Lib.hid (h.l.al (by omega) (al2 w (Obj.cells #[.int .i64 R, .int .i64 R, .slice (some ⟨L.gl, 0, none⟩) (R * R) L.cl, .int .i64 R, .int .i64 R, .slice (some ⟨L.gli, 0, none⟩) (R * R) L.cli, .int .i64 R, .int .i64 C, .slice (some ⟨L.gd, 0, none⟩) (R * C) L.cd, .int .i64 C, .int .i64 C, .slice (some ⟨L.gr, 0, none⟩) (C * C) L.cr, .int .i64 C, .int .i64 C, .slice (some ⟨L.gri, 0, none⟩) (C * C) L.cri] 120) (Obj.cells #[.func (.func 133) #[] #[], .int .i64 t, .int .i64 s, .int .i64 q] 150)))
  have Hli0 := Lib.hid (h.li.al (by omega) (al2 w (Obj.cells #[.int .i64 R, .int .i64 R, .slice (some ⟨L.gl, 0, none⟩) (R * R) L.cl, .int .i64 R, .int .i64 R, .slice (some ⟨L.gli, 0, none⟩) (R * R) L.cli, .int .i64 R, .int .i64 C, .slice (some ⟨L.gd, 0, none⟩) (R * C) L.cd, .int .i64 C, .int .i64 C, .slice (some ⟨L.gr, 0, none⟩) (C * C) L.cr, .int .i64 C, .int .i64 C, .slice (some ⟨L.gri, 0, none⟩) (C * C) L.cri] 120) (Obj.cells #[.func (.func 133) #[] #[], .int .i64 t, .int .i64 s, .int .i64 q] 150)))
  have Hr0 := Lib.hid (h.r.al (by omega) (al2 w (Obj.cells #[.int .i64 R, .int .i64 R, .slice (some ⟨L.gl, 0, none⟩) (R * R) L.cl, .int .i64 R, .int .i64 R, .slice (some ⟨L.gli, 0, none⟩) (R * R) L.cli, .int .i64 R, .int .i64 C, .slice (some ⟨L.gd, 0, none⟩) (R * C) L.cd, .int .i64 C, .int .i64 C, .slice (some ⟨L.gr, 0, none⟩) (C * C) L.cr, .int .i64 C, .int .i64 C, .slice (some ⟨L.gri, 0, none⟩) (C * C) L.cri] 120) (Obj.cells #[.func (.func 133) #[] #[], .int .i64 t, .int .i64 s, .int .i64 q] 150)))
  have Hri0 := Lib.hid (h.ri.al (by omega) (al2 w (Obj.cells #[.int .i64 R, .int .i64 R, .slice (some ⟨L.gl, 0, none⟩) (R * R) L.cl, .int .i64 R, .int .i64 R, .slice (some ⟨L.gli, 0, none⟩) (R * R) L.cli, .int .i64 R, .int .i64 C, .slice (some ⟨L.gd, 0, none⟩) (R * C) L.cd, .int .i64 C, .int .i64 C, .slice (some ⟨L.gr, 0, none⟩) (C * C) L.cr, .int .i64 C, .int .i64 C, .slice (some ⟨L.gri, 0, none⟩) (C * C) L.cri] 120) (Obj.cells #[.func (.func 133) #[] #[], .int .i64 t, .int .i64 s, .int .i64 q] 150)))
  obtain ⟨kd1, kd2⟩ := h.d.cap (Nat.mul_pos (by omega) (by omega))
  have Fd := Lib.hid fd
  obtain ⟨kl1, kl2⟩ := h.l.cap (Nat.mul_pos (by omega) (by omega))
  have Fl := Lib.hid fl
  obtain ⟨kli1, kli2⟩ := h.li.cap (Nat.mul_pos (by omega) (by omega))
  have Fli := Lib.hid fli
  have X0 := Lib.hid ((Row.new w #[.int .i64 R, .int .i64 R, .slice (some ⟨L.gl, 0, none⟩) (R * R) L.cl, .int .i64 R, .int .i64 R, .slice (some ⟨L.gli, 0, none⟩) (R * R) L.cli, .int .i64 R, .int .i64 C, .slice (some ⟨L.gd, 0, none⟩) (R * C) L.cd, .int .i64 C, .int .i64 C, .slice (some ⟨L.gr, 0, none⟩) (C * C) L.cr, .int .i64 C, .int .i64 C, .slice (some ⟨L.gri, 0, none⟩) (C * C) L.cri] 120).below (al1 _ (Obj.cells #[.func (.func 133) #[] #[], .int .i64 t, .int .i64 s, .int .i64 q] 150)) (by simp))
  have Y0 := Lib.hid (Box4.new (w.alloc (Obj.cells #[.int .i64 R, .int .i64 R, .slice (some ⟨L.gl, 0, none⟩) (R * R) L.cl, .int .i64 R, .int .i64 R, .slice (some ⟨L.gli, 0, none⟩) (R * R) L.cli, .int .i64 R, .int .i64 C, .slice (some ⟨L.gd, 0, none⟩) (R * C) L.cd, .int .i64 C, .int .i64 C, .slice (some ⟨L.gr, 0, none⟩) (C * C) L.cr, .int .i64 C, .int .i64 C, .slice (some ⟨L.gri, 0, none⟩) (C * C) L.cri] 120)) 150 (.func (.func 133) #[] #[]) (.int .i64 t) (.int .i64 s) (.int .i64 q))
  have HB0 := Lib.hid (Kept.of_below (al2 w (Obj.cells #[.int .i64 R, .int .i64 R, .slice (some ⟨L.gl, 0, none⟩) (R * R) L.cl, .int .i64 R, .int .i64 R, .slice (some ⟨L.gli, 0, none⟩) (R * R) L.cli, .int .i64 R, .int .i64 C, .slice (some ⟨L.gd, 0, none⟩) (R * C) L.cd, .int .i64 C, .int .i64 C, .slice (some ⟨L.gr, 0, none⟩) (C * C) L.cr, .int .i64 C, .int .i64 C, .slice (some ⟨L.gri, 0, none⟩) (C * C) L.cri] 120) (Obj.cells #[.func (.func 133) #[] #[], .int .i64 t, .int .i64 s, .int .i64 q] 150)) L.b0 L.b5)
  simp only [World.size_alloc] at Y0
  clear h fd fl fli
  have ix0 : ∀ W, (Instr.index 157 (.agg #[.int .i64 R, .int .i64 R, .slice (some ⟨L.gl, 0, none⟩) (R * R) L.cl, .func (.func 153) #[] #[], .func (.func 154) #[] #[], .int .i64 R, .int .i64 R, .slice (some ⟨L.gli, 0, none⟩) (R * R) L.cli, .func (.func 155) #[] #[], .func (.func 154) #[] #[], .int .i64 R, .int .i64 C, .slice (some ⟨L.gd, 0, none⟩) (R * C) L.cd, .func (.func 153) #[] #[], .func (.func 156) #[] #[], .int .i64 C, .int .i64 C, .slice (some ⟨L.gr, 0, none⟩) (C * C) L.cr, .func (.func 154) #[] #[], .func (.func 156) #[] #[], .int .i64 C, .int .i64 C, .slice (some ⟨L.gri, 0, none⟩) (C * C) L.cri, .func (.func 154) #[] #[], .func (.func 157) #[] #[]]) (.int .i64 0)).run Try.prog W = .ok (.agg #[.int .i64 R, .int .i64 R, .slice (some ⟨L.gl, 0, none⟩) (R * R) L.cl, .func (.func 153) #[] #[], .func (.func 154) #[] #[]]) W := fun _ => by kernel_rfl
  have ix1 : ∀ W, (Instr.index 157 (.agg #[.int .i64 R, .int .i64 R, .slice (some ⟨L.gl, 0, none⟩) (R * R) L.cl, .func (.func 153) #[] #[], .func (.func 154) #[] #[], .int .i64 R, .int .i64 R, .slice (some ⟨L.gli, 0, none⟩) (R * R) L.cli, .func (.func 155) #[] #[], .func (.func 154) #[] #[], .int .i64 R, .int .i64 C, .slice (some ⟨L.gd, 0, none⟩) (R * C) L.cd, .func (.func 153) #[] #[], .func (.func 156) #[] #[], .int .i64 C, .int .i64 C, .slice (some ⟨L.gr, 0, none⟩) (C * C) L.cr, .func (.func 154) #[] #[], .func (.func 156) #[] #[], .int .i64 C, .int .i64 C, .slice (some ⟨L.gri, 0, none⟩) (C * C) L.cri, .func (.func 154) #[] #[], .func (.func 157) #[] #[]]) (.int .i64 1)).run Try.prog W = .ok (.agg #[.int .i64 R, .int .i64 R, .slice (some ⟨L.gli, 0, none⟩) (R * R) L.cli, .func (.func 155) #[] #[], .func (.func 154) #[] #[]]) W := fun _ => by kernel_rfl
  have ix2 : ∀ W, (Instr.index 157 (.agg #[.int .i64 R, .int .i64 R, .slice (some ⟨L.gl, 0, none⟩) (R * R) L.cl, .func (.func 153) #[] #[], .func (.func 154) #[] #[], .int .i64 R, .int .i64 R, .slice (some ⟨L.gli, 0, none⟩) (R * R) L.cli, .func (.func 155) #[] #[], .func (.func 154) #[] #[], .int .i64 R, .int .i64 C, .slice (some ⟨L.gd, 0, none⟩) (R * C) L.cd, .func (.func 153) #[] #[], .func (.func 156) #[] #[], .int .i64 C, .int .i64 C, .slice (some ⟨L.gr, 0, none⟩) (C * C) L.cr, .func (.func 154) #[] #[], .func (.func 156) #[] #[], .int .i64 C, .int .i64 C, .slice (some ⟨L.gri, 0, none⟩) (C * C) L.cri, .func (.func 154) #[] #[], .func (.func 157) #[] #[]]) (.int .i64 2)).run Try.prog W = .ok (.agg #[.int .i64 R, .int .i64 C, .slice (some ⟨L.gd, 0, none⟩) (R * C) L.cd, .func (.func 153) #[] #[], .func (.func 156) #[] #[]]) W := fun _ => by kernel_rfl
  have ix3 : ∀ W, (Instr.index 157 (.agg #[.int .i64 R, .int .i64 R, .slice (some ⟨L.gl, 0, none⟩) (R * R) L.cl, .func (.func 153) #[] #[], .func (.func 154) #[] #[], .int .i64 R, .int .i64 R, .slice (some ⟨L.gli, 0, none⟩) (R * R) L.cli, .func (.func 155) #[] #[], .func (.func 154) #[] #[], .int .i64 R, .int .i64 C, .slice (some ⟨L.gd, 0, none⟩) (R * C) L.cd, .func (.func 153) #[] #[], .func (.func 156) #[] #[], .int .i64 C, .int .i64 C, .slice (some ⟨L.gr, 0, none⟩) (C * C) L.cr, .func (.func 154) #[] #[], .func (.func 156) #[] #[], .int .i64 C, .int .i64 C, .slice (some ⟨L.gri, 0, none⟩) (C * C) L.cri, .func (.func 154) #[] #[], .func (.func 157) #[] #[]]) (.int .i64 3)).run Try.prog W = .ok (.agg #[.int .i64 C, .int .i64 C, .slice (some ⟨L.gr, 0, none⟩) (C * C) L.cr, .func (.func 154) #[] #[], .func (.func 156) #[] #[]]) W := fun _ => by kernel_rfl
  have ix4 : ∀ W, (Instr.index 157 (.agg #[.int .i64 R, .int .i64 R, .slice (some ⟨L.gl, 0, none⟩) (R * R) L.cl, .func (.func 153) #[] #[], .func (.func 154) #[] #[], .int .i64 R, .int .i64 R, .slice (some ⟨L.gli, 0, none⟩) (R * R) L.cli, .func (.func 155) #[] #[], .func (.func 154) #[] #[], .int .i64 R, .int .i64 C, .slice (some ⟨L.gd, 0, none⟩) (R * C) L.cd, .func (.func 153) #[] #[], .func (.func 156) #[] #[], .int .i64 C, .int .i64 C, .slice (some ⟨L.gr, 0, none⟩) (C * C) L.cr, .func (.func 154) #[] #[], .func (.func 156) #[] #[], .int .i64 C, .int .i64 C, .slice (some ⟨L.gri, 0, none⟩) (C * C) L.cri, .func (.func 154) #[] #[], .func (.func 157) #[] #[]]) (.int .i64 4)).run Try.prog W = .ok (.agg #[.int .i64 C, .int .i64 C, .slice (some ⟨L.gri, 0, none⟩) (C * C) L.cri, .func (.func 154) #[] #[], .func (.func 157) #[] #[]]) W := fun _ => by kernel_rfl
  go_enter Try.func132, Try.ntmps132
  go_wp2_with (refine wpList_load_row (by rfl) 120 (.tmp 2) (by rfl) w.heap.size (by rfl) 120 #[.int .i64 R, .int .i64 R, .slice (some ⟨L.gl, 0, none⟩) (R * R) L.cl, .int .i64 R, .int .i64 R, .slice (some ⟨L.gli, 0, none⟩) (R * R) L.cli, .int .i64 R, .int .i64 C, .slice (some ⟨L.gd, 0, none⟩) (R * C) L.cd, .int .i64 C, .int .i64 C, .slice (some ⟨L.gr, 0, none⟩) (C * C) L.cr, .int .i64 C, .int .i64 C, .slice (some ⟨L.gri, 0, none⟩) (C * C) L.cri] (0, 0) _ (by exact X0.out) Try.underlying120 (by rfl) sizeR ?_)
  obtain ⟨W0, hW0⟩ : ∃ W0, W0 = ((w.alloc (Obj.cells #[.int .i64 R, .int .i64 R, .slice (some ⟨L.gl, 0, none⟩) (R * R) L.cl, .int .i64 R, .int .i64 R, .slice (some ⟨L.gli, 0, none⟩) (R * R) L.cli, .int .i64 R, .int .i64 C, .slice (some ⟨L.gd, 0, none⟩) (R * C) L.cd, .int .i64 C, .int .i64 C, .slice (some ⟨L.gr, 0, none⟩) (C * C) L.cr, .int .i64 C, .int .i64 C, .slice (some ⟨L.gri, 0, none⟩) (C * C) L.cri] 120)).alloc (Obj.cells #[.func (.func 133) #[] #[], .int .i64 t, .int .i64 s, .int .i64 q] 150)) := ⟨_, rfl⟩
  have s0 : w.heap.size + 1 < W0.heap.size := by rw [hW0]; simp
  rw [← hW0] at X0 Y0 HB0 Hd0 Hl0 Hli0 Hr0 Hri0
  rw [← hW0]
  clear hW0 X0
  refine (places_impl R C L.gl (R * R) L.cl L.gli (R * R) L.cli L.gd (R * C) L.cd L.gr (C * C) L.cr L.gri (C * C) L.cri _).mono ?_
  rintro e w1 ⟨rfl, hb⟩
  have K1 := Lib.hid (Kept.of_below hb L.b0 L.b5)
  have Hd1 := Lib.hid (Hd0.out.below hb (by omega))
  have Hl1 := Lib.hid (Hl0.out.below hb (by omega))
  have Hli1 := Lib.hid (Hli0.out.below hb (by omega))
  have Hr1 := Lib.hid (Hr0.out.below hb (by omega))
  have Hri1 := Lib.hid (Hri0.out.below hb (by omega))
  have Y1 := Lib.hid (Y0.out.below hb (by omega))
  have s1 : W0.heap.size ≤ w1.heap.size := hb.size
  clear hb Y0 Hd0 Hl0 Hli0 Hr0 Hri0
  have z1 : w.heap.size + 1 < w1.heap.size := by omega
  obtain ⟨y0, y1, y2, y3⟩ := Y1.out
  go_wp2_with fail
  refine wp_loop_rounds 6 ?_
  rw [rounds_succ]
  go_wp2_with fail
  refine (rows_su R R t s L.gl (R * R) L.cl L.b1 L.b2 q z.l ol _ ht hs (by omega) (by omega) (by omega) (by omega) rfl kl1 kl2 (Hl1.out.al (by omega) (al1 _ _)) (by simp <;> omega) Fl.out).mono ?_
  rintro e w2 hq0
  cases ol with
  | none =>
    obtain ⟨rfl, hk⟩ := hq0
    have KK := Lib.hid (HB0.out.trans (K1.out.trans ((Kept.of_below (al1 _ _) L.b0 L.b5).trans (hk.wide (by omega) (by omega)))))
    clear hk y0 y1 y2 y3
    go_wp2
    go_ret
    rw [rowOut_none (by simp)]
    exact ⟨rfl, KK.out⟩
  | some vl =>
  obtain ⟨rfl, hown, hk⟩ := hq0
  have hk2 := (Kept.of_below (al1 w1 (Obj.cells #[.int .i64 R, .int .i64 R, .slice (some ⟨L.gl, 0, none⟩) (R * R) L.cl, .func (.func 153) #[] #[], .func (.func 154) #[] #[]] 156)) L.b1 L.b2).trans hk
  have K2 := Lib.hid (K1.out.trans (hk2.wide (lo' := L.b0) (hi' := L.b5) (by omega) (by omega)))
  have s2 : w1.heap.size ≤ w2.heap.size := hk2.size
  have Hd2 := Lib.hid (Hd1.out.kept hk2 (by omega) (by omega))
  clear Hd1
  have Hl2 := Lib.hid hown
  clear Hl1
  have Hli2 := Lib.hid (Hli1.out.kept hk2 (by omega) (by omega))
  clear Hli1
  have Hr2 := Lib.hid (Hr1.out.kept hk2 (by omega) (by omega))
  clear Hr1
  have Hri2 := Lib.hid (Hri1.out.kept hk2 (by omega) (by omega))
  clear Hri1
  have Y2 := Lib.hid (Y1.out.kept hk2 (by omega) (by omega))
  clear hown hk hk2 y0 y1 y2 y3 Y1 z1
  have z2 : w.heap.size + 1 < w2.heap.size := by omega
  obtain ⟨y0, y1, y2, y3⟩ := Y2.out
  go_wp2_with fail
  rw [rounds_succ]
  go_wp2_with fail
  refine (icols_su R R t s L.gli (R * R) L.cli L.b2 L.b3 q z.li oli _ ht hs (by omega) (by omega) (by omega) (by omega) rfl kli1 kli2 hq (Hli2.out.al (by omega) (al1 _ _)) (by simp <;> omega) Fli.out).mono ?_
  rintro e w3 hq1
  cases oli with
  | none =>
    obtain ⟨rfl, hk⟩ := hq1
    have KK := Lib.hid (HB0.out.trans (K2.out.trans ((Kept.of_below (al1 _ _) L.b0 L.b5).trans (hk.wide (by omega) (by omega)))))
    clear hk y0 y1 y2 y3
    go_wp2
    go_ret
    rw [rowOut_none (by simp)]
    exact ⟨rfl, KK.out⟩
  | some vli =>
  obtain ⟨rfl, hown, hk⟩ := hq1
  have hk2 := (Kept.of_below (al1 w2 (Obj.cells #[.int .i64 R, .int .i64 R, .slice (some ⟨L.gli, 0, none⟩) (R * R) L.cli, .func (.func 155) #[] #[], .func (.func 154) #[] #[]] 156)) L.b2 L.b3).trans hk
  have K3 := Lib.hid (K2.out.trans (hk2.wide (lo' := L.b0) (hi' := L.b5) (by omega) (by omega)))
  have s3 : w2.heap.size ≤ w3.heap.size := hk2.size
  have Hd3 := Lib.hid (Hd2.out.kept hk2 (by omega) (by omega))
  clear Hd2
  have Hl3 := Lib.hid (Hl2.out.kept hk2 (by omega) (by omega))
  clear Hl2
  have Hli3 := Lib.hid hown
  clear Hli2
  have Hr3 := Lib.hid (Hr2.out.kept hk2 (by omega) (by omega))
  clear Hr2
  have Hri3 := Lib.hid (Hri2.out.kept hk2 (by omega) (by omega))
  clear Hri2
  have Y3 := Lib.hid (Y2.out.kept hk2 (by omega) (by omega))
  clear hown hk hk2 y0 y1 y2 y3 Y2 z2
  have z3 : w.heap.size + 1 < w3.heap.size := by omega
  obtain ⟨y0, y1, y2, y3⟩ := Y3.out
  go_wp2_with fail
  rw [rounds_succ]
  go_wp2_with fail
  refine (rows_su R C t s L.gd (R * C) L.cd L.b0 L.b1 q z.d od _ ht hs (by omega) (by omega) (by omega) (by omega) rfl kd1 kd2 (Hd3.out.al (by omega) (al1 _ _)) (by simp <;> omega) Fd.out).mono ?_
  rintro e w4 hq2
  cases od with
  | none =>
    obtain ⟨rfl, hk⟩ := hq2
    have KK := Lib.hid (HB0.out.trans (K3.out.trans ((Kept.of_below (al1 _ _) L.b0 L.b5).trans (hk.wide (by omega) (by omega)))))
    clear hk y0 y1 y2 y3
    go_wp2
    go_ret
    rw [rowOut_none (by simp)]
    exact ⟨rfl, KK.out⟩
  | some vd =>
  obtain ⟨rfl, hown, hk⟩ := hq2
  have hk2 := (Kept.of_below (al1 w3 (Obj.cells #[.int .i64 R, .int .i64 C, .slice (some ⟨L.gd, 0, none⟩) (R * C) L.cd, .func (.func 153) #[] #[], .func (.func 156) #[] #[]] 156)) L.b0 L.b1).trans hk
  have K4 := Lib.hid (K3.out.trans (hk2.wide (lo' := L.b0) (hi' := L.b5) (by omega) (by omega)))
  have s4 : w3.heap.size ≤ w4.heap.size := hk2.size
  have Hd4 := Lib.hid hown
  clear Hd3
  have Hl4 := Lib.hid (Hl3.out.kept hk2 (by omega) (by omega))
  clear Hl3
  have Hli4 := Lib.hid (Hli3.out.kept hk2 (by omega) (by omega))
  clear Hli3
  have Hr4 := Lib.hid (Hr3.out.kept hk2 (by omega) (by omega))
  clear Hr3
  have Hri4 := Lib.hid (Hri3.out.kept hk2 (by omega) (by omega))
  clear Hri3
  have Y4 := Lib.hid (Y3.out.kept hk2 (by omega) (by omega))
  clear hown hk hk2 y0 y1 y2 y3 Y3 z3
  have z4 : w.heap.size + 1 < w4.heap.size := by omega
  obtain ⟨y0, y1, y2, y3⟩ := Y4.out
  go_wp2_with fail
  rw [rounds_succ]
  go_wp2_with fail
  refine (nostep_impl 133 _ _ _ _ _ t s q _).mono ?_
  rintro e w5 ⟨rfl, hb⟩
  have hb2 := on1 (Obj.cells #[.int .i64 C, .int .i64 C, .slice (some ⟨L.gr, 0, none⟩) (C * C) L.cr, .func (.func 154) #[] #[], .func (.func 156) #[] #[]] 156) hb
  have K5 := Lib.hid (K4.out.trans (Kept.of_below hb2 L.b0 L.b5))
  have s5 : w4.heap.size ≤ w5.heap.size := hb2.size
  have Hd5 := Lib.hid (Hd4.out.below hb2 (by omega))
  clear Hd4
  have Hl5 := Lib.hid (Hl4.out.below hb2 (by omega))
  clear Hl4
  have Hli5 := Lib.hid (Hli4.out.below hb2 (by omega))
  clear Hli4
  have Hr5 := Lib.hid (Hr4.out.below hb2 (by omega))
  clear Hr4
  have Hri5 := Lib.hid (Hri4.out.below hb2 (by omega))
  clear Hri4
  have Y5 := Lib.hid (Y4.out.below hb2 (by omega))
  clear hb hb2 y0 y1 y2 y3 Y4 z4
  have z5 : w.heap.size + 1 < w5.heap.size := by omega
  obtain ⟨y0, y1, y2, y3⟩ := Y5.out
  go_wp2_with fail
  rw [rounds_succ]
  go_wp2_with fail
  refine (nostep_impl 133 _ _ _ _ _ t s q _).mono ?_
  rintro e w6 ⟨rfl, hb⟩
  have hb2 := on1 (Obj.cells #[.int .i64 C, .int .i64 C, .slice (some ⟨L.gri, 0, none⟩) (C * C) L.cri, .func (.func 154) #[] #[], .func (.func 157) #[] #[]] 156) hb
  have K6 := Lib.hid (K5.out.trans (Kept.of_below hb2 L.b0 L.b5))
  have s6 : w5.heap.size ≤ w6.heap.size := hb2.size
  have Hd6 := Lib.hid (Hd5.out.below hb2 (by omega))
  clear Hd5
  have Hl6 := Lib.hid (Hl5.out.below hb2 (by omega))
  clear Hl5
  have Hli6 := Lib.hid (Hli5.out.below hb2 (by omega))
  clear Hli5
  have Hr6 := Lib.hid (Hr5.out.below hb2 (by omega))
  clear Hr5
  have Hri6 := Lib.hid (Hri5.out.below hb2 (by omega))
  clear Hri5
  have Y6 := Lib.hid (Y5.out.below hb2 (by omega))
  clear hb hb2 y0 y1 y2 y3 Y5 z5
  have z6 : w.heap.size + 1 < w6.heap.size := by omega
  obtain ⟨y0, y1, y2, y3⟩ := Y6.out
  go_wp2_with fail
  rw [rounds_succ]
  go_wp2
  go_ret
  exact ⟨rfl, ⟨Hd6.out, Hl6.out, Hli6.out, Hr6.out, Hri6.out⟩, HB0.out.trans K6.out⟩

end Go.Proofs.Ytpojkahlllochaa
