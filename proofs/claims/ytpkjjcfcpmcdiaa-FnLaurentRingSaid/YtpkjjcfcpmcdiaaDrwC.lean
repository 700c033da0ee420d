/- The draws of the law on polynomials, and the laws' comparisons. No condition but those that each theorem names. -/
import Derived.Test.YtpkjjcfcpmcdiaaDrwB
import Derived.Lib.AppendZerosOnto
import Derived.Deep.Upon
namespace Go.Proofs.Ytpkjjcfcpmcdiaa
open Go.RowKit

/-- A polynomial that was drawn. -/
def DrawU (w : World) (e : Ending) (w' : World) : Prop :=
  ∃ r R t zs, e = .returned (.agg #[.int .i64 r, .slice R zs.length t]) ∧ Mine w' w.heap.size w'.heap.size R zs.length zs ∧ zs.length ≤ t ∧ t ≤ maxLen ∧ zs.length ≤ 1000 ∧ Below w.heap.size w w'
/-- Two polynomials that were drawn. -/
def DrawM (w : World) (e : Ending) (w' : World) : Prop :=
  ∃ r R t zs s S u ys, e = .returned (.tuple #[.agg #[.int .i64 r, .slice R zs.length t], .agg #[.int .i64 s, .slice S ys.length u]]) ∧
    Mine w' w.heap.size w'.heap.size R zs.length zs ∧ zs.length ≤ t ∧ t ≤ maxLen ∧ zs.length ≤ 1000 ∧ Mine w' w.heap.size w'.heap.size S ys.length ys ∧ ys.length ≤ u ∧ u ≤ maxLen ∧ ys.length ≤ 1000 ∧ Below w.heap.size w w'

set_option maxRecDepth 100000 in
set_option maxHeartbeats 4000000 in
theorem unit_draw (A : Option Addr) (n c : Nat) (bs : List Int) (w : World) (h : Bys w w.heap.size A n bs) (hn : n ≤ 1048576) :
    Calls Try.prog 6 #[.slice A n c] w (DrawU w) := by
  have D0 := Lib.hid (al1 w (Obj.cells #[.int .i64 0, .slice none 0 0] 26))
  have F0 := Lib.hid (from_spec A n c bs _ (h.into D0.out) hn)
  have B0 := Lib.hid (BoxG.new w 26 (.int .i64 0) (.slice none 0 0))
  have H := Lib.hid (h.into D0.out)
  have f0 := Free.new w 26 #[.int .i64 0, .slice none 0 0]
  clear h
  go_enter Try.func6, Try.ntmps6
  go_wp2_with fail
  refine F0.out.mono ?_
  rintro e w1 ⟨g, x, rfl, hs, hg, hg1, hb⟩
  have S1 := Lib.hid hs
  have B1 := Lib.hid (B0.out.below hb (by simp))
  have D1 := Lib.hid (on1 _ hb)
  have H1 := Lib.hid ((H.out.below hb).more hg)
  have f1 := Lib.hid (f0.below hb (by simp))
  have gw : w.heap.size < g := by simp at hg; omega
  clear hs hb f0 F0 B0 D0
  go_wp2_with fail
  refine (draw_spec g A n c bs 0 x _ H1.out hn S1.out).mono ?_
  rintro e w2 ⟨r, R, t, zs, a2, x2, rfl, hM, h1, h2, h3, -, hk⟩
  have B2 := B1.out.kept hk (by omega) (by omega)
  have f2 := f1.out.kept hk (by omega) (by omega)
  have z2 := hk.size
  obtain ⟨k0, k1⟩ := B2
  unfold Free at f2
  go_wp2
  refine bodyPost_ret (v := .agg #[.int .i64 r, .slice R zs.length t]) (by simp [results, Try.results6, k0, k1, go_sem]) rfl ⟨r, R, t, zs, rfl, ?_, h1, h2, h3, ?_⟩
  · exact ((hM.far (p := ⟨w.heap.size, 0, none⟩) (.inl (by dsimp only; omega)) _).far (p := ⟨w.heap.size, 1, none⟩) (.inl (by dsimp only; omega)) _).wide (by omega) (by simp [World.setCell])
  · exact ((D1.out.trans (hk.below (B := w.heap.size) (by omega) (by omega))).setCell (Nat.le_refl _) _).setCell (Nat.le_refl _) _

set_option maxRecDepth 100000 in
set_option maxHeartbeats 4000000 in
theorem mult_draw (A : Option Addr) (n c : Nat) (bs : List Int) (w : World) (h : Bys w w.heap.size A n bs) (hn : n ≤ 1048576) :
    Calls Try.prog 5 #[.slice A n c] w (DrawM w) := by
  have D0 := Lib.hid (al2 w (Obj.cells #[.int .i64 0, .slice none 0 0] 26) (Obj.cells #[.int .i64 0, .slice none 0 0] 26))
  have F0 := Lib.hid (from_spec A n c bs _ (h.into D0.out) hn)
  have B0 := Lib.hid ((BoxG.new w 26 (.int .i64 0) (.slice none 0 0)).below (al1 _ (Obj.cells #[.int .i64 0, .slice none 0 0] 26)) (by simp))
  have f0 := (Free.new w 26 #[.int .i64 0, .slice none 0 0]).below (al1 _ (Obj.cells #[.int .i64 0, .slice none 0 0] 26)) (by simp)
  have C0 := Lib.hid (BoxG.new (w.alloc (Obj.cells #[.int .i64 0, .slice none 0 0] 26)) 26 (.int .i64 0) (.slice none 0 0))
  have e0 := Free.new (w.alloc (Obj.cells #[.int .i64 0, .slice none 0 0] 26)) 26 #[.int .i64 0, .slice none 0 0]
  simp only [World.size_alloc] at C0 e0
  have H := Lib.hid (h.into D0.out)
  clear h
  go_enter Try.func5, Try.ntmps5
  go_wp2_with fail
  refine F0.out.mono ?_
  rintro e w1 ⟨g, x, rfl, hs, hg, hg1, hb⟩
  have S1 := Lib.hid hs
  have B1 := Lib.hid (B0.out.below hb (by simp; omega))
  have C1 := Lib.hid (C0.out.below hb (by simp))
  have D1 := Lib.hid (on2 _ _ hb)
  have H1 := Lib.hid ((H.out.below hb).more hg)
  have f1 := Lib.hid (f0.below hb (by simp; omega))
  have e1 := Lib.hid (e0.below hb (by simp))
  have gw : w.heap.size + 1 < g := by simp at hg; omega
  clear hs hb f0 e0 F0 B0 C0 D0
  go_wp2_with fail
  refine (draw_spec g A n c bs 0 x _ H1.out hn S1.out).mono ?_
  rintro e w2 ⟨r, R, t, zs, a2, x2, rfl, hM, h1, h2, h3, hs, hk⟩
  have S2 := Lib.hid hs
  have M2 := Lib.hid hM
  have z2 := hk.size
  have B2 := Lib.hid (B1.out.kept hk (by omega) (by omega))
  have C2 := Lib.hid (C1.out.kept hk (by omega) (by omega))
  have f2 := Lib.hid (f1.out.kept hk (by omega) (by omega))
  have e2 := Lib.hid (e1.out.kept hk (by omega) (by omega))
  have D2 := Lib.hid (D1.out.trans (hk.below (B := w.heap.size) (by omega) (by omega)))
  have H2 := Lib.hid (H1.out.kept hk (Nat.le_refl _) (by omega))
  clear hs hM hk S1 B1 C1 f1 e1 D1 H1
  go_wp2_with fail
  refine (draw_spec g A n c bs a2 x2 _ H2.out hn S2.out).mono ?_
  rintro e w3 ⟨s, S, u, ys, a3, x3, rfl, hN, i1, i2, i3, -, hk⟩
  have z3 := hk.size
  have B3 := B2.out.kept hk (by omega) (by omega)
  have C3 := C2.out.kept hk (by omega) (by omega)
  have f3 := f2.out.kept hk (by omega) (by omega)
  have e3 := e2.out.kept hk (by omega) (by omega)
  have D3 := D2.out.trans (hk.below (B := w.heap.size) (by omega) (by omega))
  have M3 := M2.out.kept hk (Nat.le_refl _) (.inr (by omega))
  obtain ⟨k0, k1⟩ := B3
  obtain ⟨l0, l1⟩ := C3
  unfold Free at f3 e3
  go_wp2
  refine bodyPost_ret (v := .tuple #[.agg #[.int .i64 r, .slice R zs.length t], .agg #[.int .i64 s, .slice S ys.length u]]) (by simp [results, Try.results5, k0, k1, l0, l1, go_sem]) rfl ⟨r, R, t, zs, s, S, u, ys, rfl, ?_, h1, h2, h3, ?_, i1, i2, i3, ?_⟩
  · exact ((((M3.far (p := ⟨w.heap.size, 0, none⟩) (.inl (by dsimp only; omega)) _).far (p := ⟨w.heap.size, 1, none⟩) (.inl (by dsimp only; omega)) _).far (p := ⟨w.heap.size + 1, 0, none⟩) (.inl (by dsimp only; omega)) _).far (p := ⟨w.heap.size + 1, 1, none⟩) (.inl (by dsimp only; omega)) _).wide (by omega) (by simp [World.setCell]; omega)
  · exact ((((hN.far (p := ⟨w.heap.size, 0, none⟩) (.inl (by dsimp only; omega)) _).far (p := ⟨w.heap.size, 1, none⟩) (.inl (by dsimp only; omega)) _).far (p := ⟨w.heap.size + 1, 0, none⟩) (.inl (by dsimp only; omega)) _).far (p := ⟨w.heap.size + 1, 1, none⟩) (.inl (by dsimp only; omega)) _).wide (by omega) (by simp [World.setCell])
  · exact (((D3.setCell (Nat.le_refl _) _).setCell (Nat.le_refl _) _).setCell (by dsimp only; omega) _).setCell (by dsimp only; omega) _

set_option maxHeartbeats 400000 in
theorem big_no (A : Option Addr) (n c : Nat) (w : World) (hn : n ≤ 4096) : Calls Try.prog 4 #[.slice A n c] w fun e w' => e = .returned (.bool false) ∧ w = w' := by
  have t : ¬ (4096 : Int) < (n : Int) := by omega
  go_enter Try.func4, Try.ntmps4
  go_wp2
  go_ret
  exact ⟨rfl, rfl⟩
set_option maxHeartbeats 400000 in
theorem big_yes (A : Option Addr) (n c : Nat) (w : World) (hn : ¬ n ≤ 4096) : Calls Try.prog 4 #[.slice A n c] w fun e w' => e = .returned (.bool true) ∧ w = w' := by
  have t : (4096 : Int) < (n : Int) := by omega
  go_enter Try.func4, Try.ntmps4
  go_wp2
  go_ret
  exact ⟨rfl, rfl⟩

theorem infoB : (Try.prog.info? 5).map (fun i => (i.zero, i.size, i.bytes)) = some (some (.int .u8 0), 1, 1) := by kernel_rfl

/-- The code with three bytes ahead of it. -/
def OtherR (w : World) (n : Nat) (e : Ending) (w' : World) : Prop := ∃ A c bs, e = .returned (.slice A (3 + n) c) ∧ Bys w' w'.heap.size A (3 + n) bs ∧ Below w.heap.size w w'

theorem bys_news {w : World} {B n : Nat} {ad : Addr} {bs : List Int} (h : Bys w B (some ad) n bs) : ∀ j u, (bs.map (Value.int .u8))[j]? = some u → w.cell? (ad.add j) = some u := by
  intro j u hu
  have hj : j < bs.length := by
    have := (List.getElem?_eq_some_iff.1 hu).1
    simpa using this
  have hl := h.1
  obtain ⟨b, off, e, _, h4⟩ := h.2.2 (by omega)
  cases e
  have h5 := h4 j (by omega)
  have e5 : (⟨b, off, none⟩ : Addr).add j = ⟨b, off + j, none⟩ := by unfold Addr.add; split <;> simp_all
  rw [e5, h5, ← hu, List.getElem?_map, List.getElem?_eq_getElem hj]
  simp [List.getElem?_eq_getElem hj]
theorem bys_row {w : World} {lo g n c : Nat} {bs : List Int} (h : w.ownsRow lo 5 1 (.slice (some ⟨g, 0, none⟩) n c) n (bs.map (Value.int .u8))) (hr : ∀ j, j < n → 0 ≤ bs.getD j 0 ∧ bs.getD j 0 ≤ 255) : Bys w w.heap.size (some ⟨g, 0, none⟩) n bs := by
  have hl : bs.length = n := by have := h.1; simpa using this
  refine ⟨hl, hr, fun h0 => ⟨g, 0, rfl, (World.ownsRow.lt h g rfl).2, fun j hj => ?_⟩⟩
  rw [Nat.zero_add, World.ownsRow.cellAt (by exact h) j (by omega), List.getElem?_map, List.getElem?_eq_getElem (by omega)]
  simp [List.getElem?_eq_getElem (show j < bs.length by omega)]
theorem other_range {n : Nat} {bs : List Int} (_hl : bs.length = n) (h : ∀ j, j < n → 0 ≤ bs.getD j 0 ∧ bs.getD j 0 ≤ 255) : ∀ j, j < 3 + n → 0 ≤ ([3, 10, 9] ++ bs).getD j 0 ∧ ([3, 10, 9] ++ bs).getD j 0 ≤ 255 := by
  intro j hj
  rcases Nat.lt_or_ge j 3 with h3 | h3
  · rcases (show j = 0 ∨ j = 1 ∨ j = 2 by omega) with rfl | rfl | rfl <;> simp
  · rw [List.getD_eq_getElem?_getD, List.getElem?_append_right (by simpa using h3), ← List.getD_eq_getElem?_getD]
    simp only [List.length_cons, List.length_nil]
    exact h _ (by omega)

/-- The code is appended to three bytes. -/
theorem wpList_append_code {w : World} {ops : Array Oper} {rest : List Oper} {o : Oper} {a : Act} {Q : Exit → Act → World → Prop} (hgd : o.guard = none) (s x : Operand) (ho : o.op = .call { callee := .builtin .append, args := #[s, x], argTypes := #[22, 22] })
    (lo B n ca g : Nat) (A : Option Addr) (bs : List Int) (hs : a.eval s = .slice (some ⟨g, 0, none⟩) 3 3) (hown : w.ownsRow lo 5 1 (.slice (some ⟨g, 0, none⟩) 3 3) 3 [.int .u8 3, .int .u8 10, .int .u8 9]) (hx : a.eval x = .slice A n ca) (hI : Bys w B A n bs) (hn : n ≤ 1048576) (hlo : lo ≤ w.heap.size)
    (h : ∀ A' c' w', Bys w' w'.heap.size A' (3 + n) ([3, 10, 9] ++ bs) → Below lo w w' → wpList Try.prog ops Q rest (a.put o.dst (.slice A' (3 + n) c')) w') : wpList Try.prog ops Q (o :: rest) a w := by
  obtain ⟨ti, hi0, hz0, hz1, hz2⟩ := info_parts infoB
  rcases A with _ | ad
  · have hn0 : n = 0 := by
      rcases Nat.eq_zero_or_pos n with h0 | h0
      · exact h0
      · obtain ⟨b, off, e, _⟩ := hI.2.2 h0
        cases e
    subst hn0
    have hz : bs = [] := List.length_eq_zero_iff.1 hI.1
    subst hz
    have hr := run_append_nothing (P := Try.prog) w 22 22 o.type 5 ti Try.underlying22 hi0 (some ⟨g, 0, none⟩) 3 3 (Nat.le_refl _) (.slice none 0 ca) ⟨.inl ⟨5, Try.underlying22⟩, fun w' => by simp [Builtin.lenOf], by simp [Builtin.firstCells], by simp [Builtin.firstCells], by simp, by simp⟩
    refine Lib.wpList_append_run w hgd s x _ _ ho _ _ hs hx _ _ hr ?_
    exact h _ 3 w (bys_row (bs := [3, 10, 9]) (by exact hown) (by simpa using other_range (n := 0) (bs := []) rfl (fun j hj => by omega))) (Below.refl _ _)
  · have hl : (bs.map (Value.int .u8)).length = n * 1 := by rw [List.length_map, hI.1, Nat.mul_one]
    refine wpList_append_own w hgd s x 22 ho lo 5 ti _ 1 1 Try.underlying22 hi0 hz0 hz1 hz2 rfl (by decide) (.slice (some ⟨g, 0, none⟩) 3 3) 3 [.int .u8 3, .int .u8 10, .int .u8 9] hs hown ad n ca (bs.map (Value.int .u8)) hx hl (bys_news hI) (by simp [Value.oneCell']) (by unfold maxLen; omega) (by omega) hlo ?_
    intro v' w' h1 hg _
    have h2 : w'.ownsRow lo 5 1 v' (3 + n) (([3, 10, 9] ++ bs).map (Value.int .u8)) := by rw [List.map_append]; exact h1
    obtain ⟨g', cap, rfl, _⟩ := h1.form (by omega)
    exact h _ cap w' (bys_row h2 (other_range hI.1 hI.2.1)) ((Below.refl _ _).grown hg hlo (fun k hk => (hown.lt k hk).1))

set_option maxRecDepth 100000 in
set_option maxHeartbeats 4000000 in
theorem other_any (A : Option Addr) (n c : Nat) (bs : List Int) (w : World) (h : Bys w w.heap.size A n bs) (hn : n ≤ 1048576) :
    Calls Try.prog 7 #[.slice A n c, .int .u8 3] w (OtherR w n) := by
  have OW := Lib.hid (show (w.alloc (Obj.cells #[.int .u8 3, .int .u8 10, .int .u8 9] 5)).ownsRow w.heap.size 5 1 (.slice (some ⟨w.heap.size, 0, none⟩) 3 3) 3 [.int .u8 3, .int .u8 10, .int .u8 9] from
    ⟨rfl, .inr ⟨w.heap.size, 3, _, rfl, Nat.le_refl _, heap_alloc_new w _, Nat.le_refl _, by unfold maxLen; omega, rfl, rfl⟩⟩)
  have H := Lib.hid (h.into (al1 w (Obj.cells #[.int .u8 3, .int .u8 10, .int .u8 9] 5)))
  clear h
  go_enter Try.func7, Try.ntmps7
  go_wp2_with (at_builtin; refine wpList_append_code rfl _ _ rfl w.heap.size _ n c w.heap.size A bs rfl (by exact OW.out) rfl (by exact H.out) hn (by simp) ?_; intro A' c' w' h5 h6; have H5 := Lib.hid h5; have H6 := Lib.hid h6; clear h5 h6)
  go_ret
  exact ⟨A', c', _, rfl, H5.out, (al1 w _).trans H6.out⟩

set_option maxHeartbeats 2000000 in
theorem likeInts_any (A A' : Option Addr) (n c c' : Nat) (zs : List Int) (B B' : Nat) (w : World) (h : Ints w B A n zs) (h' : Ints w B' A' n zs) (hn : n ≤ 1048576) :
    Calls Try.prog 19 #[.slice A n c, .slice A' n c'] w fun e w' => e = .returned (.bool true) ∧ Below w.heap.size w w' := by
  have H := Lib.hid h
  have H' := Lib.hid h'
  clear h h'
  go_enter Try.func19, Try.ntmps19
  go_wp2
  go_loopw [5] (fun x wr => ∃ k m : Nat, k ≤ n ∧ x = .int .i64 k ∧ wr = w.drewN m) (fun x _ => n - (intOf x).toNat)
  case atStart => exact ⟨0, 0, Nat.zero_le _, rfl, rfl⟩
  case round =>
    obtain ⟨k, m, hk, rfl, rfl⟩ := hrel
    by_cases hlt : k < n
    · obtain ⟨b, off, x, rfl, hb, hx, hc⟩ := H.out.at_z hlt
      obtain ⟨b', off', y, rfl, hb', hy, hc'⟩ := H'.out.at_z hlt
      obtain rfl : x = y := hx.symm.trans hy
      have i0 : (0 : Int) ≤ (k : Int) := by omega
      have i1 : (k : Int) < (n : Int) := by omega
      clear hx hy
      go_wp2
      go_quiet (fail)
      all_goals
        go_wp2
        go_roundw
        case rel => exact ⟨k + 1, _, by omega, by go_num, rfl⟩
        case measure => simp [intOf]; omega
    · obtain rfl : n = k := by omega
      have i1 : ¬ (n : Int) < (n : Int) := by omega
      go_wp2
      go_ret
      exact ⟨rfl, Go.Joins.below_draws _ _ _⟩
set_option maxHeartbeats 1000000 in
theorem like_any (r : Int) (A A' : Option Addr) (n c c' : Nat) (zs : List Int) (B B' : Nat) (w : World) (h : Ints w B A n zs) (h' : Ints w B' A' n zs) (hn : n ≤ 1048576) (hB : B ≤ w.heap.size) (hB' : B' ≤ w.heap.size) :
    Calls Try.prog 10 #[.agg #[.int .i64 r, .slice A n c], .agg #[.int .i64 r, .slice A' n c']] w fun e w' => e = .returned (.bool true) ∧ Below w.heap.size w w' := by
  have D0 := Lib.hid (al2 w (Obj.cells #[.int .i64 r, .slice A n c] 26) (Obj.cells #[.int .i64 r, .slice A' n c'] 26))
  have EQ := Lib.hid (likeInts_any A A' n c c' zs B B' _ (h.below (D0.out.mono hB)) (h'.below (D0.out.mono hB')) hn)
  clear h h'
  go_enter Try.func10, Try.ntmps10
  go_wp2_with fail
  refine EQ.out.mono ?_
  rintro e w1 ⟨rfl, hb⟩
  have HB := Lib.hid (on2 _ _ hb)
  clear hb
  go_wp2
  go_ret
  exact ⟨rfl, HB.out⟩
end Go.Proofs.Ytpkjjcfcpmcdiaa
