/- The draws of texts, and the laws' comparisons of matrices. No condition but those that each theorem names. -/
import Derived.Test.YtboanggdehceaaaDoorDrmB
import Derived.Test.YtboanggdehceaaaDoorNumB
import Derived.Lib.AppendZerosOnto
import Derived.Deep.Upon
import Derived.Laws.Rows
namespace Go.Proofs.YtboanggdehceaaaDoor
open Go.RowKit

set_option maxHeartbeats 400000 in
theorem big_no (A : Option Addr) (n c : Nat) (w : World) (hn : n ≤ 4096) : Calls Tryd.prog 5 #[.slice A n c] w fun e w' => e = .returned (.bool false) ∧ w = w' := by
  have t : ¬ (4096 : Int) < (n : Int) := by omega
  go_enter Tryd.func5, Tryd.ntmps5
  go_wp2
  go_ret
  exact ⟨rfl, rfl⟩
set_option maxHeartbeats 400000 in
theorem big_yes (A : Option Addr) (n c : Nat) (w : World) (hn : ¬ n ≤ 4096) : Calls Tryd.prog 5 #[.slice A n c] w fun e w' => e = .returned (.bool true) ∧ w = w' := by
  have t : (4096 : Int) < (n : Int) := by omega
  go_enter Tryd.func5, Tryd.ntmps5
  go_wp2
  go_ret
  exact ⟨rfl, rfl⟩

theorem infoB : (Tryd.prog.info? 5).map (fun i => (i.zero, i.size, i.bytes)) = some (some (.int .u8 0), 1, 1) := by kernel_rfl

/-- The code with three bytes ahead of it. -/
def OtherR (w : World) (n : Nat) (e : Ending) (w' : World) : Prop := ∃ A c bs, e = .returned (.slice A (3 + n) c) ∧ Bys w' w'.heap.size A (3 + n) bs ∧ Below w.heap.size w w'

theorem bys_news {w : World} {B n : Nat} {ad : Addr} {bs : List Int} (h : Bys w B (some ad) n bs) : ∀ j u, (bs.map (Value.int .u8))[j]? = some u → w.cell? (ad.add j) = some u := by
  intro j u hu
  have hj : j < bs.length := by
    have := (List.getElem?_eq_some_iff.1 hu).1
    simpa using this
  have hl := h.1
  obtain ⟨b, off, e, _, h4⟩ := h.2.2 (by omega)
  cases e
  have h5 := h4 j (by omega)
  have e5 : (⟨b, off, none⟩ : Addr).add j = ⟨b, off + j, none⟩ := by unfold Addr.add; split <;> simp_all
  rw [e5, h5, ← hu, List.getElem?_map, List.getElem?_eq_getElem hj]
  simp [List.getElem?_eq_getElem hj]
theorem bys_row {w : World} {lo g n c : Nat} {bs : List Int} (h : w.ownsRow lo 5 1 (.slice (some ⟨g, 0, none⟩) n c) n (bs.map (Value.int .u8))) (hr : ∀ j, j < n → 0 ≤ bs.getD j 0 ∧ bs.getD j 0 ≤ 255) : Bys w w.heap.size (some ⟨g, 0, none⟩) n bs := by
  have hl : bs.length = n := by have := h.1; simpa using this
  refine ⟨hl, hr, fun h0 => ⟨g, 0, rfl, (World.ownsRow.lt h g rfl).2, fun j hj => ?_⟩⟩
  rw [Nat.zero_add, World.ownsRow.cellAt (by exact h) j (by omega), List.getElem?_map, List.getElem?_eq_getElem (by omega)]
  simp [List.getElem?_eq_getElem (show j < bs.length by omega)]
theorem other_range {n : Nat} {bs : List Int} (_hl : bs.length = n) (h : ∀ j, j < n → 0 ≤ bs.getD j 0 ∧ bs.getD j 0 ≤ 255) : ∀ j, j < 3 + n → 0 ≤ ([1, 8, 3] ++ bs).getD j 0 ∧ ([1, 8, 3] ++ bs).getD j 0 ≤ 255 := by
  intro j hj
  rcases Nat.lt_or_ge j 3 with h3 | h3
  · rcases (show j = 0 ∨ j = 1 ∨ j = 2 by omega) with rfl | rfl | rfl <;> simp
  · rw [List.getD_eq_getElem?_getD, List.getElem?_append_right (by simpa using h3), ← List.getD_eq_getElem?_getD]
    simp only [List.length_cons, List.length_nil]
    exact h _ (by omega)

/-- The code is appended to three bytes. -/
theorem wpList_append_code {w : World} {ops : Array Oper} {rest : List Oper} {o : Oper} {a : Act} {Q : Exit → Act → World → Prop} (hgd : o.guard = none) (s x : Operand) (ho : o.op = .call { callee := .builtin .append, args := #[s, x], argTypes := #[22, 22] })
    (lo B n ca g : Nat) (A : Option Addr) (bs : List Int) (hs : a.eval s = .slice (some ⟨g, 0, none⟩) 3 3) (hown : w.ownsRow lo 5 1 (.slice (some ⟨g, 0, none⟩) 3 3) 3 [.int .u8 1, .int .u8 8, .int .u8 3]) (hx : a.eval x = .slice A n ca) (hI : Bys w B A n bs) (hn : n ≤ 1048576) (hlo : lo ≤ w.heap.size)
    (h : ∀ A' c' w', Bys w' w'.heap.size A' (3 + n) ([1, 8, 3] ++ bs) → Below lo w w' → wpList Tryd.prog ops Q rest (a.put o.dst (.slice A' (3 + n) c')) w') : wpList Tryd.prog ops Q (o :: rest) a w := by
  obtain ⟨ti, hi0, hz0, hz1, hz2⟩ := info_parts infoB
  rcases A with _ | ad
  · have hn0 : n = 0 := by
      rcases Nat.eq_zero_or_pos n with h0 | h0
      · exact h0
      · obtain ⟨b, off, e, _⟩ := hI.2.2 h0
        cases e
    subst hn0
    have hz : bs = [] := List.length_eq_zero_iff.1 hI.1
    subst hz
    have hr := run_append_nothing (P := Tryd.prog) w 22 22 o.type 5 ti Tryd.underlying22 hi0 (some ⟨g, 0, none⟩) 3 3 (Nat.le_refl _) (.slice none 0 ca) ⟨.inl ⟨5, Tryd.underlying22⟩, fun w' => by simp [Builtin.lenOf], by simp [Builtin.firstCells], by simp [Builtin.firstCells], by simp, by simp⟩
    refine Lib.wpList_append_run w hgd s x _ _ ho _ _ hs hx _ _ hr ?_
    exact h _ 3 w (bys_row (bs := [1, 8, 3]) (by exact hown) (by simpa using other_range (n := 0) (bs := []) rfl (fun j hj => by omega))) (Below.refl _ _)
  · have hl : (bs.map (Value.int .u8)).length = n * 1 := by rw [List.length_map, hI.1, Nat.mul_one]
    refine wpList_append_own w hgd s x 22 ho lo 5 ti _ 1 1 Tryd.underlying22 hi0 hz0 hz1 hz2 rfl (by decide) (.slice (some ⟨g, 0, none⟩) 3 3) 3 [.int .u8 1, .int .u8 8, .int .u8 3] hs hown ad n ca (bs.map (Value.int .u8)) hx hl (bys_news hI) (by simp [Value.oneCell']) (by unfold maxLen; omega) (by omega) hlo ?_
    intro v' w' h1 hg _
    have h2 : w'.ownsRow lo 5 1 v' (3 + n) (([1, 8, 3] ++ bs).map (Value.int .u8)) := by rw [List.map_append]; exact h1
    obtain ⟨g', cap, rfl, _⟩ := h1.form (by omega)
    exact h _ cap w' (bys_row h2 (other_range hI.1 hI.2.1)) ((Below.refl _ _).grown hg hlo (fun k hk => (hown.lt k hk).1))

set_option maxRecDepth 100000 in
set_option maxHeartbeats 4000000 in
theorem other_any (A : Option Addr) (n c : Nat) (bs : List Int) (w : World) (h : Bys w w.heap.size A n bs) (hn : n ≤ 1048576) :
    Calls Tryd.prog 12 #[.slice A n c, .int .u8 1] w (OtherR w n) := by
  have OW := Lib.hid (show (w.alloc (Obj.cells #[.int .u8 1, .int .u8 8, .int .u8 3] 5)).ownsRow w.heap.size 5 1 (.slice (some ⟨w.heap.size, 0, none⟩) 3 3) 3 [.int .u8 1, .int .u8 8, .int .u8 3] from
    ⟨rfl, .inr ⟨w.heap.size, 3, _, rfl, Nat.le_refl _, heap_alloc_new w _, Nat.le_refl _, by unfold maxLen; omega, rfl, rfl⟩⟩)
  have H := Lib.hid (h.into (al1 w (Obj.cells #[.int .u8 1, .int .u8 8, .int .u8 3] 5)))
  clear h
  go_enter Tryd.func12, Tryd.ntmps12
  go_wp2_with (at_builtin; refine wpList_append_code rfl _ _ rfl w.heap.size _ n c w.heap.size A bs rfl (by exact OW.out) rfl (by exact H.out) hn (by simp) ?_; intro A' c' w' h5 h6; have H5 := Lib.hid h5; have H6 := Lib.hid h6; clear h5 h6)
  go_ret
  exact ⟨A', c', _, rfl, H5.out, (al1 w _).trans H6.out⟩

set_option maxHeartbeats 2000000 in
theorem likeInts_any (A A' : Option Addr) (n c c' : Nat) (zs : List Int) (B B' : Nat) (w : World) (h : Ints w B A n zs) (h' : Ints w B' A' n zs) (hn : n ≤ 1048576) :
    Calls Tryd.prog 27 #[.slice A n c, .slice A' n c'] w fun e w' => e = .returned (.bool true) ∧ Below w.heap.size w w' := by
  have H := Lib.hid h
  have H' := Lib.hid h'
  clear h h'
  go_enter Tryd.func27, Tryd.ntmps27
  go_wp2
  go_loopw [5] (fun x wr => ∃ k m : Nat, k ≤ n ∧ x = .int .i64 k ∧ wr = w.drewN m) (fun x _ => n - (intOf x).toNat)
  case atStart => exact ⟨0, 0, Nat.zero_le _, rfl, rfl⟩
  case round =>
    obtain ⟨k, m, hk, rfl, rfl⟩ := hrel
    by_cases hlt : k < n
    · obtain ⟨b, off, x, rfl, hb, hx, hc⟩ := H.out.at_z hlt
      obtain ⟨b', off', y, rfl, hb', hy, hc'⟩ := H'.out.at_z hlt
      obtain rfl : x = y := hx.symm.trans hy
      have i0 : (0 : Int) ≤ (k : Int) := by omega
      have i1 : (k : Int) < (n : Int) := by omega
      clear hx hy
      go_wp2
      go_quiet (fail)
      all_goals
        go_wp2
        go_roundw
        case rel => exact ⟨k + 1, _, by omega, by go_num, rfl⟩
        case measure => simp [intOf]; omega
    · obtain rfl : n = k := by omega
      have i1 : ¬ (n : Int) < (n : Int) := by omega
      go_wp2
      go_ret
      exact ⟨rfl, Go.Joins.below_draws _ _ _⟩

/-- A text that was drawn, and the source behind it. -/
def DrawnT (w : World) (g : Nat) (A : Option Addr) (n c L : Nat) (e : Ending) (w' : World) : Prop :=
  ∃ l a x, l.length ≤ L ∧ e = .returned (.string ⟨(l : List UInt8).toArray⟩) ∧ Src w' g A n c a x ∧ Kept g (g + 1) w w'
abbrev svd (p : List UInt8) : Value := .string ⟨p.toArray⟩
theorem six_at (W w : World) (h : W.heap[w.heap.size]? = some (.cells #[.string ⟨#[32]⟩, .string ⟨#[48]⟩, .string ⟨#[120]⟩, .string ⟨#[45]⟩, .string ⟨#[55]⟩, .string ⟨#[58]⟩] 9 (0, 0))) (i : Nat) (hi : i < 6) : W.cell? ⟨w.heap.size, i, none⟩ = some (svd (([[32], [48], [120], [45], [55], [58]] : List (List UInt8)).getD i [])) := by
  rw [cell_of_row W _ i _ _ _ h]
  rcases (show i = 0 ∨ i = 1 ∨ i = 2 ∨ i = 3 ∨ i = 4 ∨ i = 5 by omega) with rfl | rfl | rfl | rfl | rfl | rfl <;> rfl
theorem six_len (i : Nat) (hi : i < 6) : (([[32], [48], [120], [45], [55], [58]] : List (List UInt8)).getD i []).length ≤ 1 := by
  rcases (show i = 0 ∨ i = 1 ∨ i = 2 ∨ i = 3 ∨ i = 4 ∨ i = 5 by omega) with rfl | rfl | rfl | rfl | rfl | rfl <;> simp
theorem seven_at (W w : World) (h : W.heap[w.heap.size]? = some (.cells #[.string ⟨#[49, 120, 49, 58, 32, 49, 48, 48, 48, 48, 48, 48, 48, 48, 48, 48, 48, 49]⟩, .string ⟨#[49, 120, 49, 58, 32, 48, 49]⟩, .string ⟨#[52, 57, 120, 48, 58]⟩, .string ⟨#[49, 120, 50, 58, 32, 51]⟩, .string ⟨#[49, 120, 49, 58, 32, 45, 48]⟩, .string ⟨#[120, 49, 58]⟩, .string ⟨#[49, 120, 49, 58, 32, 49, 48, 48, 48, 48, 48, 48, 48, 48, 48, 48, 48, 48, 48]⟩] 9 (0, 0))) (i : Nat) (hi : i < 7) : W.cell? ⟨w.heap.size, i, none⟩ = some (svd (([[49, 120, 49, 58, 32, 49, 48, 48, 48, 48, 48, 48, 48, 48, 48, 48, 48, 49], [49, 120, 49, 58, 32, 48, 49], [52, 57, 120, 48, 58], [49, 120, 50, 58, 32, 51], [49, 120, 49, 58, 32, 45, 48], [120, 49, 58], [49, 120, 49, 58, 32, 49, 48, 48, 48, 48, 48, 48, 48, 48, 48, 48, 48, 48, 48]] : List (List UInt8)).getD i [])) := by
  rw [cell_of_row W _ i _ _ _ h]
  rcases (show i = 0 ∨ i = 1 ∨ i = 2 ∨ i = 3 ∨ i = 4 ∨ i = 5 ∨ i = 6 by omega) with rfl | rfl | rfl | rfl | rfl | rfl | rfl <;> rfl
theorem seven_len (i : Nat) (hi : i < 7) : (([[49, 120, 49, 58, 32, 49, 48, 48, 48, 48, 48, 48, 48, 48, 48, 48, 48, 49], [49, 120, 49, 58, 32, 48, 49], [52, 57, 120, 48, 58], [49, 120, 50, 58, 32, 51], [49, 120, 49, 58, 32, 45, 48], [120, 49, 58], [49, 120, 49, 58, 32, 49, 48, 48, 48, 48, 48, 48, 48, 48, 48, 48, 48, 48, 48]] : List (List UInt8)).getD i []).length ≤ 30 := by
  rcases (show i = 0 ∨ i = 1 ∨ i = 2 ∨ i = 3 ∨ i = 4 ∨ i = 5 ∨ i = 6 by omega) with rfl | rfl | rfl | rfl | rfl | rfl | rfl <;> simp

theorem Src.drewMN {w : World} {g : Nat} {A : Option Addr} {n c : Nat} {a x : Int} (h : Src w g A n c a x) (k : Nat) : Src (w.drewN k) g A n c a x := ⟨⟨h.1.1, h.1.2.1, h.1.2.2⟩, h.2.1, h.2.2⟩
set_option maxRecDepth 100000 in
set_option maxHeartbeats 16000000 in
theorem damage_spec (g : Nat) (A : Option Addr) (n c : Nat) (bs : List Int) (a x : Int) (l : List UInt8) (L : Nat) (w : World) (h : Bys w g A n bs) (hn : n ≤ 1048576) (hs : Src w g A n c a x) (hl : l.length ≤ L) (hL : L ≤ 100000) :
    Calls Tryd.prog 30 #[.pointer (some ⟨g, 0, none⟩), .string ⟨l.toArray⟩] w (DrawnT w g A n c (L + 1)) := by
  have gl := hs.lt
  have BY := Lib.hid (fun (W : World) (hk : Kept g (g + 1) w W) => h.kept hk (Nat.le_refl _) (by omega))
  have S0 := Lib.hid hs
  clear h hs
  have ws1 : IntKind.i64.wrap ((l.length : Int) + 1) = (l.length : Int) + 1 := IntWalk.i64_in _ (by omega)
  go_enter Tryd.func30, Tryd.ntmps30
  go_wp2_with fail
  refine (next_spec g A n c bs ((l.length : Int) + 1) a x _ (BY.out _ (Kept.refl _ _ _)) hn S0.out (by omega) (by omega)).mono ?_
  rintro e w1 ⟨k, a1, x1, rfl, k0, k1, k2, hs1, hk1⟩
  have k3 : k ≤ (l.length : Int) := by
    by_cases h1 : 1 < (l.length : Int) + 1
    · have := k1 h1; omega
    · have := k2 (by omega); omega
  obtain ⟨k, rfl⟩ : ∃ j : Nat, k = j := ⟨k.toNat, by omega⟩
  have k4 : k ≤ l.length := by omega
  have S1 := Lib.hid hs1
  have K1 := Lib.hid hk1
  clear hs1 hk1 k1 k2 S0 ws1
  go_wp2_with fail
  refine (next_spec g A n c bs 8 a1 x1 _ (BY.out _ K1.out) hn S1.out (by omega) (by omega)).mono ?_
  rintro e w2 ⟨u, a2, x2, rfl, u0, u1, -, hs1, hk1⟩
  have S2 := Lib.hid hs1
  have K2 := Lib.hid (K1.out.trans hk1)
  clear hs1 hk1 u1 S1 K1
  have e1 := take_text l k
  have e2 := drop_text l k
  have e3 := drop_text l (k + 1)
  obtain ⟨lt, hlt⟩ : ∃ lt, l.take k = lt := ⟨_, rfl⟩
  obtain ⟨ld, hld⟩ : ∃ ld, l.drop k = ld := ⟨_, rfl⟩
  obtain ⟨le, hle⟩ : ∃ le, l.drop (k + 1) = le := ⟨_, rfl⟩
  have q1 : lt.length ≤ L := by rw [← hlt]; simp; omega
  have q2 : lt.length + ld.length ≤ L := by rw [← hlt, ← hld]; simp; omega
  have q3 : lt.length + le.length ≤ L := by rw [← hlt, ← hle]; simp; omega
  rw [hlt] at e1
  rw [hld] at e2
  rw [hle] at e3
  clear hlt hld hle
  rcases (show u = 0 ∨ u = 1 ∨ u = 2 ∨ 2 < u by omega) with rfl | rfl | rfl | hu
  · go_wp2
    go_ret
    exact ⟨lt, a2, x2, by omega, rfl, S2.out, K2.out⟩
  · have BT := Lib.hid (fun (W : World) => heap_alloc_new W (Obj.cells #[.string ⟨#[32]⟩, .string ⟨#[48]⟩, .string ⟨#[120]⟩, .string ⟨#[45]⟩, .string ⟨#[55]⟩, .string ⟨#[58]⟩] 9))
    have H8 := Lib.hid S2.out.drewM
    have H9 := Lib.hid (K2.out.drewN 1)
    have gl2 : g < w2.heap.size := by have := K2.out.size; omega
    have G8 := Lib.hid (S2.out.below (al1 w2 (Obj.cells #[.string ⟨#[32]⟩, .string ⟨#[48]⟩, .string ⟨#[120]⟩, .string ⟨#[45]⟩, .string ⟨#[55]⟩, .string ⟨#[58]⟩] 9)) gl2).drewM
    have G9 := Lib.hid ((K2.out.alloc (Obj.cells #[.string ⟨#[32]⟩, .string ⟨#[48]⟩, .string ⟨#[120]⟩, .string ⟨#[45]⟩, .string ⟨#[55]⟩, .string ⟨#[58]⟩] 9)).drewN 1)
    go_wp2_with fail
    go_region_with (go_at_call 29; refine (next_spec g A n c bs 6 a2 x2 _ (by first | exact BY.out _ H9.out | exact BY.out _ G9.out) hn (by first | exact H8.out | exact G8.out) (by omega) (by omega)).mono ?_; rintro e w8 ⟨v, a9, x9, rfl, v0, v1, -, hs9, hk9⟩; have v3 := v1 (by omega); obtain ⟨vn, rfl⟩ : ∃ vn : Nat, v = vn := ⟨v.toNat, by omega⟩; (first | (have KK := Lib.hid (H9.out.trans hk9); have hcell := six_at _ w8 (BT.out w8) vn (by omega)) | (have KK := Lib.hid (G9.out.trans hk9); have hcell := six_at w8 w2 ((hk9.block w2.heap.size (by simp) (by omega)).trans (BT.out w2)) vn (by omega))); have sl := six_len vn (by omega); obtain ⟨u5, hu5⟩ : ∃ u5, ([[32], [48], [120], [45], [55], [58]] : List (List UInt8)).getD vn [] = u5 := ⟨_, rfl⟩; rw [hu5] at hcell sl; have A1 := fun w => add_run w lt u5 (by omega) (by omega); have A2 := fun w => add_run w (lt ++ u5) ld (by simp; omega) (by omega); have S9 := Lib.hid hs9; have g8 : g < w8.heap.size := S9.out.lt; have ll : ¬ 9223372036854775807 < lt.length + u5.length := (by omega); have ll2 : ¬ 9223372036854775807 < lt.length + u5.length + ld.length := (by omega); clear hs9 hk9 v1 hu5)
    all_goals
      go_wp2
      go_ret
      first
        | exact ⟨_, _, _, (by simp; omega), rfl, S9.out, KK.out⟩
        | exact ⟨_, _, _, (by simp; omega), rfl, S9.out.below (al1 _ _) g8, KK.out.alloc _⟩
  · by_cases hk : k < l.length
    · have t1 : (k : Int) < (l.length : Int) := by omega
      have ws2 : IntKind.i64.wrap ((k : Int) + 1) = (k : Int) + 1 := IntWalk.i64_in _ (by omega)
      have ws3 : ((k : Int) + 1).toNat = k + 1 := by omega
      have A3 := fun w => add_run w lt le (by omega) (by omega)
      have ll : ¬ 9223372036854775807 < lt.length + le.length := by omega
      have t2 : (0 : Int) ≤ (k : Int) + 1 := by omega
      have t3 : (k : Int) + 1 ≤ (l.length : Int) := by omega
      go_wp2
      go_quiet (fail)
      all_goals
        go_wp2
        go_ret
        exact ⟨lt ++ le, a2, x2, by simp; omega, rfl, S2.out.drewMN _, K2.out.drewN _⟩
    · have t1 : ¬ (k : Int) < (l.length : Int) := by omega
      go_wp2
      go_ret
      exact ⟨l, a2, x2, by omega, rfl, S2.out, K2.out⟩
  · go_wp2
    go_ret
    exact ⟨l, a2, x2, by omega, rfl, S2.out, K2.out⟩
end Go.Proofs.YtboanggdehceaaaDoor
