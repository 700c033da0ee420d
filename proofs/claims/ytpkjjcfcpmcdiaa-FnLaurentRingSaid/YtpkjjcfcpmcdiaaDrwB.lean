/- The specification's draw of a polynomial. No condition but those that each theorem names. -/
import Derived.Test.YtpkjjcfcpmcdiaaDrwO
import Derived.Test.YtpkjjcfcpmcdiaaLauT
import Derived.Deep.RegionHeld3
import Derived.Deep.DeepCutAuto
namespace Go.Proofs.Ytpkjjcfcpmcdiaa
open Go.RowKit

/-- A polynomial that was drawn, its list in new memory, and the source behind it. -/
def DrawR (w : World) (g : Nat) (A : Option Addr) (n c : Nat) (e : Ending) (w' : World) : Prop :=
  ∃ r R t zs a x, e = .returned (.agg #[.int .i64 r, .slice R zs.length t]) ∧ Mine w' w.heap.size w'.heap.size R zs.length zs ∧ zs.length ≤ t ∧ t ≤ maxLen ∧ zs.length ≤ 1000 ∧ Src w' g A n c a x ∧ Kept g (g + 1) w w'
theorem Kept.of_below_g {g B : Nat} {w w' : World} (h : Below B w w') (hB : w.heap.size ≤ B) : Kept g (g + 1) w w' := Kept.of_below (h.mono hB) _ _
theorem Kept.size_le {lo hi : Nat} {w w' : World} (h : Kept lo hi w w') : w.heap.size ≤ w'.heap.size := h.size
/-- What the draw holds: the source, and all else of the caller's as it was; its result's box. -/
structure DSt (w : World) (g : Nat) (A : Option Addr) (n c : Nat) (W : World) : Prop where
  src : ∃ a x, Src W g A n c a x
  kept : Kept g (g + 1) w W
  box : BoxG W w.heap.size (.int .i64 0) (.slice none 0 0)
  free : Free W w.heap.size
  lt : w.heap.size < W.heap.size
theorem DSt.next {w : World} {g : Nat} {A : Option Addr} {n c : Nat} {W W' : World} {a x : Int} (h : DSt w g A n c W) (hg : g < w.heap.size) (hs : Src W' g A n c a x) (hk : Kept g (g + 1) W W') : DSt w g A n c W' :=
  ⟨⟨a, x, hs⟩, h.kept.trans hk, h.box.kept hk h.lt (by omega), h.free.kept hk h.lt (by omega), by have := hk.size; have := h.lt; omega⟩
theorem DSt.below {w : World} {g : Nat} {A : Option Addr} {n c : Nat} {W W' : World} {B : Nat} (h : DSt w g A n c W) (hg : g < w.heap.size) (hb : Below B W W') (hB : w.heap.size < B) : DSt w g A n c W' := by
  obtain ⟨⟨a, x, hs⟩, hk, hx, hf, hl⟩ := h
  refine ⟨⟨a, x, hs.below hb (by omega)⟩, ⟨hb.os.trans hk.os, hb.tape.trans hk.tape, hb.output.trans hk.output, Nat.le_trans hk.size hb.size, fun k h1 h2 => (hb.block k (by omega)).trans (hk.block k h1 h2)⟩, hx.below hb hB, hf.below hb hB, by have := hb.size; omega⟩

theorem alloc_first (W : World) (g : Nat) (v : Value) (t : TypeId) (h : W.heap.size = g) : (W.alloc (Obj.cells #[v] t)).cell? ⟨g, 0, none⟩ = some v := by
  subst h
  simp
theorem Kept.setNew {w W : World} {g : Nat} (h : Kept g (g + 1) w W) {p : Addr} (hp : w.heap.size ≤ p.block) (u : Value) : Kept g (g + 1) w (W.setCell p u) :=
  ⟨h.os, h.tape, h.output, by have := h.size; simp [World.setCell]; omega, fun k hk hn => (Below.heap_setCell W p u k (by omega)).trans (h.block k hk hn)⟩
theorem Src.far {w : World} {g : Nat} {A : Option Addr} {n c : Nat} {a x : Int} (h : Src w g A n c a x) {p : Addr} (hp : g ≠ p.block) (u : Value) : Src (w.setCell p u) g A n c a x := by
  obtain ⟨⟨b0, b1, b2⟩, hf, r⟩ := h
  exact ⟨⟨by rw [World.cell?_setCell_other w _ _ _ (fun e => hp (by rw [e]))]; exact b0, by rw [World.cell?_setCell_other w _ _ _ (fun e => hp (by rw [e]))]; exact b1, by rw [World.cell?_setCell_other w _ _ _ (fun e => hp (by rw [e]))]; exact b2⟩, hf.set_ _ _, r⟩
theorem DSt.set_ {w : World} {g : Nat} {A : Option Addr} {n c : Nat} {W : World} (h : DSt w g A n c W) (hg : g < w.heap.size) {p : Addr} (hp : w.heap.size < p.block) (u : Value) : DSt w g A n c (W.setCell p u) := by
  obtain ⟨⟨a, x, hs⟩, hk, hx, hf, hl⟩ := h
  exact ⟨⟨a, x, hs.far (by omega) u⟩, hk.setNew (by omega) u, ⟨by rw [World.cell?_setCell_other W _ _ _ (fun e => by rw [e] at hp; simp at hp)]; exact hx.1, by rw [World.cell?_setCell_other W _ _ _ (fun e => by rw [e] at hp; simp at hp)]; exact hx.2⟩, hf.set_ _ _, by simp [World.setCell]; exact hl⟩
theorem BoxG.set0 {W : World} {b : Nat} {x y u : Value} (h : BoxG W b x y) : BoxG (W.setCell ⟨b, 0, none⟩ u) b u y := ⟨by simp [h.1, go_sem], by simp [h.2, go_sem]⟩
theorem BoxG.set1 {W : World} {b : Nat} {x y u : Value} (h : BoxG W b x y) : BoxG (W.setCell ⟨b, 1, none⟩ u) b x u := ⟨by simp [h.1, go_sem], by simp [h.2, go_sem]⟩
theorem BoxG.far {W : World} {b : Nat} {x y : Value} (h : BoxG W b x y) {p : Addr} (hp : b ≠ p.block) (u : Value) : BoxG (W.setCell p u) b x y :=
  ⟨by rw [World.cell?_setCell_other W _ _ _ (fun e => hp (by rw [e]))]; exact h.1, by rw [World.cell?_setCell_other W _ _ _ (fun e => hp (by rw [e]))]; exact h.2⟩
theorem Kept.drew {lo hi : Nat} {a w : World} (h : Kept lo hi a w) : Kept lo hi a w.drew := ⟨h.os, h.tape, h.output, h.size, h.block⟩
theorem Src.drew {w : World} {g : Nat} {A : Option Addr} {n c : Nat} {a x : Int} (h : Src w g A n c a x) : Src w.drew g A n c a x := ⟨⟨h.1.1, h.1.2.1, h.1.2.2⟩, h.2.1, h.2.2⟩
theorem Src.drewN {w : World} {g : Nat} {A : Option Addr} {n c : Nat} {a x : Int} (h : Src w g A n c a x) (k : Nat) : Src (w.drewN k) g A n c a x := ⟨⟨h.1.1, h.1.2.1, h.1.2.2⟩, h.2.1, h.2.2⟩
theorem DSt.drewN {w : World} {g : Nat} {A : Option Addr} {n c : Nat} {W : World} (h : DSt w g A n c W) (k : Nat) : DSt w g A n c (W.drewN k) := ⟨h.src.imp fun _ h => h.imp fun _ h => h.drewN k, h.kept.drewN k, h.box, h.free, h.lt⟩
theorem DSt.drew {w : World} {g : Nat} {A : Option Addr} {n c : Nat} {W : World} (h : DSt w g A n c W) : DSt w g A n c W.drew := ⟨h.src.imp fun _ h => h.imp fun _ h => h.drew, h.kept.drew, h.box, h.free, h.lt⟩
/-- The end of a draw: the polynomial is stored in the result's box. -/
theorem draw_end {w : World} {g : Nat} {A : Option Addr} {n c : Nat} {W : World} {lo hi : Nat} {r : Int} {R : Option Addr} {t : Nat} {zs : List Int} (hS : DSt w g A n c W) (hg : g < w.heap.size) (hM : Mine W lo hi R zs.length zs) (hlo : w.heap.size < lo) (hhi : hi ≤ W.heap.size) (h1 : zs.length ≤ t) (h2 : t ≤ maxLen) (h3 : zs.length ≤ 1000) (u0 u1 : Value) :
    DrawR w g A n c (.returned (.agg #[.int .i64 r, .slice R zs.length t])) ((W.setCell ⟨w.heap.size, 0, none⟩ u0).setCell ⟨w.heap.size, 1, none⟩ u1) := by
  obtain ⟨⟨a, x, hs⟩, hk, _, _, hl⟩ := hS
  refine ⟨r, R, t, zs, a, x, rfl, ?_, h1, h2, h3, (hs.far (by dsimp only; omega) _).far (by dsimp only; omega) _, (hk.setNew (Nat.le_refl _) _).setNew (Nat.le_refl _) _⟩
  exact ((hM.far (p := ⟨w.heap.size, 0, none⟩) (.inl hlo) u0).far (p := ⟨w.heap.size, 1, none⟩) (.inl hlo) u1).wide (by omega) (by simp [World.setCell]; exact hhi)
/-- The box of a polynomial, its block known whole. -/
def LBox (w : World) (g : Nat) (x y : Value) : Prop := w.heap[g]? = some (.cells #[x, y] 26 (0, 0))
section
variable {w w' : World} {g lo hi n c : Nat} {x y : Value} {A : Option Addr} {zs : List Int}
theorem LBox.lt (h : LBox w g x y) : g < w.heap.size := by
  rcases Nat.lt_or_ge g w.heap.size with hlt | hge
  · exact hlt
  · unfold LBox at h; rw [Array.getElem?_eq_none hge] at h; cases h
theorem LBox.new (w : World) (x y : Value) : LBox (w.alloc (.cells #[x, y] 26)) w.heap.size x y := heap_alloc_new w _
theorem LBox.below {B : Nat} (h : LBox w g x y) (hb : Below B w w') (hg : g < B) : LBox w' g x y := (hb.block g hg).trans h
theorem LBox.kept (h : LBox w g x y) (hk : Kept lo hi w w') (hn : ¬ (lo ≤ g ∧ g < hi)) : LBox w' g x y := (hk.block g h.lt hn).trans h
theorem LBox.far (h : LBox w g x y) {p : Addr} (hp : g ≠ p.block) (u : Value) : LBox (w.setCell p u) g x y := (Below.heap_setCell w p u g hp).trans h
theorem LBox.box (h : LBox w g x y) : BoxG w g x y := ⟨by rw [cell_of_row w g 0 _ _ (0, 0) h]; rfl, by rw [cell_of_row w g 1 _ _ (0, 0) h]; rfl⟩
theorem LBox.free (h : LBox w g x y) : Free w g := fun o => frozen_of_row w g o _ _ h
theorem Own.ne_box (h : Own w lo hi A n c zs) (hx : LBox w g x y) : ∀ a, A = some a → a.block ≠ g := by
  intro a ha e
  rcases h.1.2 with ⟨hv, _⟩ | ⟨b, cap, cur, hv, _, hb, _⟩
  · injection hv with h1 h2 h3
    rw [h1] at ha
    cases ha
  · injection hv with h1 h2 h3
    rw [h1] at ha
    injection ha with ha
    subst ha
    dsimp only at e
    subst e
    unfold LBox at hx
    rw [hb] at hx
    injection hx with hx
    injection hx with _ h5 _
    exact absurd h5 (by decide)
theorem Mine.far_ne (h : Mine w lo hi A n zs) {p : Addr} (hne : ∀ a, A = some a → a.block ≠ p.block) (u : Value) : Mine (w.setCell p u) lo hi A n zs :=
  ⟨h.1, fun h0 => by
    obtain ⟨b, off, hA, h1, h2, hc⟩ := h.2 h0
    refine ⟨b, off, hA, h1, h2, fun j hj => ⟨?_, ?_⟩⟩
    · rw [World.cell?_setCell_other w _ _ _ (fun e => hne _ hA (by rw [e]))]; exact (hc j hj).1
    · rw [World.frozen?_setCell]; exact (hc j hj).2⟩
end
theorem FormO.one {w w' : World} {low : Int} {l : List Int} {a b : Nat} {e : Ending} (h : FormO w low l a b e w') (hab : a ≤ b) (hb : b ≤ l.length) : ∃ r zs, zs.length ≤ l.length ∧ ResO1 w r zs e w' := by
  by_cases e0 : a = b
  · exact ⟨_, _, by simp, h.1 e0⟩
  · exact ⟨_, _, by rw [Lau.cut_len hb]; omega, h.2 (by omega)⟩

set_option maxRecDepth 100000 in
set_option maxHeartbeats 16000000 in
theorem draw_spec (g : Nat) (A : Option Addr) (n c : Nat) (bs : List Int) (a x : Int) (w : World) (h : Bys w g A n bs) (hn : n ≤ 1048576) (hs : Src w g A n c a x) :
    Calls Try.prog 14 #[.pointer (some ⟨g, 0, none⟩)] w (DrawR w g A n c) := by
  have H := Lib.hid h
  have gl := hs.lt
  have S0 := Lib.hid (show DSt w g A n c (w.alloc (Obj.cells #[.int .i64 0, .slice none 0 0] 26)) from
    ⟨⟨a, x, hs.below (al1 w _) gl⟩, Kept.of_below (al1 w _) _ _, BoxG.new w _ _ _, Free.new w _ _, by simp⟩)
  have BY := Lib.hid (fun (W : World) (hk : Kept g (g + 1) w W) => h.kept hk (Nat.le_refl _) (by omega))
  clear h hs
  have S1 := Lib.hid (S0.out.below gl (al1 _ (Obj.cells #[] 2)) (by simp))
  have O1 := Lib.hid (ownEmpty (w.alloc (Obj.cells #[.int .i64 0, .slice none 0 0] 26)))
  simp only [World.size_alloc] at O1
  go_enter Try.func14, Try.ntmps14
  go_wp2_with fail
  obtain ⟨⟨a1, x1, hs1⟩, hk1, _, _, _⟩ := S1.out
  refine (next_spec g A n c bs 7 a1 x1 _ (BY.out _ hk1) hn hs1 (by omega) (by omega)).mono ?_
  rintro e w2 ⟨v2, a2, x2, rfl, v20, v21, -, hs2, hk2⟩
  have S2 := Lib.hid (S1.out.next gl hs2 hk2)
  have O2 := Lib.hid ((O1.out.kept hk2 (by simp) (.inr (by omega))).wide (Nat.le_refl _) (show w.heap.size + 1 + 1 ≤ w2.heap.size by have := hk2.size; simp at this; omega))
  clear hs1 hk1 hs2 hk2 S0 S1 O1
  have v22 := v21 (by omega)
  obtain ⟨j2, rfl⟩ : ∃ j2 : Nat, v2 = j2 := ⟨v2.toNat, by omega⟩
  clear v20 v21
  go_wp2_with fail
  go_loopw [4, 3] (fun x y W => ∃ (j : Nat) (R : Option Addr) (t : Nat) (l : List Int), x = .int .i64 j ∧ j ≤ j2 ∧ y = .slice R l.length t ∧ l.length + j ≤ 6 ∧ Own W (w.heap.size + 1) W.heap.size R l.length t l ∧ DSt w g A n c W) (fun x _ _ => (intOf x).toNat)
  case atStart => exact ⟨j2, _, _, [], rfl, Nat.le_refl _, rfl, by simp; omega, O2.out, S2.out⟩
  case round =>
    obtain ⟨j, R, t, l, rfl, hj, rfl, hl, hown, hst⟩ := hrel
    have O3 := Lib.hid hown
    have S3 := Lib.hid hst
    clear hown hst
    by_cases hlt : 0 < j
    · have t0 : (0 : Int) < (j : Int) := by omega
      have ws1 : IntKind.i64.wrap ((j : Int) - 1) = (j : Int) - 1 := IntWalk.i64_in _ (by omega)
      obtain ⟨⟨a1, x1, hs1⟩, hk1, _, _, _⟩ := S3.out
      go_wp2_with fail
      refine (next_spec g A n c bs 9 a1 x1 _ (BY.out _ hk1) hn hs1 (by omega) (by omega)).mono ?_
      rintro e w4 ⟨v, a4, x4, rfl, v0, v1, -, hs4, hk4⟩
      have v3 := v1 (by omega)
      have z4 : wr.heap.size ≤ w4.heap.size := hk4.size
      have S4 := Lib.hid (S3.out.next gl hs4 hk4)
      have O4 := Lib.hid ((O3.out.kept hk4 (Nat.le_refl _) (.inr (by omega))).wide (Nat.le_refl _) z4)
      have l4 := S3.out.lt
      clear hs1 hk1 hs4 hk4 v1
      have ws2 : IntKind.i64.wrap (v - 4) = v - 4 := IntWalk.i64_in _ (by omega)
      go_wp2_with (at_builtin; refine wpList_push_int rfl _ _ rfl (w.heap.size + 1) w4.heap.size t w4.heap.size R l (v - 4) rfl (O4.out.al (Nat.le_refl _) (al1 w4 _)) rfl (by exact alloc_first _ _ _ _ rfl) (by simp <;> omega) (by omega) ?_; intro A7 c7 w7 h5 h6; have O7 := Lib.hid h5; have S7 := Lib.hid ((S4.out.below gl (al1 w4 _) (by omega)).below gl (h6.below (B := w.heap.size + 1) (Nat.le_refl _) (by simp <;> omega)) (by omega)); clear h5 h6)
      go_roundw
      case rel => exact ⟨j - 1, A7, c7, l ++ [v - 4], by rw [show ((j - 1 : Nat) : Int) = (j : Int) - 1 by omega], by omega, by rw [List.length_append]; rfl, by simp; omega, by rw [List.length_append]; exact O7.out, S7.out⟩
      case measure => simp [intOf]; omega
    · have t0 : ¬ (0 : Int) < (j : Int) := by omega
      obtain ⟨a', b', hT⟩ := Lau.trim_exists l
      have hll : l.length ≤ 6 := by omega
      have cp := O3.out.caps
      clear hl hj
      obtain ⟨⟨a1, x1, hs1⟩, hk1, _, _, _⟩ := S3.out
      go_wp2_with fail
      refine (next_spec g A n c bs 13 a1 x1 _ (BY.out _ hk1) hn hs1 (by omega) (by omega)).mono ?_
      rintro e w4 ⟨v, a4, x4, rfl, v0, v1, -, hs4, hk4⟩
      have v3 := v1 (by omega)
      have z4 : wr.heap.size ≤ w4.heap.size := hk4.size
      have S4 := Lib.hid (S3.out.next gl hs4 hk4)
      have O4 := Lib.hid ((O3.out.kept hk4 (Nat.le_refl _) (.inr (by omega))).wide (Nat.le_refl _) z4)
      have l4 := S3.out.lt
      clear hs1 hk1 hs4 hk4 v1
      have ws2 : IntKind.i64.wrap (v - 6) = v - 6 := IntWalk.i64_in _ (by omega)
      have FO := Lib.hid ((form_specO (v - 6) R l.length t l a' b' w4 O4.out.ints cp.1 (by omega) cp.2 (by omega) (by omega) hT).mono fun _ _ h => h.one hT.ab hT.bn)
      clear hT
      go_wp2_with fail
      refine FO.out.mono ?_
      rintro e w6 ⟨rk, zs, hz, R6, t6, rfl, hown, hb⟩
      have cp6 := hown.caps
      have z6 : w4.heap.size ≤ w6.heap.size := hb.size
      have l6 : w.heap.size < w6.heap.size := by omega
      have hz6 : zs.length ≤ 6 := by omega
      have S6 := Lib.hid ((S4.out.below gl hb (by omega)).below gl (al1 w6 (Obj.cells #[.int .i64 rk, .slice R6 zs.length t6] 26)) l6)
      have O6 := Lib.hid ((hown.wide (show w.heap.size + 1 ≤ w4.heap.size by omega) (Nat.le_refl _)).al (Nat.le_refl _) (al1 w6 (Obj.cells #[.int .i64 rk, .slice R6 zs.length t6] 26)))
      have P6 := Lib.hid (LBox.new w6 (.int .i64 rk) (.slice R6 zs.length t6))
      obtain ⟨pb, hpb⟩ : ∃ pb, w6.heap.size = pb := ⟨_, rfl⟩
      rw [hpb] at O6 P6 l6
      clear hown hb O4 S4 O3 S3 hll cp FO hz
      obtain ⟨⟨a1, x1, hs1⟩, hk1, _, _, _⟩ := S6.out
      go_wp2_with fail
      (try rw [hpb])
      refine (next_spec g A n c bs 24 a1 x1 _ (BY.out _ hk1) hn hs1 (by omega) (by omega)).mono ?_
      rintro e w8 ⟨u, a8, x8, rfl, u0, u1, -, hs8, hk8⟩
      have z8 : pb < w8.heap.size := by have := hk8.size; simp at this; omega
      have S8 := Lib.hid (S6.out.next gl hs8 hk8)
      have O8 := Lib.hid (O6.out.kept hk8 (by simp; omega) (.inr (by omega)))
      have P8 := Lib.hid (P6.out.kept hk8 (by omega))
      clear hs1 hk1 hs8 hk8 u1 S6 O6 P6
      have nb : ¬ pb = w.heap.size := by omega
      have nb' : ¬ w.heap.size = pb := by omega
      rcases (show u = 0 ∨ u = 1 ∨ u = 2 ∨ u = 3 ∨ 3 < u by omega) with rfl | rfl | rfl | rfl | hu
      · obtain ⟨p0, p1⟩ := P8.out.box
        go_wp2_with (at_builtin; refine wpList_push_int rfl _ _ rfl (w.heap.size + 1) pb t6 w8.heap.size R6 zs 0 rfl (O8.out.al (by omega) (al1 w8 _)) rfl (by exact alloc_first _ _ _ _ rfl) (by simp <;> omega) (by omega) ?_; intro A9 c9 w9 h5 h6; have O9 := Lib.hid h5; have P9 := Lib.hid ((P8.out.below (al1 w8 _) z8).kept h6 (by omega)); have S9 := Lib.hid ((S8.out.below gl (al1 w8 _) (by omega)).below gl (h6.below (B := w.heap.size + 1) (Nat.le_refl _) (by simp <;> omega)) (by omega)); have z9 : w8.heap.size < w9.heap.size := (by have := h6.size; simp at this; omega); clear h5 h6; obtain ⟨q0, q1⟩ := P9.out.box; have f9 := P9.out.free; unfold Free at f9; obtain ⟨_, _, ⟨k0, k1⟩, fr9, _⟩ := S9.out; unfold Free at fr9)
        have cp9 := O9.out.caps
        have M9 := Lib.hid (O9.out.mine.far_ne (p := ⟨pb, 1, none⟩) (O9.out.ne_box P9.out) (.slice A9 (zs.length + 1) c9))
        refine bodyPost_ret (v := .agg #[.int .i64 rk, .slice A9 (zs.length + 1) c9]) (by simp [results, Try.results14, k0, k1, go_sem]) rfl ?_
        have e1 : (zs ++ [0]).length = zs.length + 1 := by simp
        have E := draw_end (S9.out.set_ gl (p := ⟨pb, 1, none⟩) (by dsimp only; omega) (.slice A9 (zs.length + 1) c9)) gl (r := rk) (t := c9) (by rw [e1]; exact M9.out) (by omega) (by simp [World.setCell]) (by rw [e1]; exact cp9.1) cp9.2 (by rw [e1]; omega) (.int .i64 rk) (.slice A9 (zs.length + 1) c9)
        rw [e1] at E
        exact E
      · have BL := Lib.hid (show Blk (w8.alloc (Obj.cells #[.int .i64 240, .int .i64 241, .int .i64 (-240), .int .i64 (-241), .int .i64 238] 2)) w8.heap.size [240, 241, -240, -241, 238] from Blk.new w8 [240, 241, -240, -241, 238])
        have Sa := Lib.hid (S8.out.below gl (al1 w8 (Obj.cells #[.int .i64 240, .int .i64 241, .int .i64 (-240), .int .i64 (-241), .int .i64 238] 2)) (by omega))
        have Pa := Lib.hid (P8.out.below (al1 w8 (Obj.cells #[.int .i64 240, .int .i64 241, .int .i64 (-240), .int .i64 (-241), .int .i64 238] 2)) z8)
        have Oa := Lib.hid (O8.out.al (by omega) (al1 w8 (Obj.cells #[.int .i64 240, .int .i64 241, .int .i64 (-240), .int .i64 (-241), .int .i64 238] 2)))
        obtain ⟨⟨a1, x1, hs1⟩, hk1, _, _, _⟩ := Sa.out
        go_wp2_with fail
        refine (next_spec g A n c bs 5 a1 x1 _ (BY.out _ hk1) hn hs1 (by omega) (by omega)).mono ?_
        rintro e w9 ⟨v, a9, x9, rfl, v0, v1, -, hs9, hk9⟩
        have v3 := v1 (by omega)
        have z9 : w8.heap.size < w9.heap.size := by have := hk9.size; simp at this; omega
        have S9 := Lib.hid (Sa.out.next gl hs9 hk9)
        have O9 := Lib.hid (Oa.out.kept hk9 (by simp; omega) (.inr (by omega)))
        have P9 := Lib.hid (Pa.out.kept hk9 (by omega))
        have B9 : Blk w9 w8.heap.size [240, 241, -240, -241, 238] := (hk9.block _ BL.out.lt (by omega)).trans BL.out
        obtain ⟨vn, rfl⟩ : ∃ vn : Nat, v = vn := ⟨v.toNat, by omega⟩
        have hcell := B9.cell (i := vn) (by simp; omega)
        obtain ⟨u5, hu5⟩ : ∃ u5, ([240, 241, -240, -241, 238] : List Int).getD vn 0 = u5 := ⟨_, rfl⟩
        rw [hu5] at hcell
        clear hs1 hk1 hs9 hk9 v1 hu5 B9 BL Sa Oa Pa
        obtain ⟨q0, q1⟩ := P9.out.box
        have f9 := P9.out.free
        unfold Free at f9
        obtain ⟨_, _, ⟨k0, k1⟩, fr9, _⟩ := S9.out
        unfold Free at fr9
        go_wp2
        refine bodyPost_ret (v := .agg #[.int .i64 u5, .slice R6 zs.length t6]) (by simp [results, Try.results14, k0, k1, go_sem]) rfl ?_
        exact draw_end (S9.out.set_ gl (p := ⟨pb, 0, none⟩) (by dsimp only; omega) _) gl (O9.out.mine.far (p := ⟨pb, 0, none⟩) (.inr (Nat.le_refl _)) _) (by omega) (by simp [World.setCell]; omega) cp6.1 cp6.2 (by omega) _ _
      · by_cases hpos : 0 < zs.length
        case neg =>
          have p2 : ¬ (0 : Int) < (zs.length : Int) := by omega
          obtain ⟨p0, p1⟩ := P8.out.box
          obtain ⟨_, _, ⟨k0, k1⟩, hfr, _⟩ := S8.out
          have f0 := hfr
          unfold Free at f0
          clear hfr
          go_wp2
          refine bodyPost_ret (v := .agg #[.int .i64 rk, .slice R6 zs.length t6]) (by simp [results, Try.results14, k0, k1, go_sem]) rfl ?_
          exact draw_end S8.out gl O8.out.mine (by omega) (by omega) cp6.1 cp6.2 (by omega) _ _
        have p2 : (0 : Int) < (zs.length : Int) := by omega
        obtain ⟨g6, z6', rfl, g6a, g6b, e6, c6, f6⟩ := O8.out.at_ hpos
        have E6 := Lib.hid e6
        clear e6
        obtain ⟨p0, p1⟩ := P8.out.box
        have gz : ¬ g6 = w8.heap.size := by omega
        have BL := Lib.hid (show Blk (w8.alloc (Obj.cells #[.int .i64 1000000000000, .int .i64 1000000000001, .int .i64 (-1000000000000), .int .i64 0, .int .i64 (-9223372036854775808)] 2)) w8.heap.size [1000000000000, 1000000000001, -1000000000000, 0, -9223372036854775808] from Blk.new w8 [1000000000000, 1000000000001, -1000000000000, 0, -9223372036854775808])
        have Sa := Lib.hid (S8.out.below gl (al1 w8 (Obj.cells #[.int .i64 1000000000000, .int .i64 1000000000001, .int .i64 (-1000000000000), .int .i64 0, .int .i64 (-9223372036854775808)] 2)) (by omega))
        have Pa := Lib.hid (P8.out.below (al1 w8 (Obj.cells #[.int .i64 1000000000000, .int .i64 1000000000001, .int .i64 (-1000000000000), .int .i64 0, .int .i64 (-9223372036854775808)] 2)) z8)
        have Oa := Lib.hid (O8.out.al (by omega) (al1 w8 (Obj.cells #[.int .i64 1000000000000, .int .i64 1000000000001, .int .i64 (-1000000000000), .int .i64 0, .int .i64 (-9223372036854775808)] 2)))
        obtain ⟨⟨a1, x1, hs1⟩, hk1, _, _, _⟩ := Sa.out
        have HS1 := Lib.hid hs1
        have HK1 := Lib.hid hk1
        clear hs1 hk1
        obtain ⟨⟨a2, x2, hs2⟩, hk2, _, _, _⟩ := S8.out
        have HS2 := Lib.hid hs2
        have HK2 := Lib.hid hk2
        clear hs2 hk2
        go_wp2_with fail
        go_region_with (go_at_call 22; first
          | ((with_reducible refine (next_spec g A n c bs 5 a1 x1 _ (by first | exact BY.out _ HK1.out.drew | exact BY.out _ (HK1.out.drewN _) | exact BY.out _ HK1.out) hn (by first | exact HS1.out.drew | exact HS1.out.drewN _ | exact HS1.out) (by omega) (by omega)).mono ?_); rintro e w9 ⟨v, a9, x9, rfl, v0, v1, -, hs9, hk9⟩; have z9 : w8.heap.size < w9.heap.size := (by have := hk9.size; simp at this; omega); have hS9 := (by first | exact DSt.next Sa.out.drew gl hs9 hk9 | exact DSt.next (Sa.out.drewN _) gl hs9 hk9 | exact DSt.next Sa.out gl hs9 hk9 : DSt w g A n c w9); have hO9 := (Own.kept (by exact Oa.out) hk9 (by simp; omega) (.inr (by omega)) : Own w9 (w.heap.size + 1) pb _ zs.length t6 zs); have hP9 := (LBox.kept (by exact Pa.out) hk9 (by omega) : LBox w9 pb _ _); have B9 : Blk w9 w8.heap.size [1000000000000, 1000000000001, -1000000000000, 0, -9223372036854775808] := ((hk9.block _ BL.out.lt (by omega)).trans BL.out); obtain ⟨vn, rfl⟩ : ∃ vn : Nat, v = vn := ⟨v.toNat, by omega⟩; have v3 : (vn : Int) < 5 := v1 (by omega); have S9 := Lib.hid hS9; have O9 := Lib.hid hO9; have P9 := Lib.hid hP9; obtain ⟨q0, q1⟩ := P9.out.box; obtain ⟨gg9, zz9, eg, _, _, _, c9, f9⟩ := O9.out.at_ hpos; cases eg; have n1 : ¬ pb = g6 := (by omega); have n2 : ¬ g6 = pb := (by omega); have n3 : ¬ pb = w9.heap.size := (by omega); have n4 : ¬ g6 = w9.heap.size := (by omega); have n5 : ¬ w.heap.size = g6 := (by omega); have n6 : ¬ w.heap.size = w9.heap.size := (by omega); have fr := S9.out.free; unfold Free at fr; obtain ⟨k0, k1⟩ := S9.out.box; have fp := P9.out.free; unfold Free at fp; have hcell := B9.cell (i := vn) (by simp; omega); obtain ⟨u5, hu5⟩ : ∃ u5, ([1000000000000, 1000000000001, -1000000000000, 0, -9223372036854775808] : List Int).getD vn 0 = u5 := ⟨_, rfl⟩; rw [hu5] at hcell; clear hs9 hk9 v1 hu5 B9)
          | ((with_reducible refine (next_spec g A n c bs 5 a2 x2 _ (by first | exact BY.out _ HK2.out.drew | exact BY.out _ (HK2.out.drewN _) | exact BY.out _ HK2.out) hn (by first | exact HS2.out.drew | exact HS2.out.drewN _ | exact HS2.out) (by omega) (by omega)).mono ?_); rintro e w9 ⟨v, a9, x9, rfl, v0, v1, -, hs9, hk9⟩; have z9 : w8.heap.size ≤ w9.heap.size := (by have := hk9.size; simp at this; omega); have hS9 := (by first | exact DSt.next S8.out.drew gl hs9 hk9 | exact DSt.next (S8.out.drewN _) gl hs9 hk9 | exact DSt.next S8.out gl hs9 hk9 : DSt w g A n c w9); have hO9 := (Own.kept (by exact O8.out) hk9 (by simp; omega) (.inr (by omega)) : Own w9 (w.heap.size + 1) pb _ zs.length t6 zs); have hP9 := (LBox.kept (by exact P8.out) hk9 (by omega) : LBox w9 pb _ _); obtain ⟨vn, rfl⟩ : ∃ vn : Nat, v = vn := ⟨v.toNat, by omega⟩; have v3 : (vn : Int) < 5 := v1 (by omega); have S9 := Lib.hid hS9; have O9 := Lib.hid hO9; have P9 := Lib.hid hP9; obtain ⟨q0, q1⟩ := P9.out.box; obtain ⟨gg9, zz9, eg, _, _, _, c9, f9⟩ := O9.out.at_ hpos; cases eg; have n1 : ¬ pb = g6 := (by omega); have n2 : ¬ g6 = pb := (by omega); have n3 : ¬ pb = w9.heap.size := (by omega); have n4 : ¬ g6 = w9.heap.size := (by omega); have n5 : ¬ w.heap.size = g6 := (by omega); have n6 : ¬ w.heap.size = w9.heap.size := (by omega); have fr := S9.out.free; unfold Free at fr; obtain ⟨k0, k1⟩ := S9.out.box; have fp := P9.out.free; unfold Free at fp; obtain ⟨u5, hu5⟩ : ∃ u5, ([1000000000000, 1000000000001, -1000000000000, 0, -9223372036854775808] : List Int).getD vn 0 = u5 := ⟨_, rfl⟩; have FC := (show (w9.alloc (Obj.cells #[.int .i64 1000000000000, .int .i64 1000000000001, .int .i64 (-1000000000000), .int .i64 0, .int .i64 (-9223372036854775808)] 2)).cell? ⟨w9.heap.size, vn, none⟩ = some (.int .i64 u5) from (by rw [← hu5]; exact (Blk.new w9 [1000000000000, 1000000000001, -1000000000000, 0, -9223372036854775808]).cell (i := vn) (by simp; omega))); obtain ⟨gx9, zx9, ex, _, _, _, cx9, fx9⟩ := (O9.out.al (by omega) (al1 w9 (Obj.cells #[.int .i64 1000000000000, .int .i64 1000000000001, .int .i64 (-1000000000000), .int .i64 0, .int .i64 (-9223372036854775808)] 2))).at_ hpos; cases ex; obtain ⟨qx0, qx1⟩ := (P9.out.below (al1 w9 (Obj.cells #[.int .i64 1000000000000, .int .i64 1000000000001, .int .i64 (-1000000000000), .int .i64 0, .int .i64 (-9223372036854775808)] 2)) (by omega)).box; have fpx := (P9.out.below (al1 w9 (Obj.cells #[.int .i64 1000000000000, .int .i64 1000000000001, .int .i64 (-1000000000000), .int .i64 0, .int .i64 (-9223372036854775808)] 2)) (by omega)).free; unfold Free at fpx; have Sx := S9.out.below gl (al1 w9 (Obj.cells #[.int .i64 1000000000000, .int .i64 1000000000001, .int .i64 (-1000000000000), .int .i64 0, .int .i64 (-9223372036854775808)] 2)) (by omega); have frx := Sx.free; unfold Free at frx; obtain ⟨kx0, kx1⟩ := Sx.box; clear Sx hs9 hk9 v1 hu5))
        all_goals
          have el : (zs.set 0 u5).length = zs.length := List.length_set
          go_wp2
          refine bodyPost_ret (v := .agg #[.int .i64 rk, .slice (some ⟨g6, 0, none⟩) zs.length t6]) (by first | (simp [results, Try.results14, k0, k1, go_sem]; done) | (simp [results, Try.results14, kx0, kx1, go_sem]; done)) rfl ?_
          first
            | exact (show DrawR w g A n c (.returned (.agg #[.int .i64 rk, .slice (some ⟨g6, 0, none⟩) zs.length t6])) (((w9.setCell ⟨g6, 0, none⟩ (.int .i64 u5)).setCell ⟨w.heap.size, 0, none⟩ (.int .i64 rk)).setCell ⟨w.heap.size, 1, none⟩ (.slice (some ⟨g6, 0, none⟩) zs.length t6)) from (by
                have E := draw_end (zs := zs.set 0 u5) (S9.out.set_ gl (p := ⟨g6, 0, none⟩) (by dsimp only; omega) (.int .i64 u5)) gl (r := rk) (t := t6) (by rw [el]; exact (O9.out.set_ 0 u5).mine) (by omega) (by simp [World.setCell]; omega) (by rw [el]; exact cp6.1) cp6.2 (by rw [el]; omega) (.int .i64 rk) (.slice (some ⟨g6, 0, none⟩) zs.length t6)
                rw [el] at E
                exact E))
            | exact (show DrawR w g A n c (.returned (.agg #[.int .i64 rk, .slice (some ⟨g6, 0, none⟩) zs.length t6])) ((((w9.alloc (Obj.cells #[.int .i64 1000000000000, .int .i64 1000000000001, .int .i64 (-1000000000000), .int .i64 0, .int .i64 (-9223372036854775808)] 2)).setCell ⟨g6, 0, none⟩ (.int .i64 u5)).setCell ⟨w.heap.size, 0, none⟩ (.int .i64 rk)).setCell ⟨w.heap.size, 1, none⟩ (.slice (some ⟨g6, 0, none⟩) zs.length t6)) from (by
                have E := draw_end (zs := zs.set 0 u5) ((S9.out.below gl (al1 w9 (Obj.cells #[.int .i64 1000000000000, .int .i64 1000000000001, .int .i64 (-1000000000000), .int .i64 0, .int .i64 (-9223372036854775808)] 2)) (by omega)).set_ gl (p := ⟨g6, 0, none⟩) (by dsimp only; omega) (.int .i64 u5)) gl (r := rk) (t := t6) (by rw [el]; exact ((O9.out.al (by omega) (al1 w9 (Obj.cells #[.int .i64 1000000000000, .int .i64 1000000000001, .int .i64 (-1000000000000), .int .i64 0, .int .i64 (-9223372036854775808)] 2))).set_ 0 u5).mine) (by omega) (by simp [World.setCell]; omega) (by rw [el]; exact cp6.1) cp6.2 (by rw [el]; omega) (.int .i64 rk) (.slice (some ⟨g6, 0, none⟩) zs.length t6)
                rw [el] at E
                exact E))
      · obtain ⟨⟨a1, x1, hs1⟩, hk1, _, _, _⟩ := S8.out
        go_wp2_with fail
        refine (next_spec g A n c bs 3 a1 x1 _ (BY.out _ hk1) hn hs1 (by omega) (by omega)).mono ?_
        rintro e w9 ⟨v, a9, x9, rfl, v0, v1, -, hs9, hk9⟩
        have v3 := v1 (by omega)
        have z9 : w8.heap.size ≤ w9.heap.size := hk9.size
        have S9 := Lib.hid (S8.out.next gl hs9 hk9)
        have P9 := Lib.hid (P8.out.kept hk9 (by omega))
        obtain ⟨N, hN⟩ : ∃ N : Nat, 159 + v = N := ⟨(159 + v).toNat, by omega⟩
        have ws9 : IntKind.i64.wrap (159 + v) = (N : Int) := by rw [hN]; exact IntWalk.i64_in _ (by omega)
        have hN1 : 159 ≤ N ∧ N ≤ 161 := by omega
        have MK := run_make_ints N (by omega) w9
        have Sa := Lib.hid (S9.out.below gl (al1 w9 (Obj.cells (Array.replicate N (Value.int .i64 0)) 2)) (by omega))
        have Pa := Lib.hid (P9.out.below (al1 w9 (Obj.cells (Array.replicate N (Value.int .i64 0)) 2)) (by omega))
        have Ba := Lib.hid (Blk.zeros w9 N)
        clear hs1 hk1 hs9 hk9 v1
        obtain ⟨q0, q1⟩ := Pa.out.box
        have f9 := Pa.out.free
        unfold Free at f9
        obtain ⟨_, _, ⟨k0, k1⟩, fr9, _⟩ := Sa.out
        unfold Free at fr9
        have c0 := Ba.out.cell (i := 0) (by simp; omega)
        have c1 := Ba.out.cell (i := N - 1) (by simp; omega)
        have fb := Ba.out.frozen
        go_wp2
        refine bodyPost_ret (v := .agg #[.int .i64 rk, .slice (some ⟨w9.heap.size, 0, none⟩) N N]) (by simp [results, Try.results14, k0, k1, go_sem]) rfl ?_
        have Bz := ((Ba.out.far (p := ⟨pb, 1, none⟩) (by dsimp only; omega) (.slice (some ⟨w9.heap.size, 0, none⟩) N N)).set_ 0 1).set_ (N - 1) 1
        obtain ⟨zz, hzz⟩ : ∃ zz, ((List.replicate N (0 : Int)).set 0 1).set (N - 1) 1 = zz := ⟨_, rfl⟩
        have hzl : zz.length = N := by rw [← hzz]; simp
        rw [hzz] at Bz
        have E := draw_end (zs := zz) (((Sa.out.set_ gl (p := ⟨pb, 1, none⟩) (by dsimp only; omega) (.slice (some ⟨w9.heap.size, 0, none⟩) N N)).set_ gl (p := ⟨w9.heap.size, 0, none⟩) (by dsimp only; omega) (.int .i64 1)).set_ gl (p := ⟨w9.heap.size, N - 1, none⟩) (by dsimp only; omega) (.int .i64 1)) gl (r := rk) (t := N) (Mine.of_blk (lo := w.heap.size + 1) (hi := w9.heap.size + 1) Bz (by omega) (by omega) rfl) (by omega) (by simp [World.setCell]) (by omega) (by unfold maxLen; omega) (by omega) (.int .i64 rk) (.slice (some ⟨w9.heap.size, 0, none⟩) N N)
        rw [hzl] at E
        exact E
      · have e0 : (u == 0) = false := by simp; omega
        have e1 : (u == 1) = false := by simp; omega
        have e2 : (u == 2) = false := by simp; omega
        have e3 : (u == 3) = false := by simp; omega
        obtain ⟨p0, p1⟩ := P8.out.box
        obtain ⟨_, _, ⟨k0, k1⟩, hfr, _⟩ := S8.out
        have f0 := hfr
        unfold Free at f0
        clear hfr
        go_wp2
        refine bodyPost_ret (v := .agg #[.int .i64 rk, .slice R6 zs.length t6]) (by simp [results, Try.results14, k0, k1, go_sem]) rfl ?_
        exact draw_end S8.out gl O8.out.mine (by omega) (by omega) cp6.1 cp6.2 (by omega) _ _
end Go.Proofs.Ytpkjjcfcpmcdiaa
