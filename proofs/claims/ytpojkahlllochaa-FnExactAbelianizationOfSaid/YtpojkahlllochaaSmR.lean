/- What a reduction begins with, the program's. No condition but those that each theorem names. -/
import Derived.Test.YtpojkahlllochaaSmQ
namespace Go.Proofs.Ytpojkahlllochaa
open Go.RowKit

theorem Row.far {w : World} {g : Nat} {cs : Array Value} {t : TypeId} (h : Row w g cs t) {p : Addr} (hp : g ≠ p.block) (u : Value) : Row (w.setCell p u) g cs t := (Below.heap_setCell w p u g hp).trans h
theorem Row.set_ {w : World} {g i : Nat} {cs : Array Value} {t : TypeId} (h : Row w g cs t) (u : Value) : Row (w.setCell ⟨g, i, none⟩ u) g (cs.setIfInBounds i u) t := heap_setCell_same w g i cs t u h
theorem Row.alloc {w : World} {g : Nat} {cs : Array Value} {t : TypeId} (h : Row w g cs t) (o : Obj) : Row (w.alloc o) g cs t := (Below.heap_alloc w o g h.lt).trans h
theorem Row.free {w : World} {g : Nat} {cs : Array Value} {t : TypeId} (h : Row w g cs t) : Free w g := fun o => frozen_of_row w g o cs t h
theorem Box3.far {w : World} {g : Nat} {x y z : Value} (h : Box3 w g x y z) {p : Addr} (hp : g ≠ p.block) (u : Value) : Box3 (w.setCell p u) g x y z :=
  ⟨(World.cell?_setCell_other w p ⟨g, 0, none⟩ u (fun e => hp (by rw [e]))).trans h.1, (World.cell?_setCell_other w p ⟨g, 1, none⟩ u (fun e => hp (by rw [e]))).trans h.2.1, (World.cell?_setCell_other w p ⟨g, 2, none⟩ u (fun e => hp (by rw [e]))).trans h.2.2⟩
theorem size_setCell (w : World) (p : Addr) (u : Value) : (w.setCell p u).heap.size = w.heap.size := by simp [World.setCell]
theorem Own.setCells {w : World} {lo hi : Nat} {A : Option Addr} {n c : Nat} {zs : List Int} (h : Own w lo hi A n c zs) {g : Nat} (hg : g < lo ∨ hi ≤ g) : ∀ (vs : List Value) (o : Nat), Own (w.setCells g o vs) lo hi A n c zs := by
  intro vs
  induction vs generalizing w with
  | nil => intro o; exact h
  | cons v r ih => intro o; exact ih (h.far (p := ⟨g, o, none⟩) hg v) (o + 1)
theorem size_setCells (g : Nat) : ∀ (vs : List Value) (o : Nat) (w : World), (w.setCells g o vs).heap.size = w.heap.size
  | [], _, _ => rfl
  | v :: r, o, w => by rw [World.setCells, size_setCells g r (o + 1), size_setCell]

/-- What a reduction of a matrix with R rows and C columns and the entries zs begins with. -/
def Begun (w : World) (R C : Nat) (zs : List Int) (e : Ending) (w' : World) : Prop :=
  ∃ (gd b1 b2 b3 b4 : Nat) (Al Ali Ar Ari : Option Addr) (cl cli cr cri : Nat),
    e = .returned (.agg #[.int .i64 R, .int .i64 R, .slice Al (R * R) cl, .int .i64 R, .int .i64 R, .slice Ali (R * R) cli, .int .i64 R, .int .i64 C, .slice (some ⟨gd, 0, none⟩) (R * C) (R * C), .int .i64 C, .int .i64 C, .slice Ar (C * C) cr, .int .i64 C, .int .i64 C, .slice Ari (C * C) cri]) ∧ w.heap.size ≤ b1 ∧ b1 ≤ b2 ∧ b2 ≤ b3 ∧ b3 ≤ b4 ∧ b4 ≤ w'.heap.size ∧
    Own w' w.heap.size b1 (some ⟨gd, 0, none⟩) (R * C) (R * C) zs ∧ Own w' b1 b2 Al (R * R) cl (ones R R) ∧ Own w' b2 b3 Ali (R * R) cli (ones R R) ∧ Own w' b3 b4 Ar (C * C) cr (ones C C) ∧ Own w' b4 w'.heap.size Ari (C * C) cri (ones C C) ∧ Below w.heap.size w w'

set_option maxRecDepth 100000 in
set_option maxHeartbeats 16000000 in
theorem unreduced_impl (R C : Nat) (A : Option Addr) (n c : Nat) (zs : List Int) (w : World) (h : Ints w w.heap.size A n zs) (hn : n = R * C) (hR : R ≤ 48) (hC : C ≤ 48) :
    Calls Try.prog 114 #[.agg #[.int .i64 R, .int .i64 C, .slice A n c]] w (Begun w R C zs) := by
  have p1 := rc_le hR hC
  have p2 := sq_le hR
  have p3 := sq_le hC
  have K0 := Lib.hid ((Box3.new w 77 (.int .i64 R) (.int .i64 C) (.slice A n c)).below (al1 _ (Obj.cells #[.int .i64 0, .int .i64 0, .slice none 0 0, .int .i64 0, .int .i64 0, .slice none 0 0, .int .i64 0, .int .i64 0, .slice none 0 0, .int .i64 0, .int .i64 0, .slice none 0 0, .int .i64 0, .int .i64 0, .slice none 0 0] 120)) (by simp))
  have T0 := Lib.hid (Row.new (w.alloc (Obj.cells #[.int .i64 R, .int .i64 C, .slice A n c] 77)) #[.int .i64 0, .int .i64 0, .slice none 0 0, .int .i64 0, .int .i64 0, .slice none 0 0, .int .i64 0, .int .i64 0, .slice none 0 0, .int .i64 0, .int .i64 0, .slice none 0 0, .int .i64 0, .int .i64 0, .slice none 0 0] 120)
  simp only [World.size_alloc] at T0
  have H := Lib.hid h
  have HN := Lib.hid hn
  clear h hn
  go_enter Try.func114, Try.ntmps114
  go_wp2_with fail
  refine (clone2_impl R C A n c zs _ (H.out.into (al2 _ (Obj.cells #[.int .i64 R, .int .i64 C, .slice A n c] 77) (Obj.cells #[.int .i64 0, .int .i64 0, .slice none 0 0, .int .i64 0, .int .i64 0, .slice none 0 0, .int .i64 0, .int .i64 0, .slice none 0 0, .int .i64 0, .int .i64 0, .slice none 0 0, .int .i64 0, .int .i64 0, .slice none 0 0] 120))) HN.out hR hC).mono ?_
  rintro e w1 ⟨gd, rfl, hblk, hgd, hb⟩
  have s1 : w.heap.size + 1 < w1.heap.size := by have := hb.size; simp at this; omega
  have s1' : w.heap.size < w1.heap.size := by omega
  have K1 := Lib.hid (K0.out.below hb (by simp <;> omega))
  have T1 := Lib.hid (T0.out.below hb (by simp <;> omega))
  have HB1 := Lib.hid (on2 _ _ hb)
  have hgd2 : w.heap.size + 2 ≤ gd := by simp at hgd; omega
  have D1 := Lib.hid (Own.of_blk (lo := w.heap.size + 2) (hi := w1.heap.size) (n := R * C) (by exact hblk) hgd2 hblk.lt (by rw [H.out.1, HN.out]) (by unfold maxLen; omega))
  obtain rfl := HN.out
  clear hb hblk hgd K0 T0
  obtain ⟨k0, k1, k2⟩ := K1.out
  go_wp2_with fail
  obtain ⟨V1, hV1⟩ : ∃ V1, V1 = w1.alloc (Obj.cells #[.int .i64 0, .int .i64 0, .slice none 0 0, .int .i64 0, .int .i64 0, .slice none 0 0, .int .i64 R, .int .i64 C, .slice (some ⟨gd, 0, none⟩) (R * C) (R * C), .int .i64 0, .int .i64 0, .slice none 0 0, .int .i64 0, .int .i64 0, .slice none 0 0] 120) := ⟨_, rfl⟩
  have v1 : w1.heap.size < V1.heap.size := by rw [hV1]; simp
  have K2 := Lib.hid (K1.out.below (al1 w1 (Obj.cells #[.int .i64 0, .int .i64 0, .slice none 0 0, .int .i64 0, .int .i64 0, .slice none 0 0, .int .i64 R, .int .i64 C, .slice (some ⟨gd, 0, none⟩) (R * C) (R * C), .int .i64 0, .int .i64 0, .slice none 0 0, .int .i64 0, .int .i64 0, .slice none 0 0] 120)) (by omega))
  have T2 := Lib.hid (T1.out.alloc (Obj.cells #[.int .i64 0, .int .i64 0, .slice none 0 0, .int .i64 0, .int .i64 0, .slice none 0 0, .int .i64 R, .int .i64 C, .slice (some ⟨gd, 0, none⟩) (R * C) (R * C), .int .i64 0, .int .i64 0, .slice none 0 0, .int .i64 0, .int .i64 0, .slice none 0 0] 120))
  have D2 := Lib.hid (D1.out.al (Nat.le_refl _) (al1 w1 (Obj.cells #[.int .i64 0, .int .i64 0, .slice none 0 0, .int .i64 0, .int .i64 0, .slice none 0 0, .int .i64 R, .int .i64 C, .slice (some ⟨gd, 0, none⟩) (R * C) (R * C), .int .i64 0, .int .i64 0, .slice none 0 0, .int .i64 0, .int .i64 0, .slice none 0 0] 120)))
  have X2 := Lib.hid (Row.new w1 #[.int .i64 0, .int .i64 0, .slice none 0 0, .int .i64 0, .int .i64 0, .slice none 0 0, .int .i64 R, .int .i64 C, .slice (some ⟨gd, 0, none⟩) (R * C) (R * C), .int .i64 0, .int .i64 0, .slice none 0 0, .int .i64 0, .int .i64 0, .slice none 0 0] 120)
  have HB2 := Lib.hid (HB1.out.trans ((al1 w1 (Obj.cells #[.int .i64 0, .int .i64 0, .slice none 0 0, .int .i64 0, .int .i64 0, .slice none 0 0, .int .i64 R, .int .i64 C, .slice (some ⟨gd, 0, none⟩) (R * C) (R * C), .int .i64 0, .int .i64 0, .slice none 0 0, .int .i64 0, .int .i64 0, .slice none 0 0] 120)).mono (by omega)))
  rw [← hV1] at K2 T2 D2 X2 HB2
  rw [← hV1]
  clear hV1 k0 k1 k2 K1 T1 D1 HB1
  have g3 : ¬ w1.heap.size = w.heap.size := by omega
  have g3' : ¬ w.heap.size = w1.heap.size := by omega
  refine (ident_impl_yes R V1 hR).mono ?_
  rintro e w3 ⟨Al, cl, rfl, hown, hb⟩
  rw [ones_len] at hown ⊢
  have u2 : V1.heap.size ≤ w3.heap.size := hb.size
  have K2a := Lib.hid (K2.out.below hb (by omega))
  have T2a := Lib.hid (T2.out.below hb (by omega))
  have X2a := Lib.hid (X2.out.below hb (by omega))
  have D2a := Lib.hid (D2.out.below hb (by omega))
  have Nl2a := Lib.hid hown
  have HB2a := Lib.hid (HB2.out.trans (hb.mono (by omega)))
  clear hb hown K2 T2 X2 HB2 D2
  obtain ⟨k0, k1, k2⟩ := K2a.out
  obtain ⟨y0, y1, y2, y3, y4, y5, y6, y7, y8, y9, y10, y11, y12, y13, y14⟩ := X2a.out.box15
  have f0 := X2a.out.free
  unfold Free at f0
  go_wp2_with fail
  have K3 := Lib.hid (((K2a.out.far (p := ⟨w1.heap.size, 0, none⟩) (by dsimp only; omega) (.int .i64 R)).far (p := ⟨w1.heap.size, 1, none⟩) (by dsimp only; omega) (.int .i64 R)).far (p := ⟨w1.heap.size, 2, none⟩) (by dsimp only; omega) (.slice Al (R * R) cl))
  have T3 := Lib.hid (((T2a.out.far (p := ⟨w1.heap.size, 0, none⟩) (by dsimp only; omega) (.int .i64 R)).far (p := ⟨w1.heap.size, 1, none⟩) (by dsimp only; omega) (.int .i64 R)).far (p := ⟨w1.heap.size, 2, none⟩) (by dsimp only; omega) (.slice Al (R * R) cl))
  have X3 := Lib.hid (show Row (((w3.setCell ⟨w1.heap.size, 0, none⟩ (.int .i64 R)).setCell ⟨w1.heap.size, 1, none⟩ (.int .i64 R)).setCell ⟨w1.heap.size, 2, none⟩ (.slice Al (R * R) cl)) w1.heap.size #[.int .i64 R, .int .i64 R, .slice Al (R * R) cl, .int .i64 0, .int .i64 0, .slice none 0 0, .int .i64 R, .int .i64 C, .slice (some ⟨gd, 0, none⟩) (R * C) (R * C), .int .i64 0, .int .i64 0, .slice none 0 0, .int .i64 0, .int .i64 0, .slice none 0 0] 120 from ((X2a.out.set_ (i := 0) (.int .i64 R)).set_ (i := 1) (.int .i64 R)).set_ (i := 2) (.slice Al (R * R) cl))
  have D3 := Lib.hid (((D2a.out.far (p := ⟨w1.heap.size, 0, none⟩) (by dsimp only; omega) (.int .i64 R)).far (p := ⟨w1.heap.size, 1, none⟩) (by dsimp only; omega) (.int .i64 R)).far (p := ⟨w1.heap.size, 2, none⟩) (by dsimp only; omega) (.slice Al (R * R) cl))
  have Nl3 := Lib.hid (((Nl2a.out.far (p := ⟨w1.heap.size, 0, none⟩) (by dsimp only; omega) (.int .i64 R)).far (p := ⟨w1.heap.size, 1, none⟩) (by dsimp only; omega) (.int .i64 R)).far (p := ⟨w1.heap.size, 2, none⟩) (by dsimp only; omega) (.slice Al (R * R) cl))
  have HB3 := Lib.hid (((HB2a.out.setCell (p := ⟨w1.heap.size, 0, none⟩) (by dsimp only; omega) (.int .i64 R)).setCell (p := ⟨w1.heap.size, 1, none⟩) (by dsimp only; omega) (.int .i64 R)).setCell (p := ⟨w1.heap.size, 2, none⟩) (by dsimp only; omega) (.slice Al (R * R) cl))
  obtain ⟨V2, hV⟩ : ∃ V, V = (((w3.setCell ⟨w1.heap.size, 0, none⟩ (.int .i64 R)).setCell ⟨w1.heap.size, 1, none⟩ (.int .i64 R)).setCell ⟨w1.heap.size, 2, none⟩ (.slice Al (R * R) cl)) := ⟨_, rfl⟩
  have v2 : V2.heap.size = w3.heap.size := by rw [hV]; simp
  rw [← hV] at K3 T3 X3 HB3 D3 Nl3
  rw [← hV]
  have v2l : V2.heap.size ≤ w3.heap.size := by omega
  have v2g : w3.heap.size ≤ V2.heap.size := by omega
  clear hV k0 k1 k2 y0 y1 y2 y3 y4 y5 y6 y7 y8 y9 y10 y11 y12 y13 y14 f0 v2 K2a T2a X2a HB2a D2a Nl2a
  refine (ident_impl_yes R V2 hR).mono ?_
  rintro e w4 ⟨Ali, cli, rfl, hown, hb⟩
  rw [ones_len] at hown ⊢
  have u3 : V2.heap.size ≤ w4.heap.size := hb.size
  have K3a := Lib.hid (K3.out.below hb (by omega))
  have T3a := Lib.hid (T3.out.below hb (by omega))
  have X3a := Lib.hid (X3.out.below hb (by omega))
  have D3a := Lib.hid (D3.out.below hb (by omega))
  have Nl3a := Lib.hid (Nl3.out.below hb (by omega))
  have Nli3a := Lib.hid hown
  have HB3a := Lib.hid (HB3.out.trans (hb.mono (by omega)))
  clear hb hown K3 T3 X3 HB3 D3 Nl3
  obtain ⟨k0, k1, k2⟩ := K3a.out
  obtain ⟨y0, y1, y2, y3, y4, y5, y6, y7, y8, y9, y10, y11, y12, y13, y14⟩ := X3a.out.box15
  have f0 := X3a.out.free
  unfold Free at f0
  go_wp2_with fail
  have K4 := Lib.hid (((K3a.out.far (p := ⟨w1.heap.size, 3, none⟩) (by dsimp only; omega) (.int .i64 R)).far (p := ⟨w1.heap.size, 4, none⟩) (by dsimp only; omega) (.int .i64 R)).far (p := ⟨w1.heap.size, 5, none⟩) (by dsimp only; omega) (.slice Ali (R * R) cli))
  have T4 := Lib.hid (((T3a.out.far (p := ⟨w1.heap.size, 3, none⟩) (by dsimp only; omega) (.int .i64 R)).far (p := ⟨w1.heap.size, 4, none⟩) (by dsimp only; omega) (.int .i64 R)).far (p := ⟨w1.heap.size, 5, none⟩) (by dsimp only; omega) (.slice Ali (R * R) cli))
  have X4 := Lib.hid (show Row (((w4.setCell ⟨w1.heap.size, 3, none⟩ (.int .i64 R)).setCell ⟨w1.heap.size, 4, none⟩ (.int .i64 R)).setCell ⟨w1.heap.size, 5, none⟩ (.slice Ali (R * R) cli)) w1.heap.size #[.int .i64 R, .int .i64 R, .slice Al (R * R) cl, .int .i64 R, .int .i64 R, .slice Ali (R * R) cli, .int .i64 R, .int .i64 C, .slice (some ⟨gd, 0, none⟩) (R * C) (R * C), .int .i64 0, .int .i64 0, .slice none 0 0, .int .i64 0, .int .i64 0, .slice none 0 0] 120 from ((X3a.out.set_ (i := 3) (.int .i64 R)).set_ (i := 4) (.int .i64 R)).set_ (i := 5) (.slice Ali (R * R) cli))
  have D4 := Lib.hid (((D3a.out.far (p := ⟨w1.heap.size, 3, none⟩) (by dsimp only; omega) (.int .i64 R)).far (p := ⟨w1.heap.size, 4, none⟩) (by dsimp only; omega) (.int .i64 R)).far (p := ⟨w1.heap.size, 5, none⟩) (by dsimp only; omega) (.slice Ali (R * R) cli))
  have Nl4 := Lib.hid (((Nl3a.out.far (p := ⟨w1.heap.size, 3, none⟩) (by dsimp only; omega) (.int .i64 R)).far (p := ⟨w1.heap.size, 4, none⟩) (by dsimp only; omega) (.int .i64 R)).far (p := ⟨w1.heap.size, 5, none⟩) (by dsimp only; omega) (.slice Ali (R * R) cli))
  have Nli4 := Lib.hid (((Nli3a.out.far (p := ⟨w1.heap.size, 3, none⟩) (by dsimp only; omega) (.int .i64 R)).far (p := ⟨w1.heap.size, 4, none⟩) (by dsimp only; omega) (.int .i64 R)).far (p := ⟨w1.heap.size, 5, none⟩) (by dsimp only; omega) (.slice Ali (R * R) cli))
  have HB4 := Lib.hid (((HB3a.out.setCell (p := ⟨w1.heap.size, 3, none⟩) (by dsimp only; omega) (.int .i64 R)).setCell (p := ⟨w1.heap.size, 4, none⟩) (by dsimp only; omega) (.int .i64 R)).setCell (p := ⟨w1.heap.size, 5, none⟩) (by dsimp only; omega) (.slice Ali (R * R) cli))
  obtain ⟨V3, hV⟩ : ∃ V, V = (((w4.setCell ⟨w1.heap.size, 3, none⟩ (.int .i64 R)).setCell ⟨w1.heap.size, 4, none⟩ (.int .i64 R)).setCell ⟨w1.heap.size, 5, none⟩ (.slice Ali (R * R) cli)) := ⟨_, rfl⟩
  have v3 : V3.heap.size = w4.heap.size := by rw [hV]; simp
  rw [← hV] at K4 T4 X4 HB4 D4 Nl4 Nli4
  rw [← hV]
  have v3l : V3.heap.size ≤ w4.heap.size := by omega
  have v3g : w4.heap.size ≤ V3.heap.size := by omega
  clear hV k0 k1 k2 y0 y1 y2 y3 y4 y5 y6 y7 y8 y9 y10 y11 y12 y13 y14 f0 v3 K3a T3a X3a HB3a D3a Nl3a Nli3a
  refine (ident_impl_yes C V3 hC).mono ?_
  rintro e w5 ⟨Ar, cr, rfl, hown, hb⟩
  rw [ones_len] at hown ⊢
  have u4 : V3.heap.size ≤ w5.heap.size := hb.size
  have K4a := Lib.hid (K4.out.below hb (by omega))
  have T4a := Lib.hid (T4.out.below hb (by omega))
  have X4a := Lib.hid (X4.out.below hb (by omega))
  have D4a := Lib.hid (D4.out.below hb (by omega))
  have Nl4a := Lib.hid (Nl4.out.below hb (by omega))
  have Nli4a := Lib.hid (Nli4.out.below hb (by omega))
  have Nr4a := Lib.hid hown
  have HB4a := Lib.hid (HB4.out.trans (hb.mono (by omega)))
  clear hb hown K4 T4 X4 HB4 D4 Nl4 Nli4
  obtain ⟨k0, k1, k2⟩ := K4a.out
  obtain ⟨y0, y1, y2, y3, y4, y5, y6, y7, y8, y9, y10, y11, y12, y13, y14⟩ := X4a.out.box15
  have f0 := X4a.out.free
  unfold Free at f0
  go_wp2_with fail
  have K5 := Lib.hid (((K4a.out.far (p := ⟨w1.heap.size, 9, none⟩) (by dsimp only; omega) (.int .i64 C)).far (p := ⟨w1.heap.size, 10, none⟩) (by dsimp only; omega) (.int .i64 C)).far (p := ⟨w1.heap.size, 11, none⟩) (by dsimp only; omega) (.slice Ar (C * C) cr))
  have T5 := Lib.hid (((T4a.out.far (p := ⟨w1.heap.size, 9, none⟩) (by dsimp only; omega) (.int .i64 C)).far (p := ⟨w1.heap.size, 10, none⟩) (by dsimp only; omega) (.int .i64 C)).far (p := ⟨w1.heap.size, 11, none⟩) (by dsimp only; omega) (.slice Ar (C * C) cr))
  have X5 := Lib.hid (show Row (((w5.setCell ⟨w1.heap.size, 9, none⟩ (.int .i64 C)).setCell ⟨w1.heap.size, 10, none⟩ (.int .i64 C)).setCell ⟨w1.heap.size, 11, none⟩ (.slice Ar (C * C) cr)) w1.heap.size #[.int .i64 R, .int .i64 R, .slice Al (R * R) cl, .int .i64 R, .int .i64 R, .slice Ali (R * R) cli, .int .i64 R, .int .i64 C, .slice (some ⟨gd, 0, none⟩) (R * C) (R * C), .int .i64 C, .int .i64 C, .slice Ar (C * C) cr, .int .i64 0, .int .i64 0, .slice none 0 0] 120 from ((X4a.out.set_ (i := 9) (.int .i64 C)).set_ (i := 10) (.int .i64 C)).set_ (i := 11) (.slice Ar (C * C) cr))
  have D5 := Lib.hid (((D4a.out.far (p := ⟨w1.heap.size, 9, none⟩) (by dsimp only; omega) (.int .i64 C)).far (p := ⟨w1.heap.size, 10, none⟩) (by dsimp only; omega) (.int .i64 C)).far (p := ⟨w1.heap.size, 11, none⟩) (by dsimp only; omega) (.slice Ar (C * C) cr))
  have Nl5 := Lib.hid (((Nl4a.out.far (p := ⟨w1.heap.size, 9, none⟩) (by dsimp only; omega) (.int .i64 C)).far (p := ⟨w1.heap.size, 10, none⟩) (by dsimp only; omega) (.int .i64 C)).far (p := ⟨w1.heap.size, 11, none⟩) (by dsimp only; omega) (.slice Ar (C * C) cr))
  have Nli5 := Lib.hid (((Nli4a.out.far (p := ⟨w1.heap.size, 9, none⟩) (by dsimp only; omega) (.int .i64 C)).far (p := ⟨w1.heap.size, 10, none⟩) (by dsimp only; omega) (.int .i64 C)).far (p := ⟨w1.heap.size, 11, none⟩) (by dsimp only; omega) (.slice Ar (C * C) cr))
  have Nr5 := Lib.hid (((Nr4a.out.far (p := ⟨w1.heap.size, 9, none⟩) (by dsimp only; omega) (.int .i64 C)).far (p := ⟨w1.heap.size, 10, none⟩) (by dsimp only; omega) (.int .i64 C)).far (p := ⟨w1.heap.size, 11, none⟩) (by dsimp only; omega) (.slice Ar (C * C) cr))
  have HB5 := Lib.hid (((HB4a.out.setCell (p := ⟨w1.heap.size, 9, none⟩) (by dsimp only; omega) (.int .i64 C)).setCell (p := ⟨w1.heap.size, 10, none⟩) (by dsimp only; omega) (.int .i64 C)).setCell (p := ⟨w1.heap.size, 11, none⟩) (by dsimp only; omega) (.slice Ar (C * C) cr))
  obtain ⟨V4, hV⟩ : ∃ V, V = (((w5.setCell ⟨w1.heap.size, 9, none⟩ (.int .i64 C)).setCell ⟨w1.heap.size, 10, none⟩ (.int .i64 C)).setCell ⟨w1.heap.size, 11, none⟩ (.slice Ar (C * C) cr)) := ⟨_, rfl⟩
  have v4 : V4.heap.size = w5.heap.size := by rw [hV]; simp
  rw [← hV] at K5 T5 X5 HB5 D5 Nl5 Nli5 Nr5
  rw [← hV]
  have v4l : V4.heap.size ≤ w5.heap.size := by omega
  have v4g : w5.heap.size ≤ V4.heap.size := by omega
  clear hV k0 k1 k2 y0 y1 y2 y3 y4 y5 y6 y7 y8 y9 y10 y11 y12 y13 y14 f0 v4 K4a T4a X4a HB4a D4a Nl4a Nli4a Nr4a
  refine (ident_impl_yes C V4 hC).mono ?_
  rintro e w6 ⟨Ari, cri, rfl, hown, hb⟩
  rw [ones_len] at hown ⊢
  have u5 : V4.heap.size ≤ w6.heap.size := hb.size
  have K5a := Lib.hid (K5.out.below hb (by omega))
  have T5a := Lib.hid (T5.out.below hb (by omega))
  have X5a := Lib.hid (X5.out.below hb (by omega))
  have D5a := Lib.hid (D5.out.below hb (by omega))
  have Nl5a := Lib.hid (Nl5.out.below hb (by omega))
  have Nli5a := Lib.hid (Nli5.out.below hb (by omega))
  have Nr5a := Lib.hid (Nr5.out.below hb (by omega))
  have Nri5a := Lib.hid hown
  have HB5a := Lib.hid (HB5.out.trans (hb.mono (by omega)))
  clear hb hown K5 T5 X5 HB5 D5 Nl5 Nli5 Nr5
  obtain ⟨k0, k1, k2⟩ := K5a.out
  obtain ⟨y0, y1, y2, y3, y4, y5, y6, y7, y8, y9, y10, y11, y12, y13, y14⟩ := X5a.out.box15
  have f0 := X5a.out.free
  unfold Free at f0
  have K6 := Lib.hid (((K5a.out.far (p := ⟨w1.heap.size, 12, none⟩) (by dsimp only; omega) (.int .i64 C)).far (p := ⟨w1.heap.size, 13, none⟩) (by dsimp only; omega) (.int .i64 C)).far (p := ⟨w1.heap.size, 14, none⟩) (by dsimp only; omega) (.slice Ari (C * C) cri))
  have T6 := Lib.hid (((T5a.out.far (p := ⟨w1.heap.size, 12, none⟩) (by dsimp only; omega) (.int .i64 C)).far (p := ⟨w1.heap.size, 13, none⟩) (by dsimp only; omega) (.int .i64 C)).far (p := ⟨w1.heap.size, 14, none⟩) (by dsimp only; omega) (.slice Ari (C * C) cri))
  have X6 := Lib.hid (show Row (((w6.setCell ⟨w1.heap.size, 12, none⟩ (.int .i64 C)).setCell ⟨w1.heap.size, 13, none⟩ (.int .i64 C)).setCell ⟨w1.heap.size, 14, none⟩ (.slice Ari (C * C) cri)) w1.heap.size #[.int .i64 R, .int .i64 R, .slice Al (R * R) cl, .int .i64 R, .int .i64 R, .slice Ali (R * R) cli, .int .i64 R, .int .i64 C, .slice (some ⟨gd, 0, none⟩) (R * C) (R * C), .int .i64 C, .int .i64 C, .slice Ar (C * C) cr, .int .i64 C, .int .i64 C, .slice Ari (C * C) cri] 120 from ((X5a.out.set_ (i := 12) (.int .i64 C)).set_ (i := 13) (.int .i64 C)).set_ (i := 14) (.slice Ari (C * C) cri))
  have D6 := Lib.hid (((D5a.out.far (p := ⟨w1.heap.size, 12, none⟩) (by dsimp only; omega) (.int .i64 C)).far (p := ⟨w1.heap.size, 13, none⟩) (by dsimp only; omega) (.int .i64 C)).far (p := ⟨w1.heap.size, 14, none⟩) (by dsimp only; omega) (.slice Ari (C * C) cri))
  have Nl6 := Lib.hid (((Nl5a.out.far (p := ⟨w1.heap.size, 12, none⟩) (by dsimp only; omega) (.int .i64 C)).far (p := ⟨w1.heap.size, 13, none⟩) (by dsimp only; omega) (.int .i64 C)).far (p := ⟨w1.heap.size, 14, none⟩) (by dsimp only; omega) (.slice Ari (C * C) cri))
  have Nli6 := Lib.hid (((Nli5a.out.far (p := ⟨w1.heap.size, 12, none⟩) (by dsimp only; omega) (.int .i64 C)).far (p := ⟨w1.heap.size, 13, none⟩) (by dsimp only; omega) (.int .i64 C)).far (p := ⟨w1.heap.size, 14, none⟩) (by dsimp only; omega) (.slice Ari (C * C) cri))
  have Nr6 := Lib.hid (((Nr5a.out.far (p := ⟨w1.heap.size, 12, none⟩) (by dsimp only; omega) (.int .i64 C)).far (p := ⟨w1.heap.size, 13, none⟩) (by dsimp only; omega) (.int .i64 C)).far (p := ⟨w1.heap.size, 14, none⟩) (by dsimp only; omega) (.slice Ari (C * C) cri))
  have Nri6 := Lib.hid (((Nri5a.out.far (p := ⟨w1.heap.size, 12, none⟩) (by dsimp only; omega) (.int .i64 C)).far (p := ⟨w1.heap.size, 13, none⟩) (by dsimp only; omega) (.int .i64 C)).far (p := ⟨w1.heap.size, 14, none⟩) (by dsimp only; omega) (.slice Ari (C * C) cri))
  have HB6 := Lib.hid (((HB5a.out.setCell (p := ⟨w1.heap.size, 12, none⟩) (by dsimp only; omega) (.int .i64 C)).setCell (p := ⟨w1.heap.size, 13, none⟩) (by dsimp only; omega) (.int .i64 C)).setCell (p := ⟨w1.heap.size, 14, none⟩) (by dsimp only; omega) (.slice Ari (C * C) cri))
  clear k0 k1 k2 K5a T5a HB5a D5a Nl5a Nli5a Nr5a Nri5a
  have TT := Lib.hid (T6.out.there (n := 15) rfl)
  go_wp2_with (first | (refine wpList_load_row (by rfl) 120 (.tmp 3) (by rfl) w1.heap.size (by rfl) 120 #[.int .i64 R, .int .i64 R, .slice Al (R * R) cl, .int .i64 R, .int .i64 R, .slice Ali (R * R) cli, .int .i64 R, .int .i64 C, .slice (some ⟨gd, 0, none⟩) (R * C) (R * C), .int .i64 C, .int .i64 C, .slice Ar (C * C) cr, .int .i64 C, .int .i64 C, .slice Ari (C * C) cri] (0, 0) _ (by exact X6.out) Try.underlying120 (by rfl) sizeR ?_) | (refine wpList_store_mid (by rfl) 120 (.tmp 2) (.tmp 35) (by rfl) (w.heap.size + 1) 0 #[.int .i64 R, .int .i64 R, .slice Al (R * R) cl, .int .i64 R, .int .i64 R, .slice Ali (R * R) cli, .int .i64 R, .int .i64 C, .slice (some ⟨gd, 0, none⟩) (R * C) (R * C), .int .i64 C, .int .i64 C, .slice Ar (C * C) cr, .int .i64 C, .int .i64 C, .slice Ari (C * C) cri] (by rfl) (by rfl) (by exact TT.out) sizeR (by simp [Value.oneCell']) ?_))
  refine bodyPost_ret (v := .agg #[.int .i64 R, .int .i64 R, .slice Al (R * R) cl, .int .i64 R, .int .i64 R, .slice Ali (R * R) cli, .int .i64 R, .int .i64 C, .slice (some ⟨gd, 0, none⟩) (R * C) (R * C), .int .i64 C, .int .i64 C, .slice Ar (C * C) cr, .int .i64 C, .int .i64 C, .slice Ari (C * C) cri]) (results_cell_mid (cs := [.int .i64 R, .int .i64 R, .slice Al (R * R) cl, .int .i64 R, .int .i64 R, .slice Ali (R * R) cli, .int .i64 R, .int .i64 C, .slice (some ⟨gd, 0, none⟩) (R * C) (R * C), .int .i64 C, .int .i64 C, .slice Ar (C * C) cr, .int .i64 C, .int .i64 C, .slice Ari (C * C) cri]) Try.results114 _ _ (w.heap.size + 1) _ (by rfl) (World.rangeAt_setCells_same _ _ _ _ TT.out) Try.underlying120 rfl sizeR) rfl ?_
  have z0 : (((((w6.setCell ⟨w1.heap.size, 12, none⟩ (.int .i64 C)).setCell ⟨w1.heap.size, 13, none⟩ (.int .i64 C)).setCell ⟨w1.heap.size, 14, none⟩ (.slice Ari (C * C) cri))).setCells (w.heap.size + 1) 0 (#[.int .i64 R, .int .i64 R, .slice Al (R * R) cl, .int .i64 R, .int .i64 R, .slice Ali (R * R) cli, .int .i64 R, .int .i64 C, .slice (some ⟨gd, 0, none⟩) (R * C) (R * C), .int .i64 C, .int .i64 C, .slice Ar (C * C) cr, .int .i64 C, .int .i64 C, .slice Ari (C * C) cri]).toList).heap.size = w6.heap.size := by rw [size_setCells, size_setCell, size_setCell, size_setCell]
  refine ⟨gd, V1.heap.size, V2.heap.size, V3.heap.size, V4.heap.size, Al, Ali, Ar, Ari, cl, cli, cr, cri, rfl, by omega, by omega, by omega, by omega, by rw [z0]; omega, ((D6.out.setCells (g := w.heap.size + 1) (by omega) _ 0)).wide (by omega) (by omega), ((Nl6.out.setCells (g := w.heap.size + 1) (by omega) _ 0)).wide (by omega) (by omega), ((Nli6.out.setCells (g := w.heap.size + 1) (by omega) _ 0)).wide (by omega) (by omega), ((Nr6.out.setCells (g := w.heap.size + 1) (by omega) _ 0)).wide (by omega) (by omega), ((Nri6.out.setCells (g := w.heap.size + 1) (by omega) _ 0)).wide (by omega) (by rw [z0]; omega), below_setCells (by omega) _ _ _ HB6.out⟩

end Go.Proofs.Ytpojkahlllochaa
