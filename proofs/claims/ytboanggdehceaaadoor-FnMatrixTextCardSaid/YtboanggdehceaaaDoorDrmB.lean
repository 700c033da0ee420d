/- The specification's draw of a matrix. No condition but those that each theorem names. -/
import Derived.Test.YtboanggdehceaaaDoorDrmA
namespace Go.Proofs.YtboanggdehceaaaDoor
open Go.RowKit

def MTB (W : World) (pb : Nat) : Prop := ∃ cs, W.heap[pb]? = some (.cells cs 26 (0, 0))
theorem Own.far_tb {w : World} {lo hi : Nat} {A : Option Addr} {n c pb : Nat} {zs : List Int} (h : Own w lo hi A n c zs) (hx : MTB w pb) (i : Nat) (u : Value) : Own (w.setCell ⟨pb, i, none⟩ u) lo hi A n c zs := by
  obtain ⟨cs, hcs⟩ := hx
  refine ⟨⟨h.1.1, ?_⟩, h.2⟩
  rcases h.1.2 with h0 | ⟨g, cap, cur, hv, hb, hg, r⟩
  · exact .inl h0
  · refine .inr ⟨g, cap, cur, hv, hb, ?_, r⟩
    rw [Below.heap_setCell w _ _ g ?_]
    · exact hg
    · intro e
      dsimp only at e
      subst e
      rw [hg] at hcs
      injection hcs with hcs
      injection hcs with _ h5 _
      exact absurd h5 (by decide)
/-- What a matrix is drawn to. -/
def AnyP (r q : Int) (zs : List Int) : Prop := zs.length ≤ 100 ∧ -100 ≤ r ∧ r ≤ 100 ∧ -100 ≤ q ∧ q ≤ 100
theorem SizeP.any {r q r' q' : Int} {zs : List Int} (h : SizeP r q r' q' zs) (r0 : 0 ≤ r) (r1 : r ≤ 5) (q0 : 0 ≤ q) (q1 : q ≤ 5) : zs.length ≤ 25 ∧ r' = r ∧ q' = q := by
  obtain ⟨rfl, rfl, hl, _⟩ := h
  refine ⟨?_, rfl, rfl⟩
  have h1 : r' * q' ≤ 5 * q' := Int.mul_le_mul_of_nonneg_right r1 q0
  omega
/-- The draw's state when the matrix lies in its box. -/
structure NSt (w : World) (g : Nat) (A : Option Addr) (n c pb : Nat) (r q : Int) (R : Option Addr) (t : Nat) (zs : List Int) (W : World) : Prop where
  src : ∃ a x, Src W g A n c a x
  kept : Kept g (g + 1) w W
  box : Box3 W w.heap.size (.int .i64 0) (.int .i64 0) (.slice none 0 0)
  free : Free W w.heap.size
  own : Own W (w.heap.size + 1) W.heap.size R zs.length t zs
  mbox : Box3 W pb (.int .i64 r) (.int .i64 q) (.slice R zs.length t)
  mfree : Free W pb
  lt : w.heap.size < pb
  lt2 : pb < W.heap.size
theorem NSt.fin {w W : World} {g : Nat} {A : Option Addr} {n c pb : Nat} {r q : Int} {R : Option Addr} {t : Nat} {zs : List Int} {P : Int → Int → List Int → Prop} (h : NSt w g A n c pb r q R t zs W) (hg : g < w.heap.size) (hP : P r q zs) (u0 u1 u2 : Value) :
    DrawnM w g A n c P (.returned (.agg #[.int .i64 r, .int .i64 q, .slice R zs.length t])) (((W.setCell ⟨w.heap.size, 0, none⟩ u0).setCell ⟨w.heap.size, 1, none⟩ u1).setCell ⟨w.heap.size, 2, none⟩ u2) := by
  obtain ⟨⟨a, x, h0⟩, h3, h4, h5, h6, h7, h8, h9, h10⟩ := h
  refine ⟨r, q, R, t, zs, a, x, hP, rfl, ?_, ((h0.farM (by dsimp only; omega) _).farM (by dsimp only; omega) _).farM (by dsimp only; omega) _, ((h3.setNewM (Nat.le_refl _) _).setNewM (Nat.le_refl _) _).setNewM (Nat.le_refl _) _⟩
  exact (((h6.far (p := ⟨w.heap.size, 0, none⟩) (.inl (by dsimp only; omega)) _).far (p := ⟨w.heap.size, 1, none⟩) (.inl (by dsimp only; omega)) _).far (p := ⟨w.heap.size, 2, none⟩) (.inl (by dsimp only; omega)) _).wide (by omega) (by simp [World.setCell])
theorem MSt.gen {w W : World} {g : Nat} {A : Option Addr} {n c pb : Nat} {r q : Int} {R : Option Addr} {t : Nat} {zs : List Int} (h : MSt w g A n c pb r q R t zs W) : NSt w g A n c pb r q R t zs W := by
  obtain ⟨h2, h3, h4, h5, h6, h7, h8, h9, h10⟩ := h
  exact ⟨h2, h3, h4, h5, h6.wide (Nat.le_refl _) (by omega), h7, h8, h9, h10⟩
theorem MTB.kept {W W' : World} {lo hi pb : Nat} (h : MTB W pb) (hk : Kept lo hi W W') (h1 : pb < W.heap.size) (h2 : ¬ (lo ≤ pb ∧ pb < hi)) : MTB W' pb := by
  obtain ⟨cs, h⟩ := h
  exact ⟨cs, (hk.block pb h1 h2).trans h⟩
/-- A number is stored in the matrix' box. -/
theorem MSt.rows {w W : World} {g : Nat} {A : Option Addr} {n c pb : Nat} {r q : Int} {R : Option Addr} {t : Nat} {zs : List Int} (h : MSt w g A n c pb r q R t zs W) (hg : g < w.heap.size) (r' : Int) : MSt w g A n c pb r' q R t zs (W.setCell ⟨pb, 0, none⟩ (.int .i64 r')) := by
  obtain ⟨⟨a, x, h2⟩, h3, h4, h5, h6, h7, h8, h9, h10⟩ := h
  exact ⟨⟨a, x, h2.farM (by dsimp only; omega) _⟩, h3.setNewM (by dsimp only; omega) _, h4.far (by dsimp only; omega) _, h5.set_ _ _, h6.far (.inr (Nat.le_refl _)) _, ⟨by simp [h7.1, go_sem], by simp [h7.2.1, go_sem], by simp [h7.2.2, go_sem]⟩, h8.set_ _ _, h9, by simp [World.setCell]; exact h10⟩
/-- A number is appended to the matrix' list. -/
theorem MSt.push {w W w7 : World} {g : Nat} {A : Option Addr} {n c pb : Nat} {r q e : Int} {R R7 : Option Addr} {t t7 : Nat} {zs : List Int} {o : Obj} (h : MSt w g A n c pb r q R t zs W) (hg : g < w.heap.size) (ht : MTB W pb)
    (hk : Kept (w.heap.size + 1) pb (W.alloc o) w7) (ho : Own w7 (w.heap.size + 1) w7.heap.size R7 (zs.length + 1) t7 (zs ++ [e])) : NSt w g A n c pb r q R7 t7 (zs ++ [e]) (w7.setCell ⟨pb, 2, none⟩ (.slice R7 (zs.length + 1) t7)) := by
  obtain ⟨⟨a, x, h2⟩, h3, h4, h5, h6, h7, h8, h9, h10⟩ := h
  have e1 : (zs ++ [e]).length = zs.length + 1 := by simp
  have ha := al1 W o
  have sz : W.heap.size < (W.alloc o).heap.size := by simp
  have sk := hk.size
  have tb7 : MTB w7 pb := (ht.kept (Kept.of_below ha (w.heap.size + 1) pb) h10 (by omega)).kept hk (by omega) (by omega)
  refine ⟨⟨a, x, ((h2.below ha (by omega)).kept hk (by omega) (by omega)).farM (by dsimp only; omega) _⟩, ((h3.belowM ha (by omega)).belowM (hk.below (B := w.heap.size + 1) (by omega) (by omega)) (by omega)).setNewM (by dsimp only; omega) _, ((h4.below ha (by omega)).kept hk (by omega) (by omega)).far (by dsimp only; omega) _, ((h5.below ha (by omega)).kept hk (by omega) (by omega)).set_ _ _, ?_, ?_, ((h8.below ha h10).kept hk (by omega) (by omega)).set_ _ _, h9, by simp [World.setCell]; omega⟩
  · rw [e1]
    exact (ho.far_tb tb7 2 _).wide (Nat.le_refl _) (by simp [World.setCell])
  · rw [e1]
    exact ((h7.below ha h10).kept hk (by omega) (by omega)).set2
/-- An entry of the list is stored. -/
theorem MSt.store {w W : World} {g : Nat} {A : Option Addr} {n c pb : Nat} {r q : Int} {gz t : Nat} {zs : List Int} (h : MSt w g A n c pb r q (some ⟨gz, 0, none⟩) t zs W) (hg : g < w.heap.size) (h1 : w.heap.size < gz) (h2 : gz < pb) (i : Nat) (u : Int) : MSt w g A n c pb r q (some ⟨gz, 0, none⟩) t (zs.set i u) (W.setCell ⟨gz, i, none⟩ (.int .i64 u)) := h.put hg h1 h2 i u
theorem MSt.drew_ {w W : World} {g : Nat} {A : Option Addr} {n c pb : Nat} {r q : Int} {R : Option Addr} {t : Nat} {zs : List Int} (h : MSt w g A n c pb r q R t zs W) : MSt w g A n c pb r q R t zs W.drew := by
  obtain ⟨⟨a, x, h2⟩, h3, h4, h5, h6, h7, h8, h9, h10⟩ := h
  exact ⟨⟨a, x, h2.drewM⟩, h3.drewN 1, h4, h5, h6, h7, h8, h9, h10⟩
theorem MSt.alloc_ {w W : World} {g : Nat} {A : Option Addr} {n c pb : Nat} {r q : Int} {R : Option Addr} {t : Nat} {zs : List Int} (h : MSt w g A n c pb r q R t zs W) (hg : g < w.heap.size) (o : Obj) : MSt w g A n c pb r q R t zs (W.alloc o) := by
  obtain ⟨⟨a, x, h2⟩, h3, h4, h5, h6, h7, h8, h9, h10⟩ := h
  have ha := al1 W o
  exact ⟨⟨a, x, h2.below ha (by omega)⟩, h3.belowM ha (by omega), h4.below ha (by omega), h5.below ha (by omega), h6.below ha (by omega), h7.below ha h10, h8.below ha h10, h9, by simp; omega⟩
theorem drawn_of {w W W' : World} {g : Nat} {A : Option Addr} {n c : Nat} {r q : Int} {R : Option Addr} {t : Nat} {zs : List Int} {a x : Int} (h0 : Src W g A n c a x) (h3 : Kept g (g + 1) w W) (h4 : Box3 W w.heap.size (.int .i64 0) (.int .i64 0) (.slice none 0 0)) (h5 : Free W w.heap.size) (h6 : Own W (w.heap.size + 1) W.heap.size R zs.length t zs) (hg : g < w.heap.size) (hw : w.heap.size < W.heap.size) (hW : W' = W.alloc (Obj.cells #[.int .i64 r, .int .i64 q, .slice R zs.length t] 26)) :
    MSt w g A n c W.heap.size r q R t zs W' ∧ MTB W' W.heap.size := by
  subst hW
  have ha := al1 W (Obj.cells #[.int .i64 r, .int .i64 q, .slice R zs.length t] 26)
  exact ⟨⟨⟨a, x, h0.below ha (by omega)⟩, h3.belowM ha (by omega), h4.below ha hw, h5.below ha hw, h6.below ha (Nat.le_refl _), Box3.new W _ _ _ _, Free.new W _ _, hw, by simp⟩, ⟨_, heap_alloc_new W _⟩⟩

theorem MSt.reset {w W : World} {g : Nat} {A : Option Addr} {n c pb : Nat} {r q : Int} {R : Option Addr} {t : Nat} {zs : List Int} (h : MSt w g A n c pb r q R t zs W) (hg : g < w.heap.size) (v : Int) : NSt w g A n c pb 0 v none 0 [] (((W.setCell ⟨pb, 0, none⟩ (.int .i64 0)).setCell ⟨pb, 1, none⟩ (.int .i64 v)).setCell ⟨pb, 2, none⟩ (.slice none 0 0)) := by
  obtain ⟨⟨a, x, h2⟩, h3, h4, h5, h6, h7, h8, h9, h10⟩ := h
  refine ⟨⟨a, x, ((h2.farM (by dsimp only; omega) _).farM (by dsimp only; omega) _).farM (by dsimp only; omega) _⟩, ((h3.setNewM (by dsimp only; omega) _).setNewM (by dsimp only; omega) _).setNewM (by dsimp only; omega) _, ((h4.far (by dsimp only; omega) _).far (by dsimp only; omega) _).far (by dsimp only; omega) _, ((h5.set_ _ _).set_ _ _).set_ _ _, Own.none_ _ _ _, ⟨by simp [h7.1, go_sem], by simp [h7.2.1, go_sem], by simp [h7.2.2, go_sem]⟩, ((h8.set_ _ _).set_ _ _).set_ _ _, h9, by simp [World.setCell]; exact h10⟩

set_option maxRecDepth 100000 in
set_option maxHeartbeats 16000000 in
theorem drawMatrix_spec (g : Nat) (A : Option Addr) (n c : Nat) (bs : List Int) (a x : Int) (w : World) (h : Bys w g A n bs) (hn : n ≤ 1048576) (hs : Src w g A n c a x) :
    Calls Tryd.prog 18 #[.pointer (some ⟨g, 0, none⟩)] w (DrawnM w g A n c AnyP) := by
  have gl := hs.lt
  have BY := Lib.hid (fun (W : World) (hk : Kept g (g + 1) w W) => h.kept hk (Nat.le_refl _) (by omega))
  have S0 := Lib.hid (hs.below (al1 w (Obj.cells #[.int .i64 0, .int .i64 0, .slice none 0 0] 26)) gl)
  have K0 := Lib.hid (Kept.of_below (al1 w (Obj.cells #[.int .i64 0, .int .i64 0, .slice none 0 0] 26)) g (g + 1))
  have B0 := Lib.hid (Box3.new w 26 (.int .i64 0) (.int .i64 0) (.slice none 0 0))
  have F0 := Lib.hid (Free.new w 26 #[.int .i64 0, .int .i64 0, .slice none 0 0])
  have s0 : w.heap.size < (w.alloc (Obj.cells #[.int .i64 0, .int .i64 0, .slice none 0 0] 26)).heap.size := by simp
  clear h hs
  go_enter Tryd.func18, Tryd.ntmps18
  go_wp2_with fail
  refine (next_spec g A n c bs 5 a x _ (BY.out _ K0.out) hn S0.out (by omega) (by omega)).mono ?_
  rintro e w1 ⟨r, a1, x1, rfl, r0, r1, -, hs1, hk1⟩
  have r2 := r1 (by omega)
  have S1 := Lib.hid hs1
  have K1 := Lib.hid (K0.out.trans hk1)
  have B1 := Lib.hid (B0.out.kept hk1 s0 (by omega))
  have F1 := Lib.hid (F0.out.kept hk1 s0 (by omega))
  have s1 : w.heap.size < w1.heap.size := by have := hk1.size; simp at this; omega
  clear hs1 hk1 r1 S0 K0 B0 F0 s0
  go_wp2_with fail
  refine (next_spec g A n c bs 5 a1 x1 _ (BY.out _ K1.out) hn S1.out (by omega) (by omega)).mono ?_
  rintro e w2 ⟨q, a2, x2, rfl, q0, q1, -, hs1, hk1⟩
  have q2 := q1 (by omega)
  have S2 := Lib.hid hs1
  have K2 := Lib.hid (K1.out.trans hk1)
  have B2 := Lib.hid (B1.out.kept hk1 s1 (by omega))
  have F2 := Lib.hid (F1.out.kept hk1 s1 (by omega))
  have s2 : w.heap.size < w2.heap.size := by have := hk1.size; omega
  clear hs1 hk1 q1 S1 K1 B1 F1 s1
  go_wp2_with fail
  refine (drawSize_spec g A n c bs a2 x2 r q _ (BY.out _ K2.out) hn S2.out r0 (by omega) q0 (by omega)).mono ?_
  rintro e w3 ⟨r', q', R, t, zs, a3, x3, hsp, rfl, hown, hs1, hk1⟩
  obtain ⟨hz, rfl, rfl⟩ := hsp.any r0 (by omega) q0 (by omega)
  have s3 : w.heap.size < w3.heap.size := by have := hk1.size; omega
  have M3 := Lib.hid (drawn_of (W := w3) (r := r') (q := q') hs1 (K2.out.trans hk1) (B2.out.kept hk1 s2 (by omega)) (F2.out.kept hk1 s2 (by omega)) (hown.wide (by omega) (Nat.le_refl _)) gl s3 rfl)
  have LB := Lib.hid hown.2
  have LO := Lib.hid (show ∀ a, R = some a → 0 < zs.length → w.heap.size < a.block from fun a ha h0 => by
    obtain ⟨g5, z5, h5, h6, h7, _⟩ := hown.at_ (k := 0) h0
    rw [ha] at h5
    injection h5 with h5
    subst h5
    dsimp only
    omega)
  obtain ⟨pb, hpb⟩ : ∃ pb, w3.heap.size = pb := ⟨_, rfl⟩
  rw [hpb] at M3 s3 LB
  clear hs1 hk1 hown hsp S2 K2 B2 F2 s2
  obtain ⟨⟨a4, x4, hs1⟩, hk1, _, _, _, _, _, _, _⟩ := M3.out.1
  go_wp2_with fail
  (try rw [hpb])
  refine (next_spec g A n c bs 24 a4 x4 _ (BY.out _ hk1) hn hs1 (by omega) (by omega)).mono ?_
  rintro e w5 ⟨u, a5, x5, rfl, u0, u1, -, hs5, hk5⟩
  have M5 := Lib.hid (M3.out.1.next gl hs5 hk5)
  have T5 := Lib.hid (M3.out.2.kept hk5 M3.out.1.lt2 (by omega))
  have ne3 : ¬ pb = w.heap.size := by omega
  have ne4 : ¬ w.heap.size = pb := by omega
  have z5 := M5.out.lt2
  clear hs1 hk1 hs5 hk5 u1 M3
  obtain ⟨m0, m1, m2⟩ := M5.out.mbox
  have mf := M5.out.mfree
  obtain ⟨k0, k1, k2⟩ := M5.out.box
  have kf := M5.out.free
  unfold Free at mf kf
  rcases (show u = 0 ∨ u = 1 ∨ u = 2 ∨ u = 3 ∨ 3 < u by omega) with rfl | rfl | rfl | rfl | hu
  · have N5 := Lib.hid (M5.out.rows gl (r' + 1))
    have ws : IntKind.i64.wrap (r' + 1) = r' + 1 := IntWalk.i64_in _ (by omega)
    go_wp2
    refine bodyPost_ret (v := .agg #[.int .i64 (r' + 1), .int .i64 q', .slice R zs.length t]) (by simp [results, Tryd.results18, k0, k1, k2, go_sem]) rfl ?_
    exact N5.out.gen.fin gl ⟨by omega, by omega, by omega, by omega, by omega⟩ _ _ _
  · go_wp2_with (at_builtin; refine wpList_push_int rfl _ _ rfl (w.heap.size + 1) pb t w5.heap.size R zs 0 rfl (M5.out.own.al (by omega) (al1 w5 _)) rfl (by exact alloc_first _ _ _ _ rfl) (by simp <;> omega) (by omega) ?_; intro A7 c7 w7 h5 h6; have N7 := Lib.hid (M5.out.push gl T5.out h6 h5); have P7 := Lib.hid ((M5.out.mbox.below (al1 w5 _) z5).kept h6 (by simp; omega) (by omega)); have Q7 := Lib.hid ((M5.out.mfree.below (al1 w5 _) z5).kept h6 (by simp; omega) (by omega)); have X7 := Lib.hid ((M5.out.box.below (al1 w5 _) (by omega)).kept h6 (by simp; omega) (by omega)); have Y7 := Lib.hid ((M5.out.free.below (al1 w5 _) (by omega)).kept h6 (by simp; omega) (by omega)); clear h5 h6 m0 m1 m2 mf k0 k1 k2 kf; obtain ⟨m0, m1, m2⟩ := P7.out; have mf := Q7.out; obtain ⟨k0, k1, k2⟩ := X7.out; have kf := Y7.out; unfold Free at mf kf)
    refine bodyPost_ret (v := .agg #[.int .i64 r', .int .i64 q', .slice A7 (zs.length + 1) c7]) (by simp [results, Tryd.results18, k0, k1, k2, go_sem]) rfl ?_
    have F := N7.out.fin (P := AnyP) gl ⟨by simp; omega, by omega, by omega, by omega, by omega⟩ (.int .i64 r') (.int .i64 q') (.slice A7 (zs.length + 1) c7)
    rw [show (zs ++ [(0 : Int)]).length = zs.length + 1 by simp] at F
    exact F
  · by_cases hpos : 0 < zs.length
    case neg =>
      have p2 : ¬ (0 : Int) < (zs.length : Int) := by omega
      go_wp2
      refine bodyPost_ret (v := .agg #[.int .i64 r', .int .i64 q', .slice R zs.length t]) (by simp [results, Tryd.results18, k0, k1, k2, go_sem]) rfl ?_
      exact M5.out.gen.fin gl ⟨by omega, by omega, by omega, by omega, by omega⟩ _ _ _
    have p2 : (0 : Int) < (zs.length : Int) := by omega
    obtain ⟨gz, zz, rfl, o1, o2, _⟩ := M5.out.own.at_ (k := 0) hpos
    have o3 : w.heap.size < gz := by omega
    clear LO LB
    obtain ⟨⟨a6, x6, hs6⟩, hk6, _⟩ := M5.out
    go_wp2_with fail
    refine (next_spec g A n c bs (zs.length : Int) a6 x6 _ (BY.out _ hk6) hn hs6 (by omega) (by omega)).mono ?_
    rintro e w7 ⟨v, a7, x7, rfl, v0, v1, v2, hs7, hk7⟩
    have M7 := Lib.hid (M5.out.next gl hs7 hk7)
    have v3 : v < (zs.length : Int) := by
      by_cases h1 : 1 < (zs.length : Int)
      · exact v1 h1
      · rw [v2 (by omega)]; exact p2
    obtain ⟨j, rfl⟩ : ∃ j : Nat, v = j := ⟨v.toNat, by omega⟩
    have j1 : j < zs.length := by omega
    have z7 := M7.out.lt2
    clear hs6 hk6 hs7 hk7 v1 v2 v0 m0 m1 m2 mf k0 k1 k2 kf
    obtain ⟨m0, m1, m2⟩ := M7.out.mbox
    have BT := Lib.hid (fun (W : World) => show Blk (W.alloc (Obj.cells #[.int .i64 1000000000000, .int .i64 1000000000001, .int .i64 (-1000000000000), .int .i64 (-1000000000001), .int .i64 (-9223372036854775808)] 2)) W.heap.size [1000000000000, 1000000000001, -1000000000000, -1000000000001, -9223372036854775808] from Blk.new W [1000000000000, 1000000000001, -1000000000000, -1000000000001, -9223372036854775808])
    have SA := Lib.hid ((M7.out.alloc_ gl (Obj.cells #[.int .i64 1000000000000, .int .i64 1000000000001, .int .i64 (-1000000000000), .int .i64 (-1000000000001), .int .i64 (-9223372036854775808)] 2)).drew_)
    have SB := Lib.hid M7.out.drew_
    obtain ⟨⟨a8, x8, hs8⟩, hk8, _⟩ := M7.out
    have H8 := Lib.hid hs8.drewM
    have H9 := Lib.hid (hk8.drewN 1)
    have G8 := Lib.hid (hs8.below (al1 w7 (Obj.cells #[.int .i64 1000000000000, .int .i64 1000000000001, .int .i64 (-1000000000000), .int .i64 (-1000000000001), .int .i64 (-9223372036854775808)] 2)) (by omega)).drewM
    have G9 := Lib.hid ((hk8.belowM (al1 w7 (Obj.cells #[.int .i64 1000000000000, .int .i64 1000000000001, .int .i64 (-1000000000000), .int .i64 (-1000000000001), .int .i64 (-9223372036854775808)] 2)) (by omega)).drewN 1)
    clear hs8 hk8
    have ne1 : ¬ pb = gz := by omega
    have ne2 : ¬ gz = pb := by omega
    have j2 : (j : Int) < (zs.length : Int) := by omega
    have j0 : (0 : Int) ≤ (j : Int) := by omega
    go_wp2_with fail
    go_region_with
      ((go_at_call 29; refine (next_spec g A n c bs 5 a8 x8 _ (by first | exact BY.out _ H9.out | exact BY.out _ G9.out) hn (by first | exact H8.out | exact G8.out) (by omega) (by omega)).mono ?_; rintro e w8 ⟨v, a9, x9, rfl, v0, v1, -, hs9, hk9⟩; have v3 := v1 (by omega); obtain ⟨vn, rfl⟩ : ∃ vn : Nat, v = vn := ⟨v.toNat, by omega⟩; (first | (have M8 := Lib.hid (SB.out.next gl hs9 hk9); have N8 := Lib.hid (fun u5 => (M8.out.store gl o3 o2 j u5).alloc_ gl (Obj.cells #[.int .i64 1000000000000, .int .i64 1000000000001, .int .i64 (-1000000000000), .int .i64 (-1000000000001), .int .i64 (-9223372036854775808)] 2)); have hcell := (BT.out w8).cell (i := vn) (by simp; omega); have z8 := M8.out.lt2; have y8 : gz < w8.heap.size := (by omega)) | (have M8 := Lib.hid (SA.out.next gl hs9 hk9); have N8 := Lib.hid (fun u5 => M8.out.store gl o3 o2 j u5); have B8 : Blk w8 w7.heap.size [1000000000000, 1000000000001, -1000000000000, -1000000000001, -9223372036854775808] := (hk9.block _ (BT.out w7).lt (by omega)).trans (BT.out w7); have hcell := B8.cell (i := vn) (by simp; omega); clear B8)); obtain ⟨u5, hu5⟩ : ∃ u5, ([1000000000000, 1000000000001, -1000000000000, -1000000000001, -9223372036854775808] : List Int).getD vn 0 = u5 := ⟨_, rfl⟩; rw [hu5] at hcell; have hm8 := M8.out.mbox.2.2; obtain ⟨gz2, z2, hgz, _, _, _, c6, f6⟩ := M8.out.own.at_ (k := j) j1; (injection hgz with hgz; injection hgz with hgz; subst hgz); clear hs9 hk9 v1 hu5))
    all_goals
      have N8 := Lib.hid (N8.out u5)
      clear hm8 c6 f6 m0 m1 m2 hcell
      obtain ⟨m0, m1, m2⟩ := N8.out.mbox
      have mf := N8.out.mfree
      obtain ⟨k0, k1, k2⟩ := N8.out.box
      have kf := N8.out.free
      unfold Free at mf kf
      rw [List.length_set] at m2
      go_wp2
      refine bodyPost_ret (v := .agg #[.int .i64 r', .int .i64 q', .slice (some ⟨gz, 0, none⟩) zs.length t]) (by simp [results, Tryd.results18, k0, k1, k2, go_sem]) rfl ?_
      have F := N8.out.gen.fin (P := AnyP) gl ⟨by rw [List.length_set]; omega, by omega, by omega, by omega, by omega⟩ (.int .i64 r') (.int .i64 q') (.slice (some ⟨gz, 0, none⟩) zs.length t)
      rw [List.length_set] at F
      exact F
  · have BL := Lib.hid (show Blk (w5.alloc (Obj.cells #[.int .i64 48, .int .i64 49, .int .i64 (-1)] 2)) w5.heap.size [48, 49, -1] from Blk.new w5 [48, 49, -1])
    have Sa := Lib.hid (M5.out.alloc_ gl (Obj.cells #[.int .i64 48, .int .i64 49, .int .i64 (-1)] 2))
    obtain ⟨⟨a1, x1, hs1⟩, hk1, _⟩ := Sa.out
    go_wp2_with fail
    refine (next_spec g A n c bs 3 a1 x1 _ (BY.out _ hk1) hn hs1 (by omega) (by omega)).mono ?_
    rintro e w9 ⟨v, a9, x9, rfl, v0, v1, -, hs9, hk9⟩
    have v3 := v1 (by omega)
    have M9 := Lib.hid (Sa.out.next gl hs9 hk9)
    have B9 : Blk w9 w5.heap.size [48, 49, -1] := (hk9.block _ BL.out.lt (by omega)).trans BL.out
    obtain ⟨vn, rfl⟩ : ∃ vn : Nat, v = vn := ⟨v.toNat, by omega⟩
    have hcell := B9.cell (i := vn) (by simp; omega)
    obtain ⟨u5, hu5⟩ : ∃ u5, ([48, 49, -1] : List Int).getD vn 0 = u5 := ⟨_, rfl⟩
    have u50 : -100 ≤ u5 ∧ u5 ≤ 100 := by
      rw [← hu5]
      rcases (show vn = 0 ∨ vn = 1 ∨ vn = 2 by omega) with rfl | rfl | rfl <;> simp
    rw [hu5] at hcell
    clear hs1 hk1 hs9 hk9 v1 hu5 B9 BL Sa m0 m1 m2 mf k0 k1 k2 kf
    obtain ⟨m0, m1, m2⟩ := M9.out.mbox
    have mf := M9.out.mfree
    obtain ⟨k0, k1, k2⟩ := M9.out.box
    have kf := M9.out.free
    unfold Free at mf kf
    have N9 := Lib.hid (M9.out.reset gl u5)
    go_wp2
    refine bodyPost_ret (v := .agg #[.int .i64 0, .int .i64 u5, .slice none 0 0]) (by simp [results, Tryd.results18, k0, k1, k2, go_sem]) rfl ?_
    exact N9.out.fin (P := AnyP) gl ⟨by simp, by omega, by omega, u50.1, u50.2⟩ _ _ _
  · go_wp2
    refine bodyPost_ret (v := .agg #[.int .i64 r', .int .i64 q', .slice R zs.length t]) (by simp [results, Tryd.results18, k0, k1, k2, go_sem]) rfl ?_
    exact M5.out.gen.fin gl ⟨by omega, by omega, by omega, by omega, by omega⟩ _ _ _
end Go.Proofs.YtboanggdehceaaaDoor
