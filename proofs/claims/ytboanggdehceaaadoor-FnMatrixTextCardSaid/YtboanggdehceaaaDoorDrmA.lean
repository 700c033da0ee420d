/- The specification's draws of matrices. No condition but those that each theorem names. -/
import Derived.Test.YtboanggdehceaaaDoorDrwA
import Derived.Test.YtboanggdehceaaaDoorPrsD
import Derived.Deep.RegionHeld3
namespace Go.Proofs.YtboanggdehceaaaDoor
open Go.RowKit

theorem Src.farM {w : World} {g : Nat} {A : Option Addr} {n c : Nat} {a x : Int} (h : Src w g A n c a x) {p : Addr} (hp : g ≠ p.block) (u : Value) : Src (w.setCell p u) g A n c a x := by
  obtain ⟨⟨b0, b1, b2⟩, hf, r⟩ := h
  exact ⟨⟨by rw [World.cell?_setCell_other w _ _ _ (fun e => hp (by rw [e]))]; exact b0, by rw [World.cell?_setCell_other w _ _ _ (fun e => hp (by rw [e]))]; exact b1, by rw [World.cell?_setCell_other w _ _ _ (fun e => hp (by rw [e]))]; exact b2⟩, hf.set_ _ _, r⟩
theorem Src.drewM {w : World} {g : Nat} {A : Option Addr} {n c : Nat} {a x : Int} (h : Src w g A n c a x) : Src w.drew g A n c a x := ⟨⟨h.1.1, h.1.2.1, h.1.2.2⟩, h.2.1, h.2.2⟩
theorem Kept.setNewM {w W : World} {g : Nat} (h : Kept g (g + 1) w W) {p : Addr} (hp : w.heap.size ≤ p.block) (u : Value) : Kept g (g + 1) w (W.setCell p u) :=
  ⟨h.os, h.tape, h.output, by have := h.size; simp [World.setCell]; omega, fun k hk hn => (Below.heap_setCell W p u k (by omega)).trans (h.block k hk hn)⟩
theorem Kept.belowM {w W W' : World} {g B : Nat} (h : Kept g (g + 1) w W) (hb : Below B W W') (hB : w.heap.size ≤ B) : Kept g (g + 1) w W' :=
  ⟨hb.os.trans h.os, hb.tape.trans h.tape, hb.output.trans h.output, Nat.le_trans h.size hb.size, fun k h1 h2 => (hb.block k (by omega)).trans (h.block k h1 h2)⟩

/-- A matrix that is being drawn: the source, the result's box, the matrix' box and its list. -/
structure MSt (w : World) (g : Nat) (A : Option Addr) (n c pb : Nat) (r q : Int) (R : Option Addr) (t : Nat) (zs : List Int) (W : World) : Prop where
  src : ∃ a x, Src W g A n c a x
  kept : Kept g (g + 1) w W
  box : Box3 W w.heap.size (.int .i64 0) (.int .i64 0) (.slice none 0 0)
  free : Free W w.heap.size
  own : Own W (w.heap.size + 1) pb R zs.length t zs
  mbox : Box3 W pb (.int .i64 r) (.int .i64 q) (.slice R zs.length t)
  mfree : Free W pb
  lt : w.heap.size < pb
  lt2 : pb < W.heap.size
section
variable {w W W' : World} {g : Nat} {A : Option Addr} {n c pb : Nat} {r q : Int} {R : Option Addr} {t : Nat} {zs : List Int}
theorem MSt.next {a x : Int} (h : MSt w g A n c pb r q R t zs W) (hg : g < w.heap.size) (hs : Src W' g A n c a x) (hk : Kept g (g + 1) W W') : MSt w g A n c pb r q R t zs W' := by
  obtain ⟨_, h2, h3, h4, h5, h6, h7, h8, h9⟩ := h
  exact ⟨⟨a, x, hs⟩, h2.trans hk, h3.kept hk (by omega) (by omega), h4.kept hk (by omega) (by omega), h5.kept hk (by omega) (.inr (by omega)), h6.kept hk h9 (by omega), h7.kept hk h9 (by omega), h8, Nat.lt_of_lt_of_le h9 hk.size⟩
theorem MSt.put {gz : Nat} (h : MSt w g A n c pb r q (some ⟨gz, 0, none⟩) t zs W) (hg : g < w.heap.size) (h1 : w.heap.size < gz) (h2 : gz < pb) (i : Nat) (u : Int) : MSt w g A n c pb r q (some ⟨gz, 0, none⟩) t (zs.set i u) (W.setCell ⟨gz, i, none⟩ (.int .i64 u)) := by
  obtain ⟨⟨a, x, h0⟩, h3, h4, h5, h6, h7, h8, h9, h10⟩ := h
  refine ⟨⟨a, x, h0.farM (by dsimp only; omega) _⟩, h3.setNewM (by dsimp only; omega) _, h4.far (by dsimp only; omega) _, h5.set_ _ _, ?_, ?_, h8.set_ _ _, h9, by simp [World.setCell]; exact h10⟩
  · rw [List.length_set]; exact h6.set_ i u
  · rw [List.length_set]; exact h7.far (by dsimp only; omega) _
end
/-- A matrix that was drawn, its list in new memory, and the source behind it. -/
def DrawnM (w : World) (g : Nat) (A : Option Addr) (n c : Nat) (P : Int → Int → List Int → Prop) (e : Ending) (w' : World) : Prop :=
  ∃ r q R t zs a x, P r q zs ∧ e = .returned (.agg #[.int .i64 r, .int .i64 q, .slice R zs.length t]) ∧ Own w' w.heap.size w'.heap.size R zs.length t zs ∧ Src w' g A n c a x ∧ Kept g (g + 1) w w'
theorem MSt.fin {w W : World} {g : Nat} {A : Option Addr} {n c pb : Nat} {r q : Int} {R : Option Addr} {t : Nat} {zs : List Int} {P : Int → Int → List Int → Prop} (h : MSt w g A n c pb r q R t zs W) (hg : g < w.heap.size) (hP : P r q zs) (u0 u1 u2 : Value) :
    DrawnM w g A n c P (.returned (.agg #[.int .i64 r, .int .i64 q, .slice R zs.length t])) (((W.setCell ⟨w.heap.size, 0, none⟩ u0).setCell ⟨w.heap.size, 1, none⟩ u1).setCell ⟨w.heap.size, 2, none⟩ u2) := by
  obtain ⟨⟨a, x, h0⟩, h3, h4, h5, h6, h7, h8, h9, h10⟩ := h
  refine ⟨r, q, R, t, zs, a, x, hP, rfl, ?_, ((h0.farM (by dsimp only; omega) _).farM (by dsimp only; omega) _).farM (by dsimp only; omega) _, ((h3.setNewM (Nat.le_refl _) _).setNewM (Nat.le_refl _) _).setNewM (Nat.le_refl _) _⟩
  exact (((h6.far (p := ⟨w.heap.size, 0, none⟩) (.inl (by dsimp only; omega)) _).far (p := ⟨w.heap.size, 1, none⟩) (.inl (by dsimp only; omega)) _).far (p := ⟨w.heap.size, 2, none⟩) (.inl (by dsimp only; omega)) _).wide (by omega) (by simp [World.setCell]; omega)
/-- What a matrix of a given size is drawn to. -/
def SizeP (r q : Int) (r' q' : Int) (zs : List Int) : Prop := r' = r ∧ q' = q ∧ (zs.length : Int) = r * q ∧ ∀ i, -6 ≤ zs.getD i 0 ∧ zs.getD i 0 ≤ 6
theorem getD_set_le {zs : List Int} {k : Nat} {v : Int} (h : ∀ i, -6 ≤ zs.getD i 0 ∧ zs.getD i 0 ≤ 6) (h0 : -6 ≤ v) (h1 : v ≤ 6) (i : Nat) : -6 ≤ (zs.set k v).getD i 0 ∧ (zs.set k v).getD i 0 ≤ 6 := by
  rw [List.getD_eq_getElem?_getD, List.getElem?_set]
  by_cases e : k = i
  · subst e
    by_cases hl : k < zs.length
    · simp [hl, h0, h1]
    · simp [hl]
  · rw [if_neg e, ← List.getD_eq_getElem?_getD]; exact h i
theorem rep_le (N i : Nat) : -6 ≤ (List.replicate N (0 : Int)).getD i 0 ∧ (List.replicate N (0 : Int)).getD i 0 ≤ 6 := by
  rw [List.getD_eq_getElem?_getD, List.getElem?_replicate]
  split <;> simp

set_option maxRecDepth 100000 in
set_option maxHeartbeats 16000000 in
theorem drawSize_spec (g : Nat) (A : Option Addr) (n c : Nat) (bs : List Int) (a x r q : Int) (w : World) (h : Bys w g A n bs) (hn : n ≤ 1048576) (hs : Src w g A n c a x) (r0 : 0 ≤ r) (r1 : r ≤ 48) (q0 : 0 ≤ q) (q1 : q ≤ 48) :
    Calls Tryd.prog 38 #[.pointer (some ⟨g, 0, none⟩), .int .i64 r, .int .i64 q] w (DrawnM w g A n c (SizeP r q)) := by
  have gl := hs.lt
  obtain ⟨N, hN⟩ : ∃ N : Nat, r * q = N := ⟨(r * q).toNat, by have := rq_lo r0 q0; omega⟩
  have N1 : N ≤ 2304 := by have := rq_hi r0 r1 q0 q1; omega
  have HN := Lib.hid hN
  have p0 := rq_lo r0 q0
  have p1 := rq_hi r0 r1 q0 q1
  clear hN
  have BY := Lib.hid (fun (W : World) (hk : Kept g (g + 1) w W) => h.kept hk (Nat.le_refl _) (by omega))
  have S0 := Lib.hid (hs.below (al1 w (Obj.cells #[.int .i64 0, .int .i64 0, .slice none 0 0] 26)) gl)
  have K0 := Lib.hid (Kept.of_below (al1 w (Obj.cells #[.int .i64 0, .int .i64 0, .slice none 0 0] 26)) g (g + 1))
  have B0 := Lib.hid (Box3.new w 26 (.int .i64 0) (.int .i64 0) (.slice none 0 0))
  have F0 := Lib.hid (Free.new w 26 #[.int .i64 0, .int .i64 0, .slice none 0 0])
  have s0 : w.heap.size < (w.alloc (Obj.cells #[.int .i64 0, .int .i64 0, .slice none 0 0] 26)).heap.size := by simp
  clear h hs
  go_enter Tryd.func38, Tryd.ntmps38
  go_wp2_with fail
  refine (zero_spec r q N _ p0 (by omega) HN.out).mono ?_
  rintro e w1 ⟨gz, rfl, hz, hg1, hg2, hb⟩
  have hg1' : w.heap.size < gz := by simp at hg1; omega
  have s1 : w.heap.size < w1.heap.size := by omega
  have ln : (List.replicate N (0 : Int)).length = N := List.length_replicate
  have S1 := Lib.hid (show MSt w g A n c w1.heap.size r q (some ⟨gz, 0, none⟩) N (List.replicate N 0) (w1.alloc (Obj.cells #[.int .i64 r, .int .i64 q, .slice (some ⟨gz, 0, none⟩) N N] 26)) from
    ⟨⟨a, x, (S0.out.below hb (by simp; omega)).below (al1 w1 _) (by omega)⟩, (K0.out.belowM hb (by simp)).belowM (al1 w1 _) (by omega), (B0.out.below hb (by simp)).below (al1 w1 _) s1, (F0.out.below hb (by simp)).below (al1 w1 _) s1,
      by rw [ln]; exact (Own.of_blk (hz.alloc _) (by omega) hg2 ln (by unfold maxLen; omega)), by rw [ln]; exact Box3.new w1 _ _ _ _, Free.new w1 _ _, s1, by simp⟩)
  obtain ⟨pb, hpb⟩ : ∃ pb, w1.heap.size = pb := ⟨_, rfl⟩
  rw [hpb] at S1 hg2 s1
  clear hz hb S0 K0 B0 F0 s0 hg1 ln
  go_wp2_with fail
  (try rw [hpb])
  obtain ⟨⟨a1, x1, hs1⟩, hk1, _, _, _, _, _, _, _⟩ := S1.out
  refine (next_spec g A n c bs 6 a1 x1 _ (BY.out _ hk1) hn hs1 (by omega) (by omega)).mono ?_
  rintro e w2 ⟨v2, a2, x2, rfl, v20, v21, -, hs2, hk2⟩
  have S2 := Lib.hid (S1.out.next gl hs2 hk2)
  have v22 := v21 (by omega)
  clear hs1 hk1 hs2 hk2 S1 v21
  have ws1 : IntKind.i64.wrap (1 + v2) = 1 + v2 := IntWalk.i64_in _ (by omega)
  obtain ⟨wd, hwd⟩ : ∃ wd, 1 + v2 = wd := ⟨_, rfl⟩
  have wd0 : 1 ≤ wd := by omega
  have wd1 : wd ≤ 6 := by omega
  rw [hwd] at ws1
  have E0 := Lib.hid (show ∀ i, -6 ≤ (List.replicate N (0 : Int)).getD i 0 ∧ (List.replicate N (0 : Int)).getD i 0 ≤ 6 from rep_le N)
  go_wp2_with fail
  (try rw [hwd])
  go_loopw [9] (fun y W => ∃ (i : Nat) (zs : List Int), y = .int .i64 i ∧ i ≤ N ∧ zs.length = N ∧ (∀ i, -6 ≤ zs.getD i 0 ∧ zs.getD i 0 ≤ 6) ∧ MSt w g A n c pb r q (some ⟨gz, 0, none⟩) N zs W) (fun y _ => N - (intOf y).toNat)
  case atStart => exact ⟨0, _, rfl, by omega, List.length_replicate, E0.out, S2.out⟩
  case round =>
    obtain ⟨i, zs, rfl, hi, hzl, hze, hst⟩ := hrel
    have ZE := Lib.hid hze
    have ZL := Lib.hid hzl
    have S3 := Lib.hid hst
    clear hze hst E0 S2
    have i0 : (0 : Int) ≤ (i : Int) := by omega
    obtain ⟨⟨a1, x1, hs1⟩, hk1, _, _, hown, hmb, _, _, _⟩ := S3.out
    obtain ⟨m0, m1, m2⟩ := hmb
    rw [hzl] at m2
    clear hzl
    by_cases hlt : i < N
    · have t0 : (i : Int) < (N : Int) := by omega
      go_wp2_with fail
      refine (next_spec g A n c bs 3 a1 x1 _ (BY.out _ hk1) hn hs1 (by omega) (by omega)).mono ?_
      rintro e w4 ⟨v, a4, x4, rfl, v0, v1, -, hs4, hk4⟩
      have v3 := v1 (by omega)
      have S4 := Lib.hid (S3.out.next gl hs4 hk4)
      clear hs1 hk1 hs4 hk4 v1 hown m0 m1 m2
      by_cases hv : 0 < v
      · obtain ⟨⟨a1, x1, hs1⟩, hk1, _, _, hown, hmb, _, _, _⟩ := S4.out
        obtain ⟨m0, m1, m2⟩ := hmb
        rw [ZL.out] at m2
        have SR := Lib.hid hs1
        have KR := Lib.hid hk1
        clear hs1 hk1 hown
        have ws2 : IntKind.i64.wrap (2 * wd) = 2 * wd := IntWalk.i64_in _ (by omega)
        have ws3 : IntKind.i64.wrap (2 * wd + 1) = 2 * wd + 1 := IntWalk.i64_in _ (by omega)
        have t1 : (i : Int) < (N : Int) := by omega
        have ne1 : ¬ pb = gz := by omega
        have ne2 : ¬ gz = pb := by omega
        go_wp2_with fail
        go_region_held3 (fun W => W.cell? ⟨pb, 2, none⟩ = some (.slice (some ⟨gz, 0, none⟩) N N)) (go_keep)
          ((go_at_call 29; refine (next_spec g A n c bs (2 * wd + 1) a1 x1 _ (by exact BY.out _ (KR.out.drewN 1)) hn (by exact SR.out.drewM) (by omega) (by omega)).mono ?_; rintro e w6 ⟨u, a6, x6, rfl, u0, u1, -, hs6, hk6⟩; have u3 := u1 (by omega); have S6 := Lib.hid (S4.out.next gl hs6 ⟨hk6.os, hk6.tape, hk6.output, hk6.size, hk6.block⟩); have hm6 := S6.out.mbox.2.2; rw [ZL.out] at hm6; obtain ⟨gz2, z2, hgz, _, _, _, c6, f6⟩ := S6.out.own.at_ (k := i) (by rw [ZL.out]; exact hlt); (injection hgz with hgz; injection hgz with hgz; subst hgz); have ws4 : IntKind.i64.wrap (u - wd) = u - wd := IntWalk.i64_in _ (by omega); clear hs6 hk6 u1))
        all_goals
          have S7 := Lib.hid (S6.out.put gl hg1' hg2 i (u - wd))
          have Z7 := Lib.hid (fun j => getD_set_le (k := i) (v := u - wd) ZE.out (by omega) (by omega) j)
          clear hm6 c6 f6 m0 m1 m2
          go_wp2
          go_roundw
          case rel => exact ⟨i + 1, zs.set i (u - wd), by go_num, by omega, by rw [List.length_set]; exact ZL.out, Z7.out, S7.out⟩
          case measure => simp [intOf]; omega
      · obtain ⟨_, _, _, _, _, hmb, _, _, _⟩ := S4.out
        obtain ⟨m0, m1, m2⟩ := hmb
        rw [ZL.out] at m2
        go_wp2
        go_roundw
        case rel => exact ⟨i + 1, zs, by go_num, by omega, ZL.out, ZE.out, S4.out⟩
        case measure => simp [intOf]; omega
    · have t0 : ¬ (i : Int) < (N : Int) := by omega
      have hb0 := S3.out.box
      have hf0 := S3.out.free
      obtain ⟨k0, k1, k2⟩ := hb0
      unfold Free at hf0
      have ne3 : ¬ pb = w.heap.size := by omega
      have ne4 : ¬ w.heap.size = pb := by omega
      clear hs1 hk1 hown
      go_wp2
      refine bodyPost_ret (v := .agg #[.int .i64 r, .int .i64 q, .slice (some ⟨gz, 0, none⟩) N N]) (by simp [results, Tryd.results38, k0, k1, k2, go_sem]) rfl ?_
      have F := S3.out.fin (P := SizeP r q) gl ⟨rfl, rfl, by rw [ZL.out]; exact HN.out.symm, ZE.out⟩ (.int .i64 r) (.int .i64 q) (.slice (some ⟨gz, 0, none⟩) N N)
      rw [ZL.out] at F
      exact F
end Go.Proofs.YtboanggdehceaaaDoor
