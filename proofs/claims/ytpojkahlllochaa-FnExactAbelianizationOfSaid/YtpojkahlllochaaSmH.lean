/- Contracts of the functions that take a row or a column of a matrix as a line, and of the steps on one matrix, the program's. No condition but those that each theorem names. -/
import Derived.Test.YtpojkahlllochaaSmG
import Derived.Laws.EntriesVeiled
import Derived.Deep.RegionHeld3
namespace Go.Proofs.Ytpojkahlllochaa
open Go.RowKit

set_option maxHeartbeats 1000000 in
theorem rowLine_impl (R C i g n c : Nat) (w : World) (hi : i < R) (hC0 : 0 < C) (hR : R ≤ 48) (hC : C ≤ 48) (hn : n = R * C) (hc : n ≤ c) (hcm : c ≤ maxLen) :
    Calls Try.prog 160 #[.agg #[.int .i64 R, .int .i64 C, .slice (some ⟨g, 0, none⟩) n c], .int .i64 i] w fun e w' => e = .returned (.agg #[.slice (some ⟨g, i * C, none⟩) C (c - i * C), .int .i64 1]) ∧ Below w.heap.size w w' := by
  unfold maxLen at hcm
  have h1 : (i + 1) * C ≤ R * C := Nat.mul_le_mul_right C hi
  have h2 := rc_le hR hC
  have h3 : (i + 1) * C = i * C + C := by rw [Nat.add_mul, Nat.one_mul]
  obtain ⟨p, hp⟩ : ∃ p, i * C = p := ⟨_, rfl⟩
  have e1 : (i : Int) * (C : Int) = (p : Int) := by rw [castM, hp]
  have e2 : ((i : Int) + 1) * (C : Int) = (p : Int) + (C : Int) := by rw [Int.add_mul, e1, Int.one_mul]
  rw [hp] at h3 ⊢
  have q1 : p + C ≤ n := by omega
  have q2 : p < c := by omega
  have q3 : p + C ≤ c := by omega
  have q4 : n ≤ 2304 := by omega
  have E1 := Lib.hid e1
  have E2 := Lib.hid e2
  have i0 : (0 : Int) ≤ (i : Int) * (C : Int) := by omega
  have i1 : (i : Int) * (C : Int) ≤ 2304 := by omega
  have i2 : (0 : Int) ≤ ((i : Int) + 1) * (C : Int) := by omega
  have i3 : ((i : Int) + 1) * (C : Int) ≤ 2304 := by omega
  clear h1 h3 hp hn
  go_enter Try.func160, Try.ntmps160
  go_wp2
  exact bodyPost_ret (v := .agg #[.slice (some ⟨g, p, none⟩) C (c - p), .int .i64 1]) (by simp [results, Try.results160, go_sem]) rfl ⟨rfl, al2 _ _ _⟩

set_option maxHeartbeats 1000000 in
theorem colLine_impl (R C j g n c : Nat) (w : World) (hj : j < C) (hR0 : 0 < R) (hR : R ≤ 48) (hC : C ≤ 48) (hn : n = R * C) (hc : n ≤ c) (hcm : c ≤ maxLen) :
    Calls Try.prog 162 #[.agg #[.int .i64 R, .int .i64 C, .slice (some ⟨g, 0, none⟩) n c], .int .i64 j] w fun e w' => e = .returned (.agg #[.slice (some ⟨g, j, none⟩) (n - j) (c - j), .int .i64 C]) ∧ Below w.heap.size w w' := by
  unfold maxLen at hcm
  have h1 : 1 * C ≤ R * C := Nat.mul_le_mul_right C hR0
  have h2 := rc_le hR hC
  have q1 : j < n := by omega
  have q2 : j < c := by omega
  have q4 : n ≤ 2304 := by omega
  have e0 : (0 : Int) ≤ (j : Int) := by omega
  have e1 : (j : Int) < (n : Int) := by omega
  have e2 : (j : Int) < (c : Int) := by omega
  have e3 : (j : Int) ≤ (n : Int) := by omega
  have e4 : (n : Int) ≤ (c : Int) := by omega
  clear h1 hn
  go_enter Try.func162, Try.ntmps162
  go_wp2
  go_region
  all_goals
    go_wp2
    exact bodyPost_ret (v := .agg #[.slice (some ⟨g, j, none⟩) (n - j) (c - j), .int .i64 C]) (by simp [results, Try.results162, go_sem]) rfl ⟨rfl, (al2 _ _ _).drew⟩

def Box4 (w : World) (g : Nat) (x y z u : Value) : Prop := w.cell? ⟨g, 0, none⟩ = some x ∧ w.cell? ⟨g, 1, none⟩ = some y ∧ w.cell? ⟨g, 2, none⟩ = some z ∧ w.cell? ⟨g, 3, none⟩ = some u
theorem Box4.below {w w' : World} {g : Nat} {x y z u : Value} {B : Nat} (h : Box4 w g x y z u) (hb : Below B w w') (hg : g < B) : Box4 w' g x y z u :=
  ⟨(hb.cell (p := ⟨g, 0, none⟩) hg).trans h.1, (hb.cell (p := ⟨g, 1, none⟩) hg).trans h.2.1, (hb.cell (p := ⟨g, 2, none⟩) hg).trans h.2.2.1, (hb.cell (p := ⟨g, 3, none⟩) hg).trans h.2.2.2⟩
theorem Box4.new (w : World) (t : TypeId) (x y z u : Value) : Box4 (w.alloc (.cells #[x, y, z, u] t)) w.heap.size x y z u := by
  refine ⟨?_, ?_, ?_, ?_⟩ <;> simp [go_sem]

set_option maxHeartbeats 1000000 in
theorem inverse_impl (f : FuncId) (t s : Int) (q : Int) (w : World) (hq : -4000000000000 ≤ q ∧ q ≤ 4000000000000) :
    Calls Try.prog 161 #[.agg #[.func (.func f) #[] #[], .int .i64 t, .int .i64 s, .int .i64 q]] w fun e w' => e = .returned (.agg #[.func (.func f) #[] #[], .int .i64 s, .int .i64 t, .int .i64 (-q)]) ∧ Below w.heap.size w w' := by
  obtain ⟨q0, q1⟩ := hq
  go_enter Try.func161, Try.ntmps161
  go_wp2
  exact bodyPost_ret (v := .agg #[.func (.func f) #[] #[], .int .i64 s, .int .i64 t, .int .i64 (-q)]) (by simp [results, Try.results161, go_sem]) rfl ⟨rfl, al2 _ _ _⟩


theorem Box4.kept {w w' : World} {lo hi g : Nat} {x y z u : Value} (h : Box4 w g x y z u) (hk : Kept lo hi w w') (hg : g < w.heap.size) (hn : ¬ (lo ≤ g ∧ g < hi)) : Box4 w' g x y z u :=
  ⟨(World.cell?_of_block (a := ⟨g, 0, none⟩) (hk.block g hg hn)).trans h.1, (World.cell?_of_block (a := ⟨g, 1, none⟩) (hk.block g hg hn)).trans h.2.1, (World.cell?_of_block (a := ⟨g, 2, none⟩) (hk.block g hg hn)).trans h.2.2.1, (World.cell?_of_block (a := ⟨g, 3, none⟩) (hk.block g hg hn)).trans h.2.2.2⟩
/-- The answer's bool, and what else it says, for whatever earlier world. -/
theorem LineSays.split {lo hi g n c : Nat} {w w' : World} {o : Option (List Int)} {e : Ending} (h : LineSays lo hi g n c w o e w') :
    ∃ b : Bool, e = .returned (.bool b) ∧ (∀ w0 : World, Kept lo hi w0 w' → LineSays lo hi g n c w0 o (.returned (.bool b)) w') ∧ Kept lo hi w w' := by
  cases o with
  | none => exact ⟨false, h.1, fun w0 hk => ⟨rfl, hk⟩, h.2⟩
  | some l => exact ⟨true, h.1, fun w0 hk => ⟨rfl, h.2.1, hk⟩, h.2.2⟩

set_option maxHeartbeats 2000000 in
theorem rows_ex (R C t s g n c lo hi : Nat) (q : Int) (l : List Int) (o : Option (List Int)) (w : World) (ht : t < R) (hs : s < R) (_hR0 : 0 < R) (hC0 : 0 < C) (hR : R ≤ 48) (hC : C ≤ 48) (hn : n = R * C) (hc : n ≤ c) (hcm : c ≤ maxLen)
    (h : Own w lo hi (some ⟨g, 0, none⟩) n c l) (hhi : hi ≤ w.heap.size)
    (hf : ∀ W, Own W lo hi (some ⟨g, 0, none⟩) n c l → hi ≤ W.heap.size → Calls Try.prog 142 #[.agg #[.slice (some ⟨g, t * C, none⟩) C (c - t * C), .int .i64 1], .agg #[.slice (some ⟨g, s * C, none⟩) C (c - s * C), .int .i64 1], .int .i64 q] W (LineSays lo hi g n c W o)) :
    Calls Try.prog 153 #[.agg #[.int .i64 R, .int .i64 C, .slice (some ⟨g, 0, none⟩) n c], .agg #[.func (.func 142) #[] #[], .int .i64 t, .int .i64 s, .int .i64 q]] w (LineSays lo hi g n c w o) := by
  have HN := Lib.hid hn
  have HF := Lib.hid hf
  have H := Lib.hid (h.al hhi (al2 w (Obj.cells #[.int .i64 R, .int .i64 C, .slice (some ⟨g, 0, none⟩) n c] 77) (Obj.cells #[.func (.func 142) #[] #[], .int .i64 t, .int .i64 s, .int .i64 q] 150)))
  have X0 := Lib.hid ((Box3.new w 77 (.int .i64 R) (.int .i64 C) (.slice (some ⟨g, 0, none⟩) n c)).below (al1 _ (Obj.cells #[.func (.func 142) #[] #[], .int .i64 t, .int .i64 s, .int .i64 q] 150)) (by simp))
  have Y0 := Lib.hid (Box4.new (w.alloc (Obj.cells #[.int .i64 R, .int .i64 C, .slice (some ⟨g, 0, none⟩) n c] 77)) 150 (.func (.func 142) #[] #[]) (.int .i64 t) (.int .i64 s) (.int .i64 q))
  have HB0 := Lib.hid (Kept.of_below (al2 w (Obj.cells #[.int .i64 R, .int .i64 C, .slice (some ⟨g, 0, none⟩) n c] 77) (Obj.cells #[.func (.func 142) #[] #[], .int .i64 t, .int .i64 s, .int .i64 q] 150)) lo hi)
  clear h hf hn
  simp only [World.size_alloc] at Y0
  go_enter Try.func153, Try.ntmps153
  go_wp2
  obtain ⟨W0, hW0⟩ : ∃ W0, W0 = ((w.alloc (Obj.cells #[.int .i64 R, .int .i64 C, .slice (some ⟨g, 0, none⟩) n c] 77)).alloc (Obj.cells #[.func (.func 142) #[] #[], .int .i64 t, .int .i64 s, .int .i64 q] 150)) := ⟨_, rfl⟩
  have s0 : w.heap.size + 1 < W0.heap.size := by rw [hW0]; simp
  rw [← hW0] at X0 Y0 HB0 H
  rw [← hW0]
  clear hW0
  obtain ⟨k0, k1, k2⟩ := X0.out
  obtain ⟨l0, l1, l2, l3⟩ := Y0.out
  go_region_held3 (fun W => (W.cell? ⟨w.heap.size, 0, none⟩ = some (.int .i64 R) ∧ W.cell? ⟨w.heap.size, 1, none⟩ = some (.int .i64 C) ∧ W.cell? ⟨w.heap.size, 2, none⟩ = some (.slice (some ⟨g, 0, none⟩) n c)) ∧
      (W.cell? ⟨w.heap.size + 1, 0, none⟩ = some (.func (.func 142) #[] #[]) ∧ W.cell? ⟨w.heap.size + 1, 1, none⟩ = some (.int .i64 t) ∧ W.cell? ⟨w.heap.size + 1, 2, none⟩ = some (.int .i64 s) ∧ W.cell? ⟨w.heap.size + 1, 3, none⟩ = some (.int .i64 q))) (go_keep)
    (first
      | (go_at_call 160; (with_reducible refine (rowLine_impl R C _ g n c _ (by omega) hC0 hR hC HN.out hc hcm).mono ?_); rintro e w6 ⟨rfl, hb⟩; (first | (have B7 := Lib.hid (B6.out.trans (hb.mono B6.out.size)); have z7 := B7.out.size; obtain ⟨e0, e1, e2⟩ := X0.out.below B7.out (by omega); obtain ⟨e3, e4, e5, e6⟩ := Y0.out.below B7.out (by omega)) | (have B6 := Lib.hid (undrew hb); have z6 := B6.out.size; obtain ⟨f0, f1, f2⟩ := X0.out.below B6.out (by omega); obtain ⟨f3, f4, f5, f6⟩ := Y0.out.below B6.out (by omega))); clear hb)
      | (go_at_call 142; (with_reducible refine (HF.out _ (by exact H.out.below B7.out (by omega)) (by omega)).mono ?_); rintro e w8 hq; obtain ⟨b, rfl, ha, hk⟩ := LineSays.split hq; have A8 := Lib.hid ha; have K8 := Lib.hid hk; obtain ⟨g0, g1, g2⟩ := (X0.out.below B7.out (by omega)).kept hk (by omega) (by omega); obtain ⟨g3, g4, g5, g6⟩ := (Y0.out.below B7.out (by omega)).kept hk (by omega) (by omega); clear hq ha hk))
  go_wp2
  go_ret
  exact A8.out _ (HB0.out.trans ((Kept.of_below B7.out _ _).trans K8.out))
set_option maxHeartbeats 2000000 in
theorem rows_ne (R C t s g n c lo hi : Nat) (q : Int) (l : List Int) (o : Option (List Int)) (w : World) (ht : t < R) (hs : s < R) (_hR0 : 0 < R) (hC0 : 0 < C) (hR : R ≤ 48) (hC : C ≤ 48) (hn : n = R * C) (hc : n ≤ c) (hcm : c ≤ maxLen)
    (h : Own w lo hi (some ⟨g, 0, none⟩) n c l) (hhi : hi ≤ w.heap.size)
    (hf : ∀ W, Own W lo hi (some ⟨g, 0, none⟩) n c l → hi ≤ W.heap.size → Calls Try.prog 144 #[.agg #[.slice (some ⟨g, t * C, none⟩) C (c - t * C), .int .i64 1], .agg #[.slice (some ⟨g, s * C, none⟩) C (c - s * C), .int .i64 1], .int .i64 q] W (LineSays lo hi g n c W o)) :
    Calls Try.prog 153 #[.agg #[.int .i64 R, .int .i64 C, .slice (some ⟨g, 0, none⟩) n c], .agg #[.func (.func 144) #[] #[], .int .i64 t, .int .i64 s, .int .i64 q]] w (LineSays lo hi g n c w o) := by
  have HN := Lib.hid hn
  have HF := Lib.hid hf
  have H := Lib.hid (h.al hhi (al2 w (Obj.cells #[.int .i64 R, .int .i64 C, .slice (some ⟨g, 0, none⟩) n c] 77) (Obj.cells #[.func (.func 144) #[] #[], .int .i64 t, .int .i64 s, .int .i64 q] 150)))
  have X0 := Lib.hid ((Box3.new w 77 (.int .i64 R) (.int .i64 C) (.slice (some ⟨g, 0, none⟩) n c)).below (al1 _ (Obj.cells #[.func (.func 144) #[] #[], .int .i64 t, .int .i64 s, .int .i64 q] 150)) (by simp))
  have Y0 := Lib.hid (Box4.new (w.alloc (Obj.cells #[.int .i64 R, .int .i64 C, .slice (some ⟨g, 0, none⟩) n c] 77)) 150 (.func (.func 144) #[] #[]) (.int .i64 t) (.int .i64 s) (.int .i64 q))
  have HB0 := Lib.hid (Kept.of_below (al2 w (Obj.cells #[.int .i64 R, .int .i64 C, .slice (some ⟨g, 0, none⟩) n c] 77) (Obj.cells #[.func (.func 144) #[] #[], .int .i64 t, .int .i64 s, .int .i64 q] 150)) lo hi)
  clear h hf hn
  simp only [World.size_alloc] at Y0
  go_enter Try.func153, Try.ntmps153
  go_wp2
  obtain ⟨W0, hW0⟩ : ∃ W0, W0 = ((w.alloc (Obj.cells #[.int .i64 R, .int .i64 C, .slice (some ⟨g, 0, none⟩) n c] 77)).alloc (Obj.cells #[.func (.func 144) #[] #[], .int .i64 t, .int .i64 s, .int .i64 q] 150)) := ⟨_, rfl⟩
  have s0 : w.heap.size + 1 < W0.heap.size := by rw [hW0]; simp
  rw [← hW0] at X0 Y0 HB0 H
  rw [← hW0]
  clear hW0
  obtain ⟨k0, k1, k2⟩ := X0.out
  obtain ⟨l0, l1, l2, l3⟩ := Y0.out
  go_region_held3 (fun W => (W.cell? ⟨w.heap.size, 0, none⟩ = some (.int .i64 R) ∧ W.cell? ⟨w.heap.size, 1, none⟩ = some (.int .i64 C) ∧ W.cell? ⟨w.heap.size, 2, none⟩ = some (.slice (some ⟨g, 0, none⟩) n c)) ∧
      (W.cell? ⟨w.heap.size + 1, 0, none⟩ = some (.func (.func 144) #[] #[]) ∧ W.cell? ⟨w.heap.size + 1, 1, none⟩ = some (.int .i64 t) ∧ W.cell? ⟨w.heap.size + 1, 2, none⟩ = some (.int .i64 s) ∧ W.cell? ⟨w.heap.size + 1, 3, none⟩ = some (.int .i64 q))) (go_keep)
    (first
      | (go_at_call 160; (with_reducible refine (rowLine_impl R C _ g n c _ (by omega) hC0 hR hC HN.out hc hcm).mono ?_); rintro e w6 ⟨rfl, hb⟩; (first | (have B7 := Lib.hid (B6.out.trans (hb.mono B6.out.size)); have z7 := B7.out.size; obtain ⟨e0, e1, e2⟩ := X0.out.below B7.out (by omega); obtain ⟨e3, e4, e5, e6⟩ := Y0.out.below B7.out (by omega)) | (have B6 := Lib.hid (undrew hb); have z6 := B6.out.size; obtain ⟨f0, f1, f2⟩ := X0.out.below B6.out (by omega); obtain ⟨f3, f4, f5, f6⟩ := Y0.out.below B6.out (by omega))); clear hb)
      | (go_at_call 144; (with_reducible refine (HF.out _ (by exact H.out.below B7.out (by omega)) (by omega)).mono ?_); rintro e w8 hq; obtain ⟨b, rfl, ha, hk⟩ := LineSays.split hq; have A8 := Lib.hid ha; have K8 := Lib.hid hk; obtain ⟨g0, g1, g2⟩ := (X0.out.below B7.out (by omega)).kept hk (by omega) (by omega); obtain ⟨g3, g4, g5, g6⟩ := (Y0.out.below B7.out (by omega)).kept hk (by omega) (by omega); clear hq ha hk))
  go_wp2
  go_ret
  exact A8.out _ (HB0.out.trans ((Kept.of_below B7.out _ _).trans K8.out))
set_option maxHeartbeats 2000000 in
theorem rows_su (R C t s g n c lo hi : Nat) (q : Int) (l : List Int) (o : Option (List Int)) (w : World) (ht : t < R) (hs : s < R) (_hR0 : 0 < R) (hC0 : 0 < C) (hR : R ≤ 48) (hC : C ≤ 48) (hn : n = R * C) (hc : n ≤ c) (hcm : c ≤ maxLen)
    (h : Own w lo hi (some ⟨g, 0, none⟩) n c l) (hhi : hi ≤ w.heap.size)
    (hf : ∀ W, Own W lo hi (some ⟨g, 0, none⟩) n c l → hi ≤ W.heap.size → Calls Try.prog 133 #[.agg #[.slice (some ⟨g, t * C, none⟩) C (c - t * C), .int .i64 1], .agg #[.slice (some ⟨g, s * C, none⟩) C (c - s * C), .int .i64 1], .int .i64 q] W (LineSays lo hi g n c W o)) :
    Calls Try.prog 153 #[.agg #[.int .i64 R, .int .i64 C, .slice (some ⟨g, 0, none⟩) n c], .agg #[.func (.func 133) #[] #[], .int .i64 t, .int .i64 s, .int .i64 q]] w (LineSays lo hi g n c w o) := by
  have HN := Lib.hid hn
  have HF := Lib.hid hf
  have H := Lib.hid (h.al hhi (al2 w (Obj.cells #[.int .i64 R, .int .i64 C, .slice (some ⟨g, 0, none⟩) n c] 77) (Obj.cells #[.func (.func 133) #[] #[], .int .i64 t, .int .i64 s, .int .i64 q] 150)))
  have X0 := Lib.hid ((Box3.new w 77 (.int .i64 R) (.int .i64 C) (.slice (some ⟨g, 0, none⟩) n c)).below (al1 _ (Obj.cells #[.func (.func 133) #[] #[], .int .i64 t, .int .i64 s, .int .i64 q] 150)) (by simp))
  have Y0 := Lib.hid (Box4.new (w.alloc (Obj.cells #[.int .i64 R, .int .i64 C, .slice (some ⟨g, 0, none⟩) n c] 77)) 150 (.func (.func 133) #[] #[]) (.int .i64 t) (.int .i64 s) (.int .i64 q))
  have HB0 := Lib.hid (Kept.of_below (al2 w (Obj.cells #[.int .i64 R, .int .i64 C, .slice (some ⟨g, 0, none⟩) n c] 77) (Obj.cells #[.func (.func 133) #[] #[], .int .i64 t, .int .i64 s, .int .i64 q] 150)) lo hi)
  clear h hf hn
  simp only [World.size_alloc] at Y0
  go_enter Try.func153, Try.ntmps153
  go_wp2
  obtain ⟨W0, hW0⟩ : ∃ W0, W0 = ((w.alloc (Obj.cells #[.int .i64 R, .int .i64 C, .slice (some ⟨g, 0, none⟩) n c] 77)).alloc (Obj.cells #[.func (.func 133) #[] #[], .int .i64 t, .int .i64 s, .int .i64 q] 150)) := ⟨_, rfl⟩
  have s0 : w.heap.size + 1 < W0.heap.size := by rw [hW0]; simp
  rw [← hW0] at X0 Y0 HB0 H
  rw [← hW0]
  clear hW0
  obtain ⟨k0, k1, k2⟩ := X0.out
  obtain ⟨l0, l1, l2, l3⟩ := Y0.out
  go_region_held3 (fun W => (W.cell? ⟨w.heap.size, 0, none⟩ = some (.int .i64 R) ∧ W.cell? ⟨w.heap.size, 1, none⟩ = some (.int .i64 C) ∧ W.cell? ⟨w.heap.size, 2, none⟩ = some (.slice (some ⟨g, 0, none⟩) n c)) ∧
      (W.cell? ⟨w.heap.size + 1, 0, none⟩ = some (.func (.func 133) #[] #[]) ∧ W.cell? ⟨w.heap.size + 1, 1, none⟩ = some (.int .i64 t) ∧ W.cell? ⟨w.heap.size + 1, 2, none⟩ = some (.int .i64 s) ∧ W.cell? ⟨w.heap.size + 1, 3, none⟩ = some (.int .i64 q))) (go_keep)
    (first
      | (go_at_call 160; (with_reducible refine (rowLine_impl R C _ g n c _ (by omega) hC0 hR hC HN.out hc hcm).mono ?_); rintro e w6 ⟨rfl, hb⟩; (first | (have B7 := Lib.hid (B6.out.trans (hb.mono B6.out.size)); have z7 := B7.out.size; obtain ⟨e0, e1, e2⟩ := X0.out.below B7.out (by omega); obtain ⟨e3, e4, e5, e6⟩ := Y0.out.below B7.out (by omega)) | (have B6 := Lib.hid (undrew hb); have z6 := B6.out.size; obtain ⟨f0, f1, f2⟩ := X0.out.below B6.out (by omega); obtain ⟨f3, f4, f5, f6⟩ := Y0.out.below B6.out (by omega))); clear hb)
      | (go_at_call 133; (with_reducible refine (HF.out _ (by exact H.out.below B7.out (by omega)) (by omega)).mono ?_); rintro e w8 hq; obtain ⟨b, rfl, ha, hk⟩ := LineSays.split hq; have A8 := Lib.hid ha; have K8 := Lib.hid hk; obtain ⟨g0, g1, g2⟩ := (X0.out.below B7.out (by omega)).kept hk (by omega) (by omega); obtain ⟨g3, g4, g5, g6⟩ := (Y0.out.below B7.out (by omega)).kept hk (by omega) (by omega); clear hq ha hk))
  go_wp2
  go_ret
  exact A8.out _ (HB0.out.trans ((Kept.of_below B7.out _ _).trans K8.out))
set_option maxHeartbeats 2000000 in
theorem cols_ex (R C t s g n c lo hi : Nat) (q : Int) (l : List Int) (o : Option (List Int)) (w : World) (ht : t < C) (hs : s < C) (hR0 : 0 < R) (_hC0 : 0 < C) (hR : R ≤ 48) (hC : C ≤ 48) (hn : n = R * C) (hc : n ≤ c) (hcm : c ≤ maxLen)
    (h : Own w lo hi (some ⟨g, 0, none⟩) n c l) (hhi : hi ≤ w.heap.size)
    (hf : ∀ W, Own W lo hi (some ⟨g, 0, none⟩) n c l → hi ≤ W.heap.size → Calls Try.prog 142 #[.agg #[.slice (some ⟨g, t, none⟩) (n - t) (c - t), .int .i64 C], .agg #[.slice (some ⟨g, s, none⟩) (n - s) (c - s), .int .i64 C], .int .i64 q] W (LineSays lo hi g n c W o)) :
    Calls Try.prog 156 #[.agg #[.int .i64 R, .int .i64 C, .slice (some ⟨g, 0, none⟩) n c], .agg #[.func (.func 142) #[] #[], .int .i64 t, .int .i64 s, .int .i64 q]] w (LineSays lo hi g n c w o) := by
  have HN := Lib.hid hn
  have HF := Lib.hid hf
  have H := Lib.hid (h.al hhi (al2 w (Obj.cells #[.int .i64 R, .int .i64 C, .slice (some ⟨g, 0, none⟩) n c] 77) (Obj.cells #[.func (.func 142) #[] #[], .int .i64 t, .int .i64 s, .int .i64 q] 150)))
  have X0 := Lib.hid ((Box3.new w 77 (.int .i64 R) (.int .i64 C) (.slice (some ⟨g, 0, none⟩) n c)).below (al1 _ (Obj.cells #[.func (.func 142) #[] #[], .int .i64 t, .int .i64 s, .int .i64 q] 150)) (by simp))
  have Y0 := Lib.hid (Box4.new (w.alloc (Obj.cells #[.int .i64 R, .int .i64 C, .slice (some ⟨g, 0, none⟩) n c] 77)) 150 (.func (.func 142) #[] #[]) (.int .i64 t) (.int .i64 s) (.int .i64 q))
  have HB0 := Lib.hid (Kept.of_below (al2 w (Obj.cells #[.int .i64 R, .int .i64 C, .slice (some ⟨g, 0, none⟩) n c] 77) (Obj.cells #[.func (.func 142) #[] #[], .int .i64 t, .int .i64 s, .int .i64 q] 150)) lo hi)
  clear h hf hn
  simp only [World.size_alloc] at Y0
  go_enter Try.func156, Try.ntmps156
  go_wp2
  obtain ⟨W0, hW0⟩ : ∃ W0, W0 = ((w.alloc (Obj.cells #[.int .i64 R, .int .i64 C, .slice (some ⟨g, 0, none⟩) n c] 77)).alloc (Obj.cells #[.func (.func 142) #[] #[], .int .i64 t, .int .i64 s, .int .i64 q] 150)) := ⟨_, rfl⟩
  have s0 : w.heap.size + 1 < W0.heap.size := by rw [hW0]; simp
  rw [← hW0] at X0 Y0 HB0 H
  rw [← hW0]
  clear hW0
  obtain ⟨k0, k1, k2⟩ := X0.out
  obtain ⟨l0, l1, l2, l3⟩ := Y0.out
  go_region_held3 (fun W => (W.cell? ⟨w.heap.size, 0, none⟩ = some (.int .i64 R) ∧ W.cell? ⟨w.heap.size, 1, none⟩ = some (.int .i64 C) ∧ W.cell? ⟨w.heap.size, 2, none⟩ = some (.slice (some ⟨g, 0, none⟩) n c)) ∧
      (W.cell? ⟨w.heap.size + 1, 0, none⟩ = some (.func (.func 142) #[] #[]) ∧ W.cell? ⟨w.heap.size + 1, 1, none⟩ = some (.int .i64 t) ∧ W.cell? ⟨w.heap.size + 1, 2, none⟩ = some (.int .i64 s) ∧ W.cell? ⟨w.heap.size + 1, 3, none⟩ = some (.int .i64 q))) (go_keep)
    (first
      | (go_at_call 162; (with_reducible refine (colLine_impl R C _ g n c _ (by omega) hR0 hR hC HN.out hc hcm).mono ?_); rintro e w6 ⟨rfl, hb⟩; (first | (have B7 := Lib.hid (B6.out.trans (hb.mono B6.out.size)); have z7 := B7.out.size; obtain ⟨e0, e1, e2⟩ := X0.out.below B7.out (by omega); obtain ⟨e3, e4, e5, e6⟩ := Y0.out.below B7.out (by omega)) | (have B6 := Lib.hid (undrew hb); have z6 := B6.out.size; obtain ⟨f0, f1, f2⟩ := X0.out.below B6.out (by omega); obtain ⟨f3, f4, f5, f6⟩ := Y0.out.below B6.out (by omega))); clear hb)
      | (go_at_call 142; (with_reducible refine (HF.out _ (by exact H.out.below B7.out (by omega)) (by omega)).mono ?_); rintro e w8 hq; obtain ⟨b, rfl, ha, hk⟩ := LineSays.split hq; have A8 := Lib.hid ha; have K8 := Lib.hid hk; obtain ⟨g0, g1, g2⟩ := (X0.out.below B7.out (by omega)).kept hk (by omega) (by omega); obtain ⟨g3, g4, g5, g6⟩ := (Y0.out.below B7.out (by omega)).kept hk (by omega) (by omega); clear hq ha hk))
  go_wp2
  go_ret
  exact A8.out _ (HB0.out.trans ((Kept.of_below B7.out _ _).trans K8.out))
set_option maxHeartbeats 2000000 in
theorem cols_ne (R C t s g n c lo hi : Nat) (q : Int) (l : List Int) (o : Option (List Int)) (w : World) (ht : t < C) (hs : s < C) (hR0 : 0 < R) (_hC0 : 0 < C) (hR : R ≤ 48) (hC : C ≤ 48) (hn : n = R * C) (hc : n ≤ c) (hcm : c ≤ maxLen)
    (h : Own w lo hi (some ⟨g, 0, none⟩) n c l) (hhi : hi ≤ w.heap.size)
    (hf : ∀ W, Own W lo hi (some ⟨g, 0, none⟩) n c l → hi ≤ W.heap.size → Calls Try.prog 144 #[.agg #[.slice (some ⟨g, t, none⟩) (n - t) (c - t), .int .i64 C], .agg #[.slice (some ⟨g, s, none⟩) (n - s) (c - s), .int .i64 C], .int .i64 q] W (LineSays lo hi g n c W o)) :
    Calls Try.prog 156 #[.agg #[.int .i64 R, .int .i64 C, .slice (some ⟨g, 0, none⟩) n c], .agg #[.func (.func 144) #[] #[], .int .i64 t, .int .i64 s, .int .i64 q]] w (LineSays lo hi g n c w o) := by
  have HN := Lib.hid hn
  have HF := Lib.hid hf
  have H := Lib.hid (h.al hhi (al2 w (Obj.cells #[.int .i64 R, .int .i64 C, .slice (some ⟨g, 0, none⟩) n c] 77) (Obj.cells #[.func (.func 144) #[] #[], .int .i64 t, .int .i64 s, .int .i64 q] 150)))
  have X0 := Lib.hid ((Box3.new w 77 (.int .i64 R) (.int .i64 C) (.slice (some ⟨g, 0, none⟩) n c)).below (al1 _ (Obj.cells #[.func (.func 144) #[] #[], .int .i64 t, .int .i64 s, .int .i64 q] 150)) (by simp))
  have Y0 := Lib.hid (Box4.new (w.alloc (Obj.cells #[.int .i64 R, .int .i64 C, .slice (some ⟨g, 0, none⟩) n c] 77)) 150 (.func (.func 144) #[] #[]) (.int .i64 t) (.int .i64 s) (.int .i64 q))
  have HB0 := Lib.hid (Kept.of_below (al2 w (Obj.cells #[.int .i64 R, .int .i64 C, .slice (some ⟨g, 0, none⟩) n c] 77) (Obj.cells #[.func (.func 144) #[] #[], .int .i64 t, .int .i64 s, .int .i64 q] 150)) lo hi)
  clear h hf hn
  simp only [World.size_alloc] at Y0
  go_enter Try.func156, Try.ntmps156
  go_wp2
  obtain ⟨W0, hW0⟩ : ∃ W0, W0 = ((w.alloc (Obj.cells #[.int .i64 R, .int .i64 C, .slice (some ⟨g, 0, none⟩) n c] 77)).alloc (Obj.cells #[.func (.func 144) #[] #[], .int .i64 t, .int .i64 s, .int .i64 q] 150)) := ⟨_, rfl⟩
  have s0 : w.heap.size + 1 < W0.heap.size := by rw [hW0]; simp
  rw [← hW0] at X0 Y0 HB0 H
  rw [← hW0]
  clear hW0
  obtain ⟨k0, k1, k2⟩ := X0.out
  obtain ⟨l0, l1, l2, l3⟩ := Y0.out
  go_region_held3 (fun W => (W.cell? ⟨w.heap.size, 0, none⟩ = some (.int .i64 R) ∧ W.cell? ⟨w.heap.size, 1, none⟩ = some (.int .i64 C) ∧ W.cell? ⟨w.heap.size, 2, none⟩ = some (.slice (some ⟨g, 0, none⟩) n c)) ∧
      (W.cell? ⟨w.heap.size + 1, 0, none⟩ = some (.func (.func 144) #[] #[]) ∧ W.cell? ⟨w.heap.size + 1, 1, none⟩ = some (.int .i64 t) ∧ W.cell? ⟨w.heap.size + 1, 2, none⟩ = some (.int .i64 s) ∧ W.cell? ⟨w.heap.size + 1, 3, none⟩ = some (.int .i64 q))) (go_keep)
    (first
      | (go_at_call 162; (with_reducible refine (colLine_impl R C _ g n c _ (by omega) hR0 hR hC HN.out hc hcm).mono ?_); rintro e w6 ⟨rfl, hb⟩; (first | (have B7 := Lib.hid (B6.out.trans (hb.mono B6.out.size)); have z7 := B7.out.size; obtain ⟨e0, e1, e2⟩ := X0.out.below B7.out (by omega); obtain ⟨e3, e4, e5, e6⟩ := Y0.out.below B7.out (by omega)) | (have B6 := Lib.hid (undrew hb); have z6 := B6.out.size; obtain ⟨f0, f1, f2⟩ := X0.out.below B6.out (by omega); obtain ⟨f3, f4, f5, f6⟩ := Y0.out.below B6.out (by omega))); clear hb)
      | (go_at_call 144; (with_reducible refine (HF.out _ (by exact H.out.below B7.out (by omega)) (by omega)).mono ?_); rintro e w8 hq; obtain ⟨b, rfl, ha, hk⟩ := LineSays.split hq; have A8 := Lib.hid ha; have K8 := Lib.hid hk; obtain ⟨g0, g1, g2⟩ := (X0.out.below B7.out (by omega)).kept hk (by omega) (by omega); obtain ⟨g3, g4, g5, g6⟩ := (Y0.out.below B7.out (by omega)).kept hk (by omega) (by omega); clear hq ha hk))
  go_wp2
  go_ret
  exact A8.out _ (HB0.out.trans ((Kept.of_below B7.out _ _).trans K8.out))
set_option maxHeartbeats 2000000 in
theorem cols_su (R C t s g n c lo hi : Nat) (q : Int) (l : List Int) (o : Option (List Int)) (w : World) (ht : t < C) (hs : s < C) (hR0 : 0 < R) (_hC0 : 0 < C) (hR : R ≤ 48) (hC : C ≤ 48) (hn : n = R * C) (hc : n ≤ c) (hcm : c ≤ maxLen)
    (h : Own w lo hi (some ⟨g, 0, none⟩) n c l) (hhi : hi ≤ w.heap.size)
    (hf : ∀ W, Own W lo hi (some ⟨g, 0, none⟩) n c l → hi ≤ W.heap.size → Calls Try.prog 133 #[.agg #[.slice (some ⟨g, t, none⟩) (n - t) (c - t), .int .i64 C], .agg #[.slice (some ⟨g, s, none⟩) (n - s) (c - s), .int .i64 C], .int .i64 q] W (LineSays lo hi g n c W o)) :
    Calls Try.prog 156 #[.agg #[.int .i64 R, .int .i64 C, .slice (some ⟨g, 0, none⟩) n c], .agg #[.func (.func 133) #[] #[], .int .i64 t, .int .i64 s, .int .i64 q]] w (LineSays lo hi g n c w o) := by
  have HN := Lib.hid hn
  have HF := Lib.hid hf
  have H := Lib.hid (h.al hhi (al2 w (Obj.cells #[.int .i64 R, .int .i64 C, .slice (some ⟨g, 0, none⟩) n c] 77) (Obj.cells #[.func (.func 133) #[] #[], .int .i64 t, .int .i64 s, .int .i64 q] 150)))
  have X0 := Lib.hid ((Box3.new w 77 (.int .i64 R) (.int .i64 C) (.slice (some ⟨g, 0, none⟩) n c)).below (al1 _ (Obj.cells #[.func (.func 133) #[] #[], .int .i64 t, .int .i64 s, .int .i64 q] 150)) (by simp))
  have Y0 := Lib.hid (Box4.new (w.alloc (Obj.cells #[.int .i64 R, .int .i64 C, .slice (some ⟨g, 0, none⟩) n c] 77)) 150 (.func (.func 133) #[] #[]) (.int .i64 t) (.int .i64 s) (.int .i64 q))
  have HB0 := Lib.hid (Kept.of_below (al2 w (Obj.cells #[.int .i64 R, .int .i64 C, .slice (some ⟨g, 0, none⟩) n c] 77) (Obj.cells #[.func (.func 133) #[] #[], .int .i64 t, .int .i64 s, .int .i64 q] 150)) lo hi)
  clear h hf hn
  simp only [World.size_alloc] at Y0
  go_enter Try.func156, Try.ntmps156
  go_wp2
  obtain ⟨W0, hW0⟩ : ∃ W0, W0 = ((w.alloc (Obj.cells #[.int .i64 R, .int .i64 C, .slice (some ⟨g, 0, none⟩) n c] 77)).alloc (Obj.cells #[.func (.func 133) #[] #[], .int .i64 t, .int .i64 s, .int .i64 q] 150)) := ⟨_, rfl⟩
  have s0 : w.heap.size + 1 < W0.heap.size := by rw [hW0]; simp
  rw [← hW0] at X0 Y0 HB0 H
  rw [← hW0]
  clear hW0
  obtain ⟨k0, k1, k2⟩ := X0.out
  obtain ⟨l0, l1, l2, l3⟩ := Y0.out
  go_region_held3 (fun W => (W.cell? ⟨w.heap.size, 0, none⟩ = some (.int .i64 R) ∧ W.cell? ⟨w.heap.size, 1, none⟩ = some (.int .i64 C) ∧ W.cell? ⟨w.heap.size, 2, none⟩ = some (.slice (some ⟨g, 0, none⟩) n c)) ∧
      (W.cell? ⟨w.heap.size + 1, 0, none⟩ = some (.func (.func 133) #[] #[]) ∧ W.cell? ⟨w.heap.size + 1, 1, none⟩ = some (.int .i64 t) ∧ W.cell? ⟨w.heap.size + 1, 2, none⟩ = some (.int .i64 s) ∧ W.cell? ⟨w.heap.size + 1, 3, none⟩ = some (.int .i64 q))) (go_keep)
    (first
      | (go_at_call 162; (with_reducible refine (colLine_impl R C _ g n c _ (by omega) hR0 hR hC HN.out hc hcm).mono ?_); rintro e w6 ⟨rfl, hb⟩; (first | (have B7 := Lib.hid (B6.out.trans (hb.mono B6.out.size)); have z7 := B7.out.size; obtain ⟨e0, e1, e2⟩ := X0.out.below B7.out (by omega); obtain ⟨e3, e4, e5, e6⟩ := Y0.out.below B7.out (by omega)) | (have B6 := Lib.hid (undrew hb); have z6 := B6.out.size; obtain ⟨f0, f1, f2⟩ := X0.out.below B6.out (by omega); obtain ⟨f3, f4, f5, f6⟩ := Y0.out.below B6.out (by omega))); clear hb)
      | (go_at_call 133; (with_reducible refine (HF.out _ (by exact H.out.below B7.out (by omega)) (by omega)).mono ?_); rintro e w8 hq; obtain ⟨b, rfl, ha, hk⟩ := LineSays.split hq; have A8 := Lib.hid ha; have K8 := Lib.hid hk; obtain ⟨g0, g1, g2⟩ := (X0.out.below B7.out (by omega)).kept hk (by omega) (by omega); obtain ⟨g3, g4, g5, g6⟩ := (Y0.out.below B7.out (by omega)).kept hk (by omega) (by omega); clear hq ha hk))
  go_wp2
  go_ret
  exact A8.out _ (HB0.out.trans ((Kept.of_below B7.out _ _).trans K8.out))

end Go.Proofs.Ytpojkahlllochaa
