/- Contracts of the inverse steps on one matrix, the program's. No condition but those that each theorem names. -/
import Derived.Test.YtpojkahlllochaaSmH
namespace Go.Proofs.Ytpojkahlllochaa
open Go.RowKit

set_option maxHeartbeats 1000000 in
theorem nostep_impl (f : FuncId) (R C n c : Nat) (A : Option Addr) (t s q : Int) (w : World) :
    Calls Try.prog 154 #[.agg #[.int .i64 R, .int .i64 C, .slice A n c], .agg #[.func (.func f) #[] #[], .int .i64 t, .int .i64 s, .int .i64 q]] w fun e w' => e = .returned (.bool true) ∧ Below w.heap.size w w' := by
  go_enter Try.func154, Try.ntmps154
  go_wp2
  go_ret
  exact ⟨rfl, al2 _ _ _⟩

set_option maxHeartbeats 2000000 in
theorem irows_ex (R C t s g n c lo hi : Nat) (q : Int) (l : List Int) (o : Option (List Int)) (w : World) (ht : t < R) (hs : s < R) (hR0 : 0 < R) (hC0 : 0 < C) (hR : R ≤ 48) (hC : C ≤ 48) (hn : n = R * C) (hc : n ≤ c) (hcm : c ≤ maxLen) (hq : -4000000000000 ≤ q ∧ q ≤ 4000000000000)
    (h : Own w lo hi (some ⟨g, 0, none⟩) n c l) (hhi : hi ≤ w.heap.size)
    (hf : ∀ W, Own W lo hi (some ⟨g, 0, none⟩) n c l → hi ≤ W.heap.size → Calls Try.prog 142 #[.agg #[.slice (some ⟨g, s * C, none⟩) C (c - s * C), .int .i64 1], .agg #[.slice (some ⟨g, t * C, none⟩) C (c - t * C), .int .i64 1], .int .i64 (-q)] W (LineSays lo hi g n c W o)) :
    Calls Try.prog 157 #[.agg #[.int .i64 R, .int .i64 C, .slice (some ⟨g, 0, none⟩) n c], .agg #[.func (.func 142) #[] #[], .int .i64 t, .int .i64 s, .int .i64 q]] w (LineSays lo hi g n c w o) := by
  have HN := Lib.hid hn
  have HF := Lib.hid hf
  have H := Lib.hid (h.al hhi (al2 w (Obj.cells #[.int .i64 R, .int .i64 C, .slice (some ⟨g, 0, none⟩) n c] 77) (Obj.cells #[.func (.func 142) #[] #[], .int .i64 t, .int .i64 s, .int .i64 q] 150)))
  have X0 := Lib.hid ((Box3.new w 77 (.int .i64 R) (.int .i64 C) (.slice (some ⟨g, 0, none⟩) n c)).below (al1 _ (Obj.cells #[.func (.func 142) #[] #[], .int .i64 t, .int .i64 s, .int .i64 q] 150)) (by simp))
  have Y0 := Lib.hid (Box4.new (w.alloc (Obj.cells #[.int .i64 R, .int .i64 C, .slice (some ⟨g, 0, none⟩) n c] 77)) 150 (.func (.func 142) #[] #[]) (.int .i64 t) (.int .i64 s) (.int .i64 q))
  have HB0 := Lib.hid (Kept.of_below (al2 w (Obj.cells #[.int .i64 R, .int .i64 C, .slice (some ⟨g, 0, none⟩) n c] 77) (Obj.cells #[.func (.func 142) #[] #[], .int .i64 t, .int .i64 s, .int .i64 q] 150)) lo hi)
  clear h hf hn
  simp only [World.size_alloc] at Y0
  go_enter Try.func157, Try.ntmps157
  go_wp2
  obtain ⟨W0, hW0⟩ : ∃ W0, W0 = ((w.alloc (Obj.cells #[.int .i64 R, .int .i64 C, .slice (some ⟨g, 0, none⟩) n c] 77)).alloc (Obj.cells #[.func (.func 142) #[] #[], .int .i64 t, .int .i64 s, .int .i64 q] 150)) := ⟨_, rfl⟩
  have s0 : w.heap.size + 1 < W0.heap.size := by rw [hW0]; simp
  rw [← hW0] at X0 Y0 HB0 H
  rw [← hW0]
  clear hW0
  obtain ⟨k0, k1, k2⟩ := X0.out
  obtain ⟨l0, l1, l2, l3⟩ := Y0.out
  go_region_held3 (fun W => (W.cell? ⟨w.heap.size, 0, none⟩ = some (.int .i64 R) ∧ W.cell? ⟨w.heap.size, 1, none⟩ = some (.int .i64 C) ∧ W.cell? ⟨w.heap.size, 2, none⟩ = some (.slice (some ⟨g, 0, none⟩) n c)) ∧
      (W.cell? ⟨w.heap.size + 1, 0, none⟩ = some (.func (.func 142) #[] #[]) ∧ W.cell? ⟨w.heap.size + 1, 1, none⟩ = some (.int .i64 t) ∧ W.cell? ⟨w.heap.size + 1, 2, none⟩ = some (.int .i64 s) ∧ W.cell? ⟨w.heap.size + 1, 3, none⟩ = some (.int .i64 q))) (go_keep)
    (first
      | (go_at_call 161; (with_reducible refine (inverse_impl 142 t s q _ hq).mono ?_); rintro e w6 ⟨rfl, hb⟩; have B6 := Lib.hid (undrew hb); have z6 := B6.out.size; obtain ⟨f0, f1, f2⟩ := X0.out.below B6.out (by omega); obtain ⟨f3, f4, f5, f6⟩ := Y0.out.below B6.out (by omega); clear hb)
      | (go_at_call 153; (with_reducible refine (rows_ex R C s t g n c lo hi (-q) l o _ hs ht hR0 hC0 hR hC HN.out hc hcm (by exact H.out.below B6.out (by omega)) (by omega) HF.out).mono ?_); rintro e w8 hq; obtain ⟨b, rfl, ha, hk⟩ := LineSays.split hq; have A8 := Lib.hid ha; have K8 := Lib.hid hk; obtain ⟨g0, g1, g2⟩ := (X0.out.below B6.out (by omega)).kept hk (by omega) (by omega); obtain ⟨g3, g4, g5, g6⟩ := (Y0.out.below B6.out (by omega)).kept hk (by omega) (by omega); clear hq ha hk))
  go_wp2
  go_ret
  exact A8.out _ (HB0.out.trans ((Kept.of_below B6.out _ _).trans K8.out))
set_option maxHeartbeats 2000000 in
theorem irows_su (R C t s g n c lo hi : Nat) (q : Int) (l : List Int) (o : Option (List Int)) (w : World) (ht : t < R) (hs : s < R) (hR0 : 0 < R) (hC0 : 0 < C) (hR : R ≤ 48) (hC : C ≤ 48) (hn : n = R * C) (hc : n ≤ c) (hcm : c ≤ maxLen) (hq : -4000000000000 ≤ q ∧ q ≤ 4000000000000)
    (h : Own w lo hi (some ⟨g, 0, none⟩) n c l) (hhi : hi ≤ w.heap.size)
    (hf : ∀ W, Own W lo hi (some ⟨g, 0, none⟩) n c l → hi ≤ W.heap.size → Calls Try.prog 133 #[.agg #[.slice (some ⟨g, s * C, none⟩) C (c - s * C), .int .i64 1], .agg #[.slice (some ⟨g, t * C, none⟩) C (c - t * C), .int .i64 1], .int .i64 (-q)] W (LineSays lo hi g n c W o)) :
    Calls Try.prog 157 #[.agg #[.int .i64 R, .int .i64 C, .slice (some ⟨g, 0, none⟩) n c], .agg #[.func (.func 133) #[] #[], .int .i64 t, .int .i64 s, .int .i64 q]] w (LineSays lo hi g n c w o) := by
  have HN := Lib.hid hn
  have HF := Lib.hid hf
  have H := Lib.hid (h.al hhi (al2 w (Obj.cells #[.int .i64 R, .int .i64 C, .slice (some ⟨g, 0, none⟩) n c] 77) (Obj.cells #[.func (.func 133) #[] #[], .int .i64 t, .int .i64 s, .int .i64 q] 150)))
  have X0 := Lib.hid ((Box3.new w 77 (.int .i64 R) (.int .i64 C) (.slice (some ⟨g, 0, none⟩) n c)).below (al1 _ (Obj.cells #[.func (.func 133) #[] #[], .int .i64 t, .int .i64 s, .int .i64 q] 150)) (by simp))
  have Y0 := Lib.hid (Box4.new (w.alloc (Obj.cells #[.int .i64 R, .int .i64 C, .slice (some ⟨g, 0, none⟩) n c] 77)) 150 (.func (.func 133) #[] #[]) (.int .i64 t) (.int .i64 s) (.int .i64 q))
  have HB0 := Lib.hid (Kept.of_below (al2 w (Obj.cells #[.int .i64 R, .int .i64 C, .slice (some ⟨g, 0, none⟩) n c] 77) (Obj.cells #[.func (.func 133) #[] #[], .int .i64 t, .int .i64 s, .int .i64 q] 150)) lo hi)
  clear h hf hn
  simp only [World.size_alloc] at Y0
  go_enter Try.func157, Try.ntmps157
  go_wp2
  obtain ⟨W0, hW0⟩ : ∃ W0, W0 = ((w.alloc (Obj.cells #[.int .i64 R, .int .i64 C, .slice (some ⟨g, 0, none⟩) n c] 77)).alloc (Obj.cells #[.func (.func 133) #[] #[], .int .i64 t, .int .i64 s, .int .i64 q] 150)) := ⟨_, rfl⟩
  have s0 : w.heap.size + 1 < W0.heap.size := by rw [hW0]; simp
  rw [← hW0] at X0 Y0 HB0 H
  rw [← hW0]
  clear hW0
  obtain ⟨k0, k1, k2⟩ := X0.out
  obtain ⟨l0, l1, l2, l3⟩ := Y0.out
  go_region_held3 (fun W => (W.cell? ⟨w.heap.size, 0, none⟩ = some (.int .i64 R) ∧ W.cell? ⟨w.heap.size, 1, none⟩ = some (.int .i64 C) ∧ W.cell? ⟨w.heap.size, 2, none⟩ = some (.slice (some ⟨g, 0, none⟩) n c)) ∧
      (W.cell? ⟨w.heap.size + 1, 0, none⟩ = some (.func (.func 133) #[] #[]) ∧ W.cell? ⟨w.heap.size + 1, 1, none⟩ = some (.int .i64 t) ∧ W.cell? ⟨w.heap.size + 1, 2, none⟩ = some (.int .i64 s) ∧ W.cell? ⟨w.heap.size + 1, 3, none⟩ = some (.int .i64 q))) (go_keep)
    (first
      | (go_at_call 161; (with_reducible refine (inverse_impl 133 t s q _ hq).mono ?_); rintro e w6 ⟨rfl, hb⟩; have B6 := Lib.hid (undrew hb); have z6 := B6.out.size; obtain ⟨f0, f1, f2⟩ := X0.out.below B6.out (by omega); obtain ⟨f3, f4, f5, f6⟩ := Y0.out.below B6.out (by omega); clear hb)
      | (go_at_call 153; (with_reducible refine (rows_su R C s t g n c lo hi (-q) l o _ hs ht hR0 hC0 hR hC HN.out hc hcm (by exact H.out.below B6.out (by omega)) (by omega) HF.out).mono ?_); rintro e w8 hq; obtain ⟨b, rfl, ha, hk⟩ := LineSays.split hq; have A8 := Lib.hid ha; have K8 := Lib.hid hk; obtain ⟨g0, g1, g2⟩ := (X0.out.below B6.out (by omega)).kept hk (by omega) (by omega); obtain ⟨g3, g4, g5, g6⟩ := (Y0.out.below B6.out (by omega)).kept hk (by omega) (by omega); clear hq ha hk))
  go_wp2
  go_ret
  exact A8.out _ (HB0.out.trans ((Kept.of_below B6.out _ _).trans K8.out))
set_option maxHeartbeats 2000000 in
theorem icols_ex (R C t s g n c lo hi : Nat) (q : Int) (l : List Int) (o : Option (List Int)) (w : World) (ht : t < C) (hs : s < C) (hR0 : 0 < R) (hC0 : 0 < C) (hR : R ≤ 48) (hC : C ≤ 48) (hn : n = R * C) (hc : n ≤ c) (hcm : c ≤ maxLen) (hq : -4000000000000 ≤ q ∧ q ≤ 4000000000000)
    (h : Own w lo hi (some ⟨g, 0, none⟩) n c l) (hhi : hi ≤ w.heap.size)
    (hf : ∀ W, Own W lo hi (some ⟨g, 0, none⟩) n c l → hi ≤ W.heap.size → Calls Try.prog 142 #[.agg #[.slice (some ⟨g, s, none⟩) (n - s) (c - s), .int .i64 C], .agg #[.slice (some ⟨g, t, none⟩) (n - t) (c - t), .int .i64 C], .int .i64 (-q)] W (LineSays lo hi g n c W o)) :
    Calls Try.prog 155 #[.agg #[.int .i64 R, .int .i64 C, .slice (some ⟨g, 0, none⟩) n c], .agg #[.func (.func 142) #[] #[], .int .i64 t, .int .i64 s, .int .i64 q]] w (LineSays lo hi g n c w o) := by
  have HN := Lib.hid hn
  have HF := Lib.hid hf
  have H := Lib.hid (h.al hhi (al2 w (Obj.cells #[.int .i64 R, .int .i64 C, .slice (some ⟨g, 0, none⟩) n c] 77) (Obj.cells #[.func (.func 142) #[] #[], .int .i64 t, .int .i64 s, .int .i64 q] 150)))
  have X0 := Lib.hid ((Box3.new w 77 (.int .i64 R) (.int .i64 C) (.slice (some ⟨g, 0, none⟩) n c)).below (al1 _ (Obj.cells #[.func (.func 142) #[] #[], .int .i64 t, .int .i64 s, .int .i64 q] 150)) (by simp))
  have Y0 := Lib.hid (Box4.new (w.alloc (Obj.cells #[.int .i64 R, .int .i64 C, .slice (some ⟨g, 0, none⟩) n c] 77)) 150 (.func (.func 142) #[] #[]) (.int .i64 t) (.int .i64 s) (.int .i64 q))
  have HB0 := Lib.hid (Kept.of_below (al2 w (Obj.cells #[.int .i64 R, .int .i64 C, .slice (some ⟨g, 0, none⟩) n c] 77) (Obj.cells #[.func (.func 142) #[] #[], .int .i64 t, .int .i64 s, .int .i64 q] 150)) lo hi)
  clear h hf hn
  simp only [World.size_alloc] at Y0
  go_enter Try.func155, Try.ntmps155
  go_wp2
  obtain ⟨W0, hW0⟩ : ∃ W0, W0 = ((w.alloc (Obj.cells #[.int .i64 R, .int .i64 C, .slice (some ⟨g, 0, none⟩) n c] 77)).alloc (Obj.cells #[.func (.func 142) #[] #[], .int .i64 t, .int .i64 s, .int .i64 q] 150)) := ⟨_, rfl⟩
  have s0 : w.heap.size + 1 < W0.heap.size := by rw [hW0]; simp
  rw [← hW0] at X0 Y0 HB0 H
  rw [← hW0]
  clear hW0
  obtain ⟨k0, k1, k2⟩ := X0.out
  obtain ⟨l0, l1, l2, l3⟩ := Y0.out
  go_region_held3 (fun W => (W.cell? ⟨w.heap.size, 0, none⟩ = some (.int .i64 R) ∧ W.cell? ⟨w.heap.size, 1, none⟩ = some (.int .i64 C) ∧ W.cell? ⟨w.heap.size, 2, none⟩ = some (.slice (some ⟨g, 0, none⟩) n c)) ∧
      (W.cell? ⟨w.heap.size + 1, 0, none⟩ = some (.func (.func 142) #[] #[]) ∧ W.cell? ⟨w.heap.size + 1, 1, none⟩ = some (.int .i64 t) ∧ W.cell? ⟨w.heap.size + 1, 2, none⟩ = some (.int .i64 s) ∧ W.cell? ⟨w.heap.size + 1, 3, none⟩ = some (.int .i64 q))) (go_keep)
    (first
      | (go_at_call 161; (with_reducible refine (inverse_impl 142 t s q _ hq).mono ?_); rintro e w6 ⟨rfl, hb⟩; have B6 := Lib.hid (undrew hb); have z6 := B6.out.size; obtain ⟨f0, f1, f2⟩ := X0.out.below B6.out (by omega); obtain ⟨f3, f4, f5, f6⟩ := Y0.out.below B6.out (by omega); clear hb)
      | (go_at_call 156; (with_reducible refine (cols_ex R C s t g n c lo hi (-q) l o _ hs ht hR0 hC0 hR hC HN.out hc hcm (by exact H.out.below B6.out (by omega)) (by omega) HF.out).mono ?_); rintro e w8 hq; obtain ⟨b, rfl, ha, hk⟩ := LineSays.split hq; have A8 := Lib.hid ha; have K8 := Lib.hid hk; obtain ⟨g0, g1, g2⟩ := (X0.out.below B6.out (by omega)).kept hk (by omega) (by omega); obtain ⟨g3, g4, g5, g6⟩ := (Y0.out.below B6.out (by omega)).kept hk (by omega) (by omega); clear hq ha hk))
  go_wp2
  go_ret
  exact A8.out _ (HB0.out.trans ((Kept.of_below B6.out _ _).trans K8.out))
set_option maxHeartbeats 2000000 in
theorem icols_ne (R C t s g n c lo hi : Nat) (q : Int) (l : List Int) (o : Option (List Int)) (w : World) (ht : t < C) (hs : s < C) (hR0 : 0 < R) (hC0 : 0 < C) (hR : R ≤ 48) (hC : C ≤ 48) (hn : n = R * C) (hc : n ≤ c) (hcm : c ≤ maxLen) (hq : -4000000000000 ≤ q ∧ q ≤ 4000000000000)
    (h : Own w lo hi (some ⟨g, 0, none⟩) n c l) (hhi : hi ≤ w.heap.size)
    (hf : ∀ W, Own W lo hi (some ⟨g, 0, none⟩) n c l → hi ≤ W.heap.size → Calls Try.prog 144 #[.agg #[.slice (some ⟨g, s, none⟩) (n - s) (c - s), .int .i64 C], .agg #[.slice (some ⟨g, t, none⟩) (n - t) (c - t), .int .i64 C], .int .i64 (-q)] W (LineSays lo hi g n c W o)) :
    Calls Try.prog 155 #[.agg #[.int .i64 R, .int .i64 C, .slice (some ⟨g, 0, none⟩) n c], .agg #[.func (.func 144) #[] #[], .int .i64 t, .int .i64 s, .int .i64 q]] w (LineSays lo hi g n c w o) := by
  have HN := Lib.hid hn
  have HF := Lib.hid hf
  have H := Lib.hid (h.al hhi (al2 w (Obj.cells #[.int .i64 R, .int .i64 C, .slice (some ⟨g, 0, none⟩) n c] 77) (Obj.cells #[.func (.func 144) #[] #[], .int .i64 t, .int .i64 s, .int .i64 q] 150)))
  have X0 := Lib.hid ((Box3.new w 77 (.int .i64 R) (.int .i64 C) (.slice (some ⟨g, 0, none⟩) n c)).below (al1 _ (Obj.cells #[.func (.func 144) #[] #[], .int .i64 t, .int .i64 s, .int .i64 q] 150)) (by simp))
  have Y0 := Lib.hid (Box4.new (w.alloc (Obj.cells #[.int .i64 R, .int .i64 C, .slice (some ⟨g, 0, none⟩) n c] 77)) 150 (.func (.func 144) #[] #[]) (.int .i64 t) (.int .i64 s) (.int .i64 q))
  have HB0 := Lib.hid (Kept.of_below (al2 w (Obj.cells #[.int .i64 R, .int .i64 C, .slice (some ⟨g, 0, none⟩) n c] 77) (Obj.cells #[.func (.func 144) #[] #[], .int .i64 t, .int .i64 s, .int .i64 q] 150)) lo hi)
  clear h hf hn
  simp only [World.size_alloc] at Y0
  go_enter Try.func155, Try.ntmps155
  go_wp2
  obtain ⟨W0, hW0⟩ : ∃ W0, W0 = ((w.alloc (Obj.cells #[.int .i64 R, .int .i64 C, .slice (some ⟨g, 0, none⟩) n c] 77)).alloc (Obj.cells #[.func (.func 144) #[] #[], .int .i64 t, .int .i64 s, .int .i64 q] 150)) := ⟨_, rfl⟩
  have s0 : w.heap.size + 1 < W0.heap.size := by rw [hW0]; simp
  rw [← hW0] at X0 Y0 HB0 H
  rw [← hW0]
  clear hW0
  obtain ⟨k0, k1, k2⟩ := X0.out
  obtain ⟨l0, l1, l2, l3⟩ := Y0.out
  go_region_held3 (fun W => (W.cell? ⟨w.heap.size, 0, none⟩ = some (.int .i64 R) ∧ W.cell? ⟨w.heap.size, 1, none⟩ = some (.int .i64 C) ∧ W.cell? ⟨w.heap.size, 2, none⟩ = some (.slice (some ⟨g, 0, none⟩) n c)) ∧
      (W.cell? ⟨w.heap.size + 1, 0, none⟩ = some (.func (.func 144) #[] #[]) ∧ W.cell? ⟨w.heap.size + 1, 1, none⟩ = some (.int .i64 t) ∧ W.cell? ⟨w.heap.size + 1, 2, none⟩ = some (.int .i64 s) ∧ W.cell? ⟨w.heap.size + 1, 3, none⟩ = some (.int .i64 q))) (go_keep)
    (first
      | (go_at_call 161; (with_reducible refine (inverse_impl 144 t s q _ hq).mono ?_); rintro e w6 ⟨rfl, hb⟩; have B6 := Lib.hid (undrew hb); have z6 := B6.out.size; obtain ⟨f0, f1, f2⟩ := X0.out.below B6.out (by omega); obtain ⟨f3, f4, f5, f6⟩ := Y0.out.below B6.out (by omega); clear hb)
      | (go_at_call 156; (with_reducible refine (cols_ne R C s t g n c lo hi (-q) l o _ hs ht hR0 hC0 hR hC HN.out hc hcm (by exact H.out.below B6.out (by omega)) (by omega) HF.out).mono ?_); rintro e w8 hq; obtain ⟨b, rfl, ha, hk⟩ := LineSays.split hq; have A8 := Lib.hid ha; have K8 := Lib.hid hk; obtain ⟨g0, g1, g2⟩ := (X0.out.below B6.out (by omega)).kept hk (by omega) (by omega); obtain ⟨g3, g4, g5, g6⟩ := (Y0.out.below B6.out (by omega)).kept hk (by omega) (by omega); clear hq ha hk))
  go_wp2
  go_ret
  exact A8.out _ (HB0.out.trans ((Kept.of_below B6.out _ _).trans K8.out))
set_option maxHeartbeats 2000000 in
theorem icols_su (R C t s g n c lo hi : Nat) (q : Int) (l : List Int) (o : Option (List Int)) (w : World) (ht : t < C) (hs : s < C) (hR0 : 0 < R) (hC0 : 0 < C) (hR : R ≤ 48) (hC : C ≤ 48) (hn : n = R * C) (hc : n ≤ c) (hcm : c ≤ maxLen) (hq : -4000000000000 ≤ q ∧ q ≤ 4000000000000)
    (h : Own w lo hi (some ⟨g, 0, none⟩) n c l) (hhi : hi ≤ w.heap.size)
    (hf : ∀ W, Own W lo hi (some ⟨g, 0, none⟩) n c l → hi ≤ W.heap.size → Calls Try.prog 133 #[.agg #[.slice (some ⟨g, s, none⟩) (n - s) (c - s), .int .i64 C], .agg #[.slice (some ⟨g, t, none⟩) (n - t) (c - t), .int .i64 C], .int .i64 (-q)] W (LineSays lo hi g n c W o)) :
    Calls Try.prog 155 #[.agg #[.int .i64 R, .int .i64 C, .slice (some ⟨g, 0, none⟩) n c], .agg #[.func (.func 133) #[] #[], .int .i64 t, .int .i64 s, .int .i64 q]] w (LineSays lo hi g n c w o) := by
  have HN := Lib.hid hn
  have HF := Lib.hid hf
  have H := Lib.hid (h.al hhi (al2 w (Obj.cells #[.int .i64 R, .int .i64 C, .slice (some ⟨g, 0, none⟩) n c] 77) (Obj.cells #[.func (.func 133) #[] #[], .int .i64 t, .int .i64 s, .int .i64 q] 150)))
  have X0 := Lib.hid ((Box3.new w 77 (.int .i64 R) (.int .i64 C) (.slice (some ⟨g, 0, none⟩) n c)).below (al1 _ (Obj.cells #[.func (.func 133) #[] #[], .int .i64 t, .int .i64 s, .int .i64 q] 150)) (by simp))
  have Y0 := Lib.hid (Box4.new (w.alloc (Obj.cells #[.int .i64 R, .int .i64 C, .slice (some ⟨g, 0, none⟩) n c] 77)) 150 (.func (.func 133) #[] #[]) (.int .i64 t) (.int .i64 s) (.int .i64 q))
  have HB0 := Lib.hid (Kept.of_below (al2 w (Obj.cells #[.int .i64 R, .int .i64 C, .slice (some ⟨g, 0, none⟩) n c] 77) (Obj.cells #[.func (.func 133) #[] #[], .int .i64 t, .int .i64 s, .int .i64 q] 150)) lo hi)
  clear h hf hn
  simp only [World.size_alloc] at Y0
  go_enter Try.func155, Try.ntmps155
  go_wp2
  obtain ⟨W0, hW0⟩ : ∃ W0, W0 = ((w.alloc (Obj.cells #[.int .i64 R, .int .i64 C, .slice (some ⟨g, 0, none⟩) n c] 77)).alloc (Obj.cells #[.func (.func 133) #[] #[], .int .i64 t, .int .i64 s, .int .i64 q] 150)) := ⟨_, rfl⟩
  have s0 : w.heap.size + 1 < W0.heap.size := by rw [hW0]; simp
  rw [← hW0] at X0 Y0 HB0 H
  rw [← hW0]
  clear hW0
  obtain ⟨k0, k1, k2⟩ := X0.out
  obtain ⟨l0, l1, l2, l3⟩ := Y0.out
  go_region_held3 (fun W => (W.cell? ⟨w.heap.size, 0, none⟩ = some (.int .i64 R) ∧ W.cell? ⟨w.heap.size, 1, none⟩ = some (.int .i64 C) ∧ W.cell? ⟨w.heap.size, 2, none⟩ = some (.slice (some ⟨g, 0, none⟩) n c)) ∧
      (W.cell? ⟨w.heap.size + 1, 0, none⟩ = some (.func (.func 133) #[] #[]) ∧ W.cell? ⟨w.heap.size + 1, 1, none⟩ = some (.int .i64 t) ∧ W.cell? ⟨w.heap.size + 1, 2, none⟩ = some (.int .i64 s) ∧ W.cell? ⟨w.heap.size + 1, 3, none⟩ = some (.int .i64 q))) (go_keep)
    (first
      | (go_at_call 161; (with_reducible refine (inverse_impl 133 t s q _ hq).mono ?_); rintro e w6 ⟨rfl, hb⟩; have B6 := Lib.hid (undrew hb); have z6 := B6.out.size; obtain ⟨f0, f1, f2⟩ := X0.out.below B6.out (by omega); obtain ⟨f3, f4, f5, f6⟩ := Y0.out.below B6.out (by omega); clear hb)
      | (go_at_call 156; (with_reducible refine (cols_su R C s t g n c lo hi (-q) l o _ hs ht hR0 hC0 hR hC HN.out hc hcm (by exact H.out.below B6.out (by omega)) (by omega) HF.out).mono ?_); rintro e w8 hq; obtain ⟨b, rfl, ha, hk⟩ := LineSays.split hq; have A8 := Lib.hid ha; have K8 := Lib.hid hk; obtain ⟨g0, g1, g2⟩ := (X0.out.below B6.out (by omega)).kept hk (by omega) (by omega); obtain ⟨g3, g4, g5, g6⟩ := (Y0.out.below B6.out (by omega)).kept hk (by omega) (by omega); clear hq ha hk))
  go_wp2
  go_ret
  exact A8.out _ (HB0.out.trans ((Kept.of_below B6.out _ _).trans K8.out))

end Go.Proofs.Ytpojkahlllochaa
