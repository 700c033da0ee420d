/- Contracts of the functions that make a monomial, the program's and the specification's. No condition but those that each theorem names. -/
import Derived.Test.YtopbfjhgpgjnnaaLauW
namespace Go.Proofs.Ytopbfjhgpgjnnaa
open Go.RowKit

theorem ResLC.fin {w w' : World} {b lo hi : Nat} {r : Int} {zs : List Int} {code : Int} {A : Option Addr} {c : Nat} {x y : Value} (hM : Mine w' lo hi A zs.length zs) (hb : Below w.heap.size w w') (h0 : w.heap.size ≤ b) (h1 : b < lo ∨ hi ≤ b) (h2 : w.heap.size ≤ lo) (h3 : hi ≤ w'.heap.size) :
    ResLC w r zs code (.returned (.tuple #[.agg #[.int .i64 r, .slice A zs.length c], .int .i64 code])) ((w'.setCell ⟨b, 0, none⟩ x).setCell ⟨b, 1, none⟩ y) :=
  ⟨A, c, rfl, ((hM.far (p := ⟨b, 0, none⟩) h1 _).far (p := ⟨b, 1, none⟩) h1 _).wide h2 (by simpa [World.setCell] using h3), (hb.setCell h0 _).setCell h0 _⟩
theorem ResL1.fin {w w' : World} {b lo hi : Nat} {r : Int} {zs : List Int} {A : Option Addr} {c : Nat} {x y : Value} (hM : Mine w' lo hi A zs.length zs) (hb : Below w.heap.size w w') (h0 : w.heap.size ≤ b) (h1 : b < lo ∨ hi ≤ b) (h2 : w.heap.size ≤ lo) (h3 : hi ≤ w'.heap.size) :
    ResL1 w r zs (.returned (.agg #[.int .i64 r, .slice A zs.length c])) ((w'.setCell ⟨b, 0, none⟩ x).setCell ⟨b, 1, none⟩ y) :=
  ⟨A, c, rfl, ((hM.far (p := ⟨b, 0, none⟩) h1 _).far (p := ⟨b, 1, none⟩) h1 _).wide h2 (by simpa [World.setCell] using h3), (hb.setCell h0 _).setCell h0 _⟩

def MonoIn (c e : Int) : Prop := -1000000000000 ≤ c ∧ c ≤ 1000000000000 ∧ -240 ≤ e ∧ e ≤ 240
theorem mono_trim (c : Int) : Lau.Trimmed [c] (if c = 0 then 1 else 0) 1 := by
  by_cases h : c = 0
  · subst h
    exact ⟨by simp, by simp, fun i hi => by have : i = 0 := (by simp at hi; omega); subst this; rfl, fun i h1 h2 => by simp at h2; omega, fun h => by simp at h, fun h => by simp at h, fun _ => by simp⟩
  · rw [if_neg h]
    exact ⟨by simp, by simp, fun i hi => by omega, fun i h1 h2 => by simp at h2; omega, fun _ => h, fun _ => h, fun h => by simp at h⟩
theorem mono_ok {c e : Int} (h : MonoIn c e) (hc : c ≠ 0) : Lau.LOk e [c] := by
  obtain ⟨h1, h2, h3, h4⟩ := h
  exact .inr ⟨by simp, by simp, hc, hc, h3, by simp; omega, fun i hi => by have : i = 0 := (by simp at hi; omega); subst this; exact ⟨h1, h2⟩⟩

set_option maxHeartbeats 2000000 in
theorem mono_impl_no (c e : Int) (w : World) (h : ¬ MonoIn c e) : Calls Try.prog 18 #[.int .i64 c, .int .i64 e] w (ResLC w 0 [] 2) := by
  have F0 := Lib.hid (al1 w (Obj.cells #[.int .i64 0, .slice none 0 0] 27))
  have HH := Lib.hid h
  clear h
  by_cases hc : -1000000000000 ≤ c ∧ c ≤ 1000000000000
  · have HC := Lib.hid hc
    clear hc
    by_cases he : -240 ≤ e
    · have d0 : decide (e < -240) = false := by simp; omega
      have d1 : decide (240 < e) = true := by have := HH.out; have := HC.out; unfold MonoIn at *; simp; omega
      go_enter Try.func18, Try.ntmps18
      go_wp2_with (go_at_call 44; refine (isEntry_yes _ _ HC.out).mono ?_; rintro e w' ⟨rfl, rfl⟩)
      refine bodyPost_ret (v := .tuple #[.agg #[.int .i64 0, .slice none 0 0], .int .i64 2]) (by simp [results, Try.results18, go_sem]) rfl ?_
      exact ⟨none, 0, rfl, Mine.none_ _ _ _ _, F0.out⟩
    · have d0 : decide (e < -240) = true := by simp; omega
      go_enter Try.func18, Try.ntmps18
      go_wp2_with (go_at_call 44; refine (isEntry_yes _ _ HC.out).mono ?_; rintro e w' ⟨rfl, rfl⟩)
      refine bodyPost_ret (v := .tuple #[.agg #[.int .i64 0, .slice none 0 0], .int .i64 2]) (by simp [results, Try.results18, go_sem]) rfl ?_
      exact ⟨none, 0, rfl, Mine.none_ _ _ _ _, F0.out⟩
  · have HC := Lib.hid hc
    clear hc
    go_enter Try.func18, Try.ntmps18
    go_wp2_with (go_at_call 44; refine (isEntry_no _ _ HC.out).mono ?_; rintro e w' ⟨rfl, rfl⟩)
    refine bodyPost_ret (v := .tuple #[.agg #[.int .i64 0, .slice none 0 0], .int .i64 2]) (by simp [results, Try.results18, go_sem]) rfl ?_
    exact ⟨none, 0, rfl, Mine.none_ _ _ _ _, F0.out⟩

set_option maxHeartbeats 2000000 in
theorem mono_spec_no (c e : Int) (w : World) (h : ¬ MonoIn c e) : Calls Try.prog 17 #[.int .i64 c, .int .i64 e] w (ResLC w 0 [] 2) := by
  have F0 := Lib.hid (al1 w (Obj.cells #[.int .i64 0, .slice none 0 0] 27))
  by_cases hc : -1000000000000 ≤ c ∧ c ≤ 1000000000000
  · have he : ¬ (-240 ≤ e ∧ e ≤ 240) := fun he => h ⟨hc.1, hc.2, he.1, he.2⟩
    have HC := Lib.hid hc
    have HE := Lib.hid he
    clear hc he h
    go_enter Try.func17, Try.ntmps17
    go_wp2_with fail
    refine (in_yes _ _ _ _ HC.out.1 HC.out.2).mono ?_
    rintro e1 w' ⟨rfl, rfl⟩
    go_wp2_with fail
    refine (in_no _ _ _ _ HE.out).mono ?_
    rintro e1 w' ⟨rfl, rfl⟩
    go_wp2
    refine bodyPost_ret (v := .tuple #[.agg #[.int .i64 0, .slice none 0 0], .int .i64 2]) (by simp [results, Try.results17, go_sem]) rfl ?_
    exact ⟨none, 0, rfl, Mine.none_ _ _ _ _, F0.out⟩
  · have HC := Lib.hid hc
    clear hc h
    go_enter Try.func17, Try.ntmps17
    go_wp2_with fail
    refine (in_no _ _ _ _ HC.out).mono ?_
    rintro e1 w' ⟨rfl, rfl⟩
    go_wp2
    refine bodyPost_ret (v := .tuple #[.agg #[.int .i64 0, .slice none 0 0], .int .i64 2]) (by simp [results, Try.results17, go_sem]) rfl ?_
    exact ⟨none, 0, rfl, Mine.none_ _ _ _ _, F0.out⟩

theorem ResV.of_form {w w' : World} {low : Int} {l : List Int} {a b lo hi : Nat} {e : Ending} (h : (a = b → ResV w lo hi 0 [] 0 e w') ∧ (a < b → Lau.LOk (low + a) (Lau.cut l a b) → ResV w lo hi (low + a) (Lau.cut l a b) 0 e w') ∧ (a < b → ¬ Lau.LOk (low + a) (Lau.cut l a b) → ResV w lo hi 0 [] 3 e w')) (hab : a ≤ b)
    (hok : a < b → Lau.LOk (low + a) (Lau.cut l a b)) : ResV w lo hi (Lau.lowOf low a b) (Lau.cut l a b) 0 e w' := by
  by_cases e0 : a = b
  · subst e0
    rw [Lau.lowOf, if_pos rfl, Lau.cut_none]
    exact h.1 rfl
  · rw [Lau.lowOf, if_neg e0]
    exact h.2.1 (by omega) (hok (by omega))
theorem FormS.one {w w' : World} {low : Int} {l : List Int} {a b : Nat} {e : Ending} (h : FormS w low l a b e w') (hab : a ≤ b) : ResL1 w (Lau.lowOf low a b) (Lau.cut l a b) e w' := by
  by_cases e0 : a = b
  · subst e0
    rw [Lau.lowOf, if_pos rfl, Lau.cut_none]
    exact h.1 rfl
  · rw [Lau.lowOf, if_neg e0]
    exact h.2 (by omega)

set_option maxHeartbeats 2000000 in
theorem mono_impl_yes (c e : Int) (w : World) (h : MonoIn c e) : Calls Try.prog 18 #[.int .i64 c, .int .i64 e] w (ResLC w (Lau.lowOf e (if c = 0 then 1 else 0) 1) (Lau.cut [c] (if c = 0 then 1 else 0) 1) 0) := by
  have HH := Lib.hid h
  have HC := Lib.hid (show -1000000000000 ≤ c ∧ c ≤ 1000000000000 from ⟨h.1, h.2.1⟩)
  have d0 : decide (e < -240) = false := by have := h.2.2.1; simp; omega
  have d1 : decide (240 < e) = false := by have := h.2.2.2; simp; omega
  have b0 : -240 ≤ e := h.2.2.1
  have b1 : e ≤ 240 := h.2.2.2
  have FM := Lib.hid (form_impl e (some ⟨w.heap.size + 1, 0, none⟩) 1 1 [c] (if c = 0 then 1 else 0) 1 (w.heap.size + 1) (w.heap.size + 2) ((w.alloc (Obj.cells #[.int .i64 0, .slice none 0 0] 27)).alloc (Obj.cells #[.int .i64 c] 2))
    (Mine.of_blk (g := w.heap.size + 1) (by have := Blk.new (w.alloc (Obj.cells #[.int .i64 0, .slice none 0 0] 27)) [c]; simpa using this) (by omega) (by omega) rfl) (by simp) (by omega) (by omega) (by unfold maxLen; omega) (by omega) (by omega) (mono_trim c))
  have K0 := Lib.hid ((BoxG.new w 27 (.int .i64 0) (.slice none 0 0)).below (al1 _ (Obj.cells #[.int .i64 c] 2)) (by simp))
  have F0 := Lib.hid ((Free.new w 27 #[.int .i64 0, .slice none 0 0]).below (al1 _ (Obj.cells #[.int .i64 c] 2)) (by simp))
  have OK := Lib.hid (fun hlt : (if c = 0 then 1 else 0) < 1 => (show Lau.LOk (e + ((if c = 0 then 1 else 0 : Nat) : Int)) (Lau.cut [c] (if c = 0 then 1 else 0) 1) from by
    by_cases hc : c = 0
    · rw [if_pos hc] at hlt; omega
    · rw [if_neg hc]
      have := mono_ok h hc
      simpa [Lau.cut] using this))
  have AB := Lib.hid (show (if c = 0 then 1 else 0) ≤ 1 by split <;> omega)
  obtain ⟨r, hr⟩ : ∃ r, Lau.lowOf e (if c = 0 then 1 else 0) 1 = r := ⟨_, rfl⟩
  obtain ⟨zs, hz⟩ : ∃ zs, Lau.cut [c] (if c = 0 then 1 else 0) 1 = zs := ⟨_, rfl⟩
  have FM2 := Lib.hid (FM.out.mono fun e w' hh => ResV.of_form hh AB.out OK.out)
  rw [hr, hz] at FM2
  rw [hr, hz]
  clear FM OK AB hr hz h
  go_enter Try.func18, Try.ntmps18
  go_wp2_with fail
  refine (isEntry_yes _ _ HC.out).mono ?_
  rintro e1 w' ⟨rfl, rfl⟩
  go_wp2_with fail
  refine FM2.out.mono ?_
  rintro e1 w1 ⟨A, c1, rfl, hM, hb⟩
  have s1 : w.heap.size + 2 ≤ w1.heap.size := by have := hb.size; simp at this; omega
  obtain ⟨n0, n1⟩ := K0.out.below hb (by simp; omega)
  have f0 := F0.out.below hb (by simp; omega)
  unfold Free at f0
  have HB := Lib.hid (on2 _ _ hb)
  have HM := Lib.hid hM
  clear hb hM
  go_wp2
  refine bodyPost_ret (v := .tuple #[.agg #[.int .i64 r, .slice A zs.length c1], .int .i64 0]) (by simp [results, Try.results18, n0, n1, go_sem]) rfl ?_
  exact ResLC.fin HM.out HB.out (Nat.le_refl _) (.inl (by omega)) (by omega) s1

set_option maxHeartbeats 2000000 in
theorem mono_spec_yes (c e : Int) (w : World) (h : MonoIn c e) : Calls Try.prog 17 #[.int .i64 c, .int .i64 e] w (ResLC w (Lau.lowOf e (if c = 0 then 1 else 0) 1) (Lau.cut [c] (if c = 0 then 1 else 0) 1) 0) := by
  have HC := Lib.hid (show -1000000000000 ≤ c ∧ c ≤ 1000000000000 from ⟨h.1, h.2.1⟩)
  have HE := Lib.hid (show -240 ≤ e ∧ e ≤ 240 from ⟨h.2.2.1, h.2.2.2⟩)
  have b0 : -240 ≤ e := h.2.2.1
  have b1 : e ≤ 240 := h.2.2.2
  have FM := Lib.hid (form_spec e (some ⟨w.heap.size + 1, 0, none⟩) 1 1 [c] (if c = 0 then 1 else 0) 1 ((w.alloc (Obj.cells #[.int .i64 0, .slice none 0 0] 27)).alloc (Obj.cells #[.int .i64 c] 2))
    ((Mine.of_blk (lo := 0) (hi := w.heap.size + 2) (n := 1) (g := w.heap.size + 1) (by have := Blk.new (w.alloc (Obj.cells #[.int .i64 0, .slice none 0 0] 27)) [c]; simpa using this) (by omega) (by omega) rfl).ints.more (by simp)) (by omega) (by omega) (by unfold maxLen; omega) (by omega) (by omega) (mono_trim c))
  have K0 := Lib.hid ((BoxG.new w 27 (.int .i64 0) (.slice none 0 0)).below (al1 _ (Obj.cells #[.int .i64 c] 2)) (by simp))
  have F0 := Lib.hid ((Free.new w 27 #[.int .i64 0, .slice none 0 0]).below (al1 _ (Obj.cells #[.int .i64 c] 2)) (by simp))
  have AB := Lib.hid (show (if c = 0 then 1 else 0) ≤ 1 by split <;> omega)
  obtain ⟨r, hr⟩ : ∃ r, Lau.lowOf e (if c = 0 then 1 else 0) 1 = r := ⟨_, rfl⟩
  obtain ⟨zs, hz⟩ : ∃ zs, Lau.cut [c] (if c = 0 then 1 else 0) 1 = zs := ⟨_, rfl⟩
  have FM2 := Lib.hid (FM.out.mono fun e w' hh => hh.one AB.out)
  rw [hr, hz] at FM2
  rw [hr, hz]
  clear FM AB hr hz h
  go_enter Try.func17, Try.ntmps17
  go_wp2_with fail
  refine (in_yes _ _ _ _ HC.out.1 HC.out.2).mono ?_
  rintro e1 w' ⟨rfl, rfl⟩
  go_wp2_with fail
  refine (in_yes _ _ _ _ HE.out.1 HE.out.2).mono ?_
  rintro e1 w' ⟨rfl, rfl⟩
  go_wp2_with fail
  refine FM2.out.mono ?_
  rintro e1 w1 ⟨A, c1, rfl, hM, hb⟩
  have s1 : w.heap.size + 2 ≤ w1.heap.size := by have := hb.size; simp at this; omega
  obtain ⟨n0, n1⟩ := K0.out.below hb (by simp; omega)
  have f0 := F0.out.below hb (by simp; omega)
  unfold Free at f0
  have HB := Lib.hid (on2 _ _ hb)
  have HM := Lib.hid hM
  clear hb hM
  go_wp2
  refine bodyPost_ret (v := .tuple #[.agg #[.int .i64 r, .slice A zs.length c1], .int .i64 0]) (by simp [results, Try.results17, n0, n1, go_sem]) rfl ?_
  exact ResLC.fin HM.out HB.out (Nat.le_refl _) (.inl (by simp <;> omega)) (by simp <;> omega) (Nat.le_refl _)

end Go.Proofs.Ytopbfjhgpgjnnaa
