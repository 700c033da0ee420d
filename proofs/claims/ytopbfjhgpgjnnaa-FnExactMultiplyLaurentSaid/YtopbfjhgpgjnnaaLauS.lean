/- Contracts of the functions that multiply a polynomial by a power of t, the program's and the specification's. No condition but those that each theorem names. -/
import Derived.Test.YtopbfjhgpgjnnaaLauC
import Derived.Test.YtopbfjhgpgjnnaaLauM
import Derived.Deep.RegionHeld3
namespace Go.Proofs.Ytopbfjhgpgjnnaa
open Go.RowKit

/-- What is handed back for a polynomial that may be too large: itself, or the limit's code. -/
def LOut (r : Int) (l : List Int) (rk : Int) (ll : List Int) (code : Int) : Prop := (Lau.LOk r l ∧ rk = r ∧ ll = l ∧ code = 0) ∨ (¬ Lau.LOk r l ∧ rk = 0 ∧ ll = [] ∧ code = 3)
theorem lout_exists (r : Int) (l : List Int) : ∃ rk ll code, LOut r l rk ll code := by
  by_cases h : Lau.LOk r l
  · exact ⟨_, _, _, .inl ⟨h, rfl, rfl, rfl⟩⟩
  · exact ⟨_, _, _, .inr ⟨h, rfl, rfl, rfl⟩⟩
theorem LOut.len {r : Int} {l : List Int} {rk : Int} {ll : List Int} {code : Int} (h : LOut r l rk ll code) : ll.length ≤ 160 := by
  rcases h with ⟨h, _, rfl, _⟩ | ⟨_, _, rfl, _⟩
  · exact h.len
  · simp
theorem ResV.of_out {w w' : World} {low : Int} {l : List Int} {a b lo hi : Nat} {e : Ending} {rk : Int} {ll : List Int} {code : Int} (h : (a = b → ResV w lo hi 0 [] 0 e w') ∧ (a < b → Lau.LOk (low + a) (Lau.cut l a b) → ResV w lo hi (low + a) (Lau.cut l a b) 0 e w') ∧ (a < b → ¬ Lau.LOk (low + a) (Lau.cut l a b) → ResV w lo hi 0 [] 3 e w')) (hab : a ≤ b)
    (ho : LOut (Lau.lowOf low a b) (Lau.cut l a b) rk ll code) : ResV w lo hi rk ll code e w' := by
  by_cases e0 : a = b
  · subst e0
    rw [Lau.lowOf, if_pos rfl, Lau.cut_none] at ho
    rcases ho with ⟨_, rfl, rfl, rfl⟩ | ⟨hn, _⟩
    · exact h.1 rfl
    · exact absurd Lau.LOk.nil hn
  · rw [Lau.lowOf, if_neg e0] at ho
    rcases ho with ⟨h1, rfl, rfl, rfl⟩ | ⟨h1, rfl, rfl, rfl⟩
    · exact h.2.1 (by omega) h1
    · exact h.2.2 (by omega) h1

/-- The program's valid form, in one word. -/
theorem valid_any (low : Int) (A : Option Addr) (n c : Nat) (l : List Int) (a b lo hi : Nat) (rk : Int) (ll : List Int) (code : Int) (w : World) (h : Mine w lo hi A n l) (hhi : hi ≤ w.heap.size) (hnc : n ≤ c) (hn : n ≤ 1048576) (hc : c ≤ maxLen) (l0 : -1000000 ≤ low) (l1 : low ≤ 1000000) (hT : Lau.Trimmed l a b) (ho : LOut (Lau.lowOf low a b) (Lau.cut l a b) rk ll code) :
    Calls Try.prog 45 #[.int .i64 low, .slice A n c] w (ResV w lo hi rk ll code) := (form_impl low A n c l a b lo hi w h hhi hnc hn hc l0 l1 hT).mono fun _ _ hh => ResV.of_out hh hT.ab ho
theorem sform_any (low : Int) (A : Option Addr) (n c : Nat) (l : List Int) (a b : Nat) (w : World) (h : Ints w w.heap.size A n l) (hnc : n ≤ c) (hn : n ≤ 1048576) (hc : c ≤ maxLen) (l0 : -1000000 ≤ low) (l1 : low ≤ 1000000) (hT : Lau.Trimmed l a b) :
    Calls Try.prog 43 #[.int .i64 low, .slice A n c] w (ResL1 w (Lau.lowOf low a b) (Lau.cut l a b)) := (form_spec low A n c l a b w h hnc hn hc l0 l1 hT).mono fun _ _ hh => hh.one hT.ab
theorem sif_any (r : Int) (A : Option Addr) (n c : Nat) (zs : List Int) (rk : Int) (ll : List Int) (code : Int) (lo hi : Nat) (w : World) (h : Mine w lo hi A n zs) (hhi : hi ≤ w.heap.size) (hn : n ≤ 1048576) (ho : LOut r zs rk ll code) :
    Calls Try.prog 48 #[.agg #[.int .i64 r, .slice A n c]] w (ResV w lo hi rk ll code) := by
  rcases ho with ⟨h1, e1, e2, e3⟩ | ⟨h1, e1, e2, e3⟩
  · subst e1; subst e2; subst e3
    refine (if_yes rk A n c ll w (h.ints.more hhi) hn h1).mono fun e w' hh => ?_
    obtain ⟨rfl, hb⟩ := hh
    have hl := h.len
    subst hl
    exact ⟨A, c, rfl, h.below hb hhi, hb⟩
  · subst e1; subst e2; subst e3
    refine (if_no r A n c zs w (h.ints.more hhi) hn h1).mono fun e w' hh => ?_
    obtain ⟨rfl, hb⟩ := hh
    exact ⟨none, 0, rfl, Mine.none_ _ _ _ _, hb⟩

section
variable (r e : Int) (A : Option Addr) (n c : Nat) (zs : List Int) (w : World) (h : Ints w w.heap.size A n zs) (hn : n ≤ 1048576)
include h hn

set_option maxHeartbeats 2000000 in
theorem shift_impl_no (hP : ¬ Lau.LOk r zs) : Calls Try.prog 26 #[.agg #[.int .i64 r, .slice A n c], .int .i64 e] w (ResLC w 0 [] 1) := by
  have HL := Lib.hid (isLi_no r A n c zs _ (h.into (al2 w (Obj.cells #[.int .i64 r, .slice A n c] 27) (Obj.cells #[.int .i64 0, .slice none 0 0] 27))) hn hP)
  have K0 := Lib.hid (BoxG.new (w.alloc (Obj.cells #[.int .i64 r, .slice A n c] 27)) 27 (.int .i64 0) (.slice none 0 0))
  have F0 := Lib.hid (Free.new (w.alloc (Obj.cells #[.int .i64 r, .slice A n c] 27)) 27 #[.int .i64 0, .slice none 0 0])
  simp only [World.size_alloc] at K0 F0
  clear h hP
  go_enter Try.func26, Try.ntmps26
  go_wp2_with fail
  refine HL.out.mono ?_
  rintro e1 w1 ⟨rfl, hb⟩
  obtain ⟨n0, n1⟩ := K0.out.below hb (by simp)
  have f0 := F0.out.below hb (by simp)
  unfold Free at f0
  have HB := Lib.hid (on2 _ _ hb)
  clear hb
  go_wp2
  refine bodyPost_ret (v := .tuple #[.agg #[.int .i64 0, .slice none 0 0], .int .i64 1]) (by simp [results, Try.results26, n0, n1, go_sem]) rfl ?_
  exact ⟨none, 0, rfl, Mine.none_ _ _ _ _, (HB.out.setCell (by simp) _).setCell (by simp) _⟩
set_option maxHeartbeats 2000000 in
theorem shift_spec_no (hP : ¬ Lau.LOk r zs) : Calls Try.prog 25 #[.agg #[.int .i64 r, .slice A n c], .int .i64 e] w (ResLC w 0 [] 1) := by
  have HL := Lib.hid (isLs_no r A n c zs _ (h.into (al2 w (Obj.cells #[.int .i64 r, .slice A n c] 27) (Obj.cells #[.int .i64 0, .slice none 0 0] 27))) hn hP)
  have K0 := Lib.hid (BoxG.new (w.alloc (Obj.cells #[.int .i64 r, .slice A n c] 27)) 27 (.int .i64 0) (.slice none 0 0))
  have F0 := Lib.hid (Free.new (w.alloc (Obj.cells #[.int .i64 r, .slice A n c] 27)) 27 #[.int .i64 0, .slice none 0 0])
  simp only [World.size_alloc] at K0 F0
  clear h hP
  go_enter Try.func25, Try.ntmps25
  go_wp2_with fail
  refine HL.out.mono ?_
  rintro e1 w1 ⟨rfl, hb⟩
  obtain ⟨n0, n1⟩ := K0.out.below hb (by simp)
  have f0 := F0.out.below hb (by simp)
  unfold Free at f0
  have HB := Lib.hid (on2 _ _ hb)
  clear hb
  go_wp2
  refine bodyPost_ret (v := .tuple #[.agg #[.int .i64 0, .slice none 0 0], .int .i64 1]) (by simp [results, Try.results25, n0, n1, go_sem]) rfl ?_
  exact ⟨none, 0, rfl, Mine.none_ _ _ _ _, (HB.out.setCell (by simp) _).setCell (by simp) _⟩
set_option maxHeartbeats 2000000 in
theorem shift_impl_range (hP : Lau.LOk r zs) (he : ¬ (-480 ≤ e ∧ e ≤ 480)) : Calls Try.prog 26 #[.agg #[.int .i64 r, .slice A n c], .int .i64 e] w (ResLC w 0 [] 2) := by
  have HL := Lib.hid (isLi_yes r A n c zs _ (h.into (al2 w (Obj.cells #[.int .i64 r, .slice A n c] 27) (Obj.cells #[.int .i64 0, .slice none 0 0] 27))) hn hP)
  have K0 := Lib.hid (BoxG.new (w.alloc (Obj.cells #[.int .i64 r, .slice A n c] 27)) 27 (.int .i64 0) (.slice none 0 0))
  have F0 := Lib.hid (Free.new (w.alloc (Obj.cells #[.int .i64 r, .slice A n c] 27)) 27 #[.int .i64 0, .slice none 0 0])
  simp only [World.size_alloc] at K0 F0
  have HE := Lib.hid he
  clear h hP he
  by_cases e0 : -480 ≤ e
  · have d0 : decide (e < -480) = false := by simp; omega
    have d1 : decide (480 < e) = true := by have := HE.out; simp; omega
    go_enter Try.func26, Try.ntmps26
    go_wp2_with fail
    refine HL.out.mono ?_
    rintro e1 w1 ⟨rfl, hb⟩
    obtain ⟨n0, n1⟩ := K0.out.below hb (by simp)
    have f0 := F0.out.below hb (by simp)
    unfold Free at f0
    have HB := Lib.hid (on2 _ _ hb)
    clear hb
    go_wp2
    refine bodyPost_ret (v := .tuple #[.agg #[.int .i64 0, .slice none 0 0], .int .i64 2]) (by simp [results, Try.results26, n0, n1, go_sem]) rfl ?_
    exact ⟨none, 0, rfl, Mine.none_ _ _ _ _, (HB.out.setCell (by simp) _).setCell (by simp) _⟩
  · have d0 : decide (e < -480) = true := by simp; omega
    go_enter Try.func26, Try.ntmps26
    go_wp2_with fail
    refine HL.out.mono ?_
    rintro e1 w1 ⟨rfl, hb⟩
    obtain ⟨n0, n1⟩ := K0.out.below hb (by simp)
    have f0 := F0.out.below hb (by simp)
    unfold Free at f0
    have HB := Lib.hid (on2 _ _ hb)
    clear hb
    go_wp2
    refine bodyPost_ret (v := .tuple #[.agg #[.int .i64 0, .slice none 0 0], .int .i64 2]) (by simp [results, Try.results26, n0, n1, go_sem]) rfl ?_
    exact ⟨none, 0, rfl, Mine.none_ _ _ _ _, (HB.out.setCell (by simp) _).setCell (by simp) _⟩
set_option maxHeartbeats 2000000 in
theorem shift_spec_range (hP : Lau.LOk r zs) (he : ¬ (-480 ≤ e ∧ e ≤ 480)) : Calls Try.prog 25 #[.agg #[.int .i64 r, .slice A n c], .int .i64 e] w (ResLC w 0 [] 2) := by
  have HL := Lib.hid (isLs_yes r A n c zs _ (h.into (al2 w (Obj.cells #[.int .i64 r, .slice A n c] 27) (Obj.cells #[.int .i64 0, .slice none 0 0] 27))) hn hP)
  have K0 := Lib.hid (BoxG.new (w.alloc (Obj.cells #[.int .i64 r, .slice A n c] 27)) 27 (.int .i64 0) (.slice none 0 0))
  have F0 := Lib.hid (Free.new (w.alloc (Obj.cells #[.int .i64 r, .slice A n c] 27)) 27 #[.int .i64 0, .slice none 0 0])
  simp only [World.size_alloc] at K0 F0
  have HE := Lib.hid he
  clear h hP he
  go_enter Try.func25, Try.ntmps25
  go_wp2_with fail
  refine HL.out.mono ?_
  rintro e1 w1 ⟨rfl, hb⟩
  obtain ⟨n0, n1⟩ := K0.out.below hb (by simp)
  have f0 := F0.out.below hb (by simp)
  unfold Free at f0
  have HB := Lib.hid (on2 _ _ hb)
  clear hb
  go_wp2_with fail
  refine (in_no _ _ _ _ HE.out).mono ?_
  rintro e1 w' ⟨rfl, rfl⟩
  go_wp2
  refine bodyPost_ret (v := .tuple #[.agg #[.int .i64 0, .slice none 0 0], .int .i64 2]) (by simp [results, Try.results25, n0, n1, go_sem]) rfl ?_
  exact ⟨none, 0, rfl, Mine.none_ _ _ _ _, (HB.out.setCell (by simp) _).setCell (by simp) _⟩

set_option maxHeartbeats 4000000 in
theorem shift_spec_yes (hnc : n ≤ c) (hcm : c ≤ maxLen) (rk : Int) (ll : List Int) (code : Int) (hP : Lau.LOk r zs) (he : -480 ≤ e ∧ e ≤ 480) (ho : LOut (Lau.lowOf (r + e) 0 zs.length) zs rk ll code) : Calls Try.prog 25 #[.agg #[.int .i64 r, .slice A n c], .int .i64 e] w (ResLC w rk ll code) := by
  have HL := Lib.hid (isLs_yes r A n c zs _ (h.into (al2 w (Obj.cells #[.int .i64 r, .slice A n c] 27) (Obj.cells #[.int .i64 0, .slice none 0 0] 27))) hn hP)
  have K0 := Lib.hid (BoxG.new (w.alloc (Obj.cells #[.int .i64 r, .slice A n c] 27)) 27 (.int .i64 0) (.slice none 0 0))
  have F0 := Lib.hid (Free.new (w.alloc (Obj.cells #[.int .i64 r, .slice A n c] 27)) 27 #[.int .i64 0, .slice none 0 0])
  have X0 := Lib.hid ((BoxG.new w 27 (.int .i64 r) (.slice A n c)).below (al1 _ (Obj.cells #[.int .i64 0, .slice none 0 0] 27)) (by simp))
  simp only [World.size_alloc] at K0 F0
  have HE := Lib.hid he
  have HO := Lib.hid ho
  have HT := Lib.hid hP.trim
  have hlow := hP.low
  have H := Lib.hid h
  have e0 := he.1
  have e1 := he.2
  clear h hP he ho
  go_enter Try.func25, Try.ntmps25
  go_wp2_with fail
  refine HL.out.mono ?_
  rintro e2 w1 ⟨rfl, hb⟩
  have s1 : w.heap.size + 1 < w1.heap.size := by have := hb.size; simp at this; omega
  have K1 := Lib.hid (K0.out.below hb (by simp))
  have F1 := Lib.hid (F0.out.below hb (by simp))
  have X1 := Lib.hid (X0.out.below hb (by simp; omega))
  have HB := Lib.hid (on2 _ _ hb)
  clear hb K0 F0 X0
  obtain ⟨x0, x1⟩ := X1.out
  go_wp2_with fail
  refine (in_yes _ _ _ _ HE.out.1 HE.out.2).mono ?_
  rintro e2 w' ⟨rfl, rfl⟩
  go_wp2_with fail
  refine (sform_any (r + e) A n c zs 0 zs.length _ (H.out.into HB.out) hnc hn hcm (by omega) (by omega) HT.out).mono ?_
  rintro e2 w2 ⟨A2, c2, rfl, hM, hb⟩
  rw [Lau.cut_all] at hM
  have s2 : w1.heap.size ≤ w2.heap.size := hb.size
  have M2 := Lib.hid hM
  have K2 := Lib.hid (K1.out.below hb s1)
  have F2 := Lib.hid (F1.out.below hb s1)
  have HB2 := Lib.hid (HB.out.trans (hb.mono (by omega)))
  clear hb hM x0 x1 K1 F1 HB
  go_wp2_with fail
  rw [Lau.cut_all]
  refine (sif_any _ A2 zs.length c2 zs rk ll code w1.heap.size w2.heap.size w2 M2.out (Nat.le_refl _) (by have := H.out.1; omega) HO.out).mono ?_
  rintro e2 w3 ⟨A3, c3, rfl, hM, hb⟩
  have s3 : w2.heap.size ≤ w3.heap.size := hb.size
  obtain ⟨n0, n1⟩ := K2.out.below hb (by omega)
  have f0 := F2.out.below hb (by omega)
  unfold Free at f0
  have M3 := Lib.hid hM
  have HB3 := Lib.hid (HB2.out.trans (hb.mono (by omega)))
  clear hb hM K2 F2 HB2
  go_wp2
  refine bodyPost_ret (v := .tuple #[.agg #[.int .i64 rk, .slice A3 ll.length c3], .int .i64 code]) (by simp [results, Try.results25, n0, n1, go_sem]) rfl ?_
  exact ResLC.fin M3.out HB3.out (by omega) (.inl (by omega)) (by omega) s3

set_option maxHeartbeats 4000000 in
theorem shift_impl_yes (rk : Int) (ll : List Int) (code : Int) (hP : Lau.LOk r zs) (he : -480 ≤ e ∧ e ≤ 480) (ho : LOut (Lau.lowOf (r + e) 0 zs.length) zs rk ll code) : Calls Try.prog 26 #[.agg #[.int .i64 r, .slice A n c], .int .i64 e] w (ResLC w rk ll code) := by
  have HL := Lib.hid (isLi_yes r A n c zs _ (h.into (al2 w (Obj.cells #[.int .i64 r, .slice A n c] 27) (Obj.cells #[.int .i64 0, .slice none 0 0] 27))) hn hP)
  have K0 := Lib.hid (BoxG.new (w.alloc (Obj.cells #[.int .i64 r, .slice A n c] 27)) 27 (.int .i64 0) (.slice none 0 0))
  have F0 := Lib.hid (Free.new (w.alloc (Obj.cells #[.int .i64 r, .slice A n c] 27)) 27 #[.int .i64 0, .slice none 0 0])
  have X0 := Lib.hid ((BoxG.new w 27 (.int .i64 r) (.slice A n c)).below (al1 _ (Obj.cells #[.int .i64 0, .slice none 0 0] 27)) (by simp))
  simp only [World.size_alloc] at K0 F0
  have HO := Lib.hid (show LOut (Lau.lowOf (r + e) 0 zs.length) (Lau.cut zs 0 zs.length) rk ll code by rw [Lau.cut_all]; exact ho)
  have HT := Lib.hid hP.trim
  have hlow := hP.low
  have H := Lib.hid h
  have e0 := he.1
  have e1 := he.2
  have d0 : decide (e < -480) = false := by simp; omega
  have d1 : decide (480 < e) = false := by simp; omega
  clear h hP he ho
  go_enter Try.func26, Try.ntmps26
  go_wp2_with fail
  refine HL.out.mono ?_
  rintro e2 w1 ⟨rfl, hb⟩
  have s1 : w.heap.size + 1 < w1.heap.size := by have := hb.size; simp at this; omega
  have K1 := Lib.hid (K0.out.below hb (by simp))
  have F1 := Lib.hid (F0.out.below hb (by simp))
  have X1 := Lib.hid (X0.out.below hb (by simp; omega))
  have HB := Lib.hid (on2 _ _ hb)
  have ws : IntKind.i64.wrap (r + e) = r + e := IntWalk.i64_in _ (by omega)
  clear hb K0 F0 X0
  obtain ⟨x0, x1⟩ := X1.out
  go_wp2_with fail
  go_region_held3 (fun W => W.cell? ⟨w.heap.size, 0, none⟩ = some (.int .i64 r) ∧ W.cell? ⟨w.heap.size, 1, none⟩ = some (.slice A n c)) (go_keep)
    (first
      | (go_at_call 55; (with_reducible refine (clone_any A n c zs _ (by exact H.out.into HB.out.drew) hn).mono ?_); rintro e5 w5 ⟨A5, c5, rfl, q1, q2, hown, hb'⟩; have hb5 := undrew hb'; have O5 : Hid (Own w5 w1.heap.size w5.heap.size A5 n c5 zs) := Lib.hid hown; have B5 := Lib.hid hb5; have s5 : w1.heap.size ≤ w5.heap.size := hb5.size; obtain ⟨y0, y1⟩ := X1.out.below hb5 (by omega); clear hown hb5 hb')
      | (go_at_call 45; (with_reducible refine (valid_any (r + e) A5 n c5 zs 0 zs.length w1.heap.size w5.heap.size rk ll code _ (by exact O5.out.mine) (Nat.le_refl _) q1 hn q2 (by omega) (by omega) HT.out HO.out).mono ?_); rintro e6 w6 ⟨A6, c6, rfl, hM, hb⟩; have M6 := Lib.hid hM; have s6 : w5.heap.size ≤ w6.heap.size := hb.size; have HB6 := Lib.hid ((HB.out.trans (B5.out.mono (by omega))).trans (hb.mono (by omega))); obtain ⟨n0, n1⟩ := (K1.out.below B5.out (by omega)).below hb (by omega); have f0 := (F1.out.below B5.out (by omega)).below hb (by omega); unfold Free at f0; obtain ⟨m0, m1⟩ := (X1.out.below B5.out (by omega)).below hb (by omega); clear hb hM))
  go_wp2
  refine bodyPost_ret (v := .tuple #[.agg #[.int .i64 rk, .slice A6 ll.length c6], .int .i64 code]) (by simp [results, Try.results26, n0, n1, go_sem]) rfl ?_
  exact ResLC.fin M6.out HB6.out (by omega) (.inl (by omega)) (by omega) s6
end

end Go.Proofs.Ytopbfjhgpgjnnaa
