/- The draws of words; the law's comparison of lists. No condition but those that each theorem names. -/
import Derived.Test.YtpojkahlllochaaWdD
import Derived.Test.YtpojkahlllochaaDrwA
namespace Go.Proofs.Ytpojkahlllochaa
open Go.RowKit

set_option maxHeartbeats 400000 in
theorem Wd.big_no (A : Option Addr) (n c : Nat) (w : World) (hn : n ≤ 4096) : Calls Try.prog 13 #[.slice A n c] w fun e w' => e = .returned (.bool false) ∧ w = w' := by
  have t : ¬ (4096 : Int) < (n : Int) := by omega
  go_enter Try.func13, Try.ntmps13
  go_wp2
  go_ret
  exact ⟨rfl, rfl⟩
set_option maxHeartbeats 400000 in
theorem Wd.big_yes (A : Option Addr) (n c : Nat) (w : World) (hn : ¬ n ≤ 4096) : Calls Try.prog 13 #[.slice A n c] w fun e w' => e = .returned (.bool true) ∧ w = w' := by
  have t : (4096 : Int) < (n : Int) := by omega
  go_enter Try.func13, Try.ntmps13
  go_wp2
  go_ret
  exact ⟨rfl, rfl⟩

set_option maxHeartbeats 2000000 in
theorem Wd.likeInts_any (A A' : Option Addr) (n c c' : Nat) (zs : List Int) (B B' : Nat) (w : World) (h : Ints w B A n zs) (h' : Ints w B' A' n zs) (hn : n ≤ 1048576) :
    Calls Try.prog 18 #[.slice A n c, .slice A' n c'] w fun e w' => e = .returned (.bool true) ∧ Below w.heap.size w w' := by
  have H := Lib.hid h
  have H' := Lib.hid h'
  clear h h'
  go_enter Try.func18, Try.ntmps18
  go_wp2
  go_loopw [5] (fun x wr => ∃ k m : Nat, k ≤ n ∧ x = .int .i64 k ∧ wr = w.drewN m) (fun x _ => n - (intOf x).toNat)
  case atStart => exact ⟨0, 0, Nat.zero_le _, rfl, rfl⟩
  case round =>
    obtain ⟨k, m, hk, rfl, rfl⟩ := hrel
    by_cases hlt : k < n
    · obtain ⟨b, off, x, rfl, hb, hx, hc⟩ := H.out.at_z hlt
      obtain ⟨b', off', y, rfl, hb', hy, hc'⟩ := H'.out.at_z hlt
      obtain rfl : x = y := hx.symm.trans hy
      have i0 : (0 : Int) ≤ (k : Int) := by omega
      have i1 : (k : Int) < (n : Int) := by omega
      clear hx hy
      go_wp2
      go_quiet (fail)
      all_goals
        go_wp2
        go_roundw
        case rel => exact ⟨k + 1, _, by omega, by go_num, rfl⟩
        case measure => simp [intOf]; omega
    · obtain rfl : n = k := by omega
      have i1 : ¬ (n : Int) < (n : Int) := by omega
      go_wp2
      go_ret
      exact ⟨rfl, Go.Joins.below_draws _ _ _⟩

theorem Wd.kept_new {g lo hi : Nat} {w a b : World} (h : Kept g (g + 1) w a) (h2 : Kept lo hi a b) (hlo : w.heap.size ≤ lo) : Kept g (g + 1) w b :=
  ⟨h2.os.trans h.os, h2.tape.trans h.tape, h2.output.trans h.output, Nat.le_trans h.size h2.size, fun k hk hn => (h2.block k (Nat.lt_of_lt_of_le hk h.size) (by omega)).trans (h.block k hk hn)⟩
theorem Wd.kept_al {g : Nat} {w a : World} (h : Kept g (g + 1) w a) (o : Obj) : Kept g (g + 1) w (a.alloc o) := h.alloc o
/-- A list that was drawn, in new memory, and the source behind it. -/
def DrawW (w : World) (g : Nat) (A : Option Addr) (n c : Nat) (most bd : Int) (e : Ending) (w' : World) : Prop :=
  ∃ R t m zs a x, e = .returned (.slice R m t) ∧ Own w' w.heap.size w'.heap.size R m t zs ∧ (m : Int) ≤ most ∧ (∀ y ∈ zs, -bd ≤ y ∧ y ≤ bd) ∧ Src w' g A n c a x ∧ Kept g (g + 1) w w'
/-- The state in which a word is drawn. -/
def DrwS (w : World) (g : Nat) (A : Option Addr) (n c : Nat) (most bd : Int) (j : Int) (out : Value) (W : World) : Prop :=
  ∃ R t m zs a x, out = .slice R m t ∧ Own W w.heap.size W.heap.size R m t zs ∧ 0 ≤ j ∧ (m : Int) + j ≤ most ∧ (∀ y ∈ zs, -bd ≤ y ∧ y ≤ bd) ∧ Src W g A n c a x ∧ Kept g (g + 1) w W

set_option maxRecDepth 100000 in
set_option maxHeartbeats 16000000 in
theorem drawWord_spec (g : Nat) (A : Option Addr) (n c : Nat) (bs : List Int) (a x : Int) (gens most : Int) (w : World) (h : Bys w g A n bs) (hn : n ≤ 1048576) (hs : Src w g A n c a x) (hg0 : 0 ≤ gens) (hg1 : gens ≤ 1000) (hm0 : 0 ≤ most) (hm1 : most ≤ 1000) :
    Calls Try.prog 83 #[.pointer (some ⟨g, 0, none⟩), .int .i64 gens, .int .i64 most] w (DrawW w g A n c most gens) := by
  have gl := hs.lt
  have BY := Lib.hid (fun (W : World) (hk : Kept g (g + 1) w W) => h.kept hk (Nat.le_refl _) (by omega))
  have S0 := Lib.hid (hs.below (al1 w (Obj.cells #[] 2)) gl)
  have K0 := Lib.hid (Kept.of_below (al1 w (Obj.cells #[] 2)) g (g + 1))
  have O0 := Lib.hid (Wd.own_nil w)
  clear h hs
  go_enter Try.func83, Try.ntmps83
  go_wp2_with fail
  refine (next_spec g A n c bs (most + 1) a x _ (BY.out _ K0.out) hn S0.out (by omega) (by omega)).mono ?_
  rintro e w2 ⟨v, a2, x2, rfl, v0, v1, v2, hs2, hk2⟩
  have vm : v ≤ most := by
    rcases Int.lt_or_le 1 (most + 1) with h | h
    · have := v1 h; omega
    · have := v2 h; omega
  have ST := Lib.hid (show DrwS w g A n c most gens v (.slice (some ⟨w.heap.size, 0, none⟩) 0 0) w2 from
    ⟨_, _, 0, [], a2, x2, rfl, (O0.out.kept hk2 (by simp) (.inr (by omega))).wide (Nat.le_refl _) (by have := hk2.size; simp at this; omega), v0, by simpa using vm, by simp, hs2, K0.out.trans hk2⟩)
  clear v1 v2 hs2 hk2 S0 K0 O0
  go_wp2_with fail
  go_loopw [8, 7] (fun j out W => ∃ i : Int, j = .int .i64 i ∧ DrwS w g A n c most gens i out W) (fun j _ _ => (intOf j).toNat)
  case atStart => exact ⟨v, rfl, ST.out⟩
  case round =>
    obtain ⟨i, rfl, R, t, m, zs, a1, x1, rfl, ho, i0, im, hbd, hs1, hk1⟩ := hrel
    have O := Lib.hid ho
    have K := Lib.hid hk1
    have BD := Lib.hid hbd
    have hsz : w.heap.size ≤ wr.heap.size := hk1.size
    clear ho hk1 hbd ST vm
    by_cases hlt : 0 < i
    · by_cases hgen : 0 < gens
      · go_wp2_with fail
        refine (next_spec g A n c bs gens a1 x1 _ (BY.out _ K.out) hn hs1 (by omega) (by omega)).mono ?_
        rintro e w3 ⟨y, a3, x3, rfl, y0, y1, y2, hs3, hk3⟩
        have yg : y < gens := by
          rcases Int.lt_or_le 1 gens with h | h
          · exact y1 h
          · have := y2 h; omega
        have K3 := Lib.hid (K.out.trans hk3)
        have z3 : wr.heap.size ≤ w3.heap.size := hk3.size
        have O3 := Lib.hid ((O.out.kept hk3 (Nat.le_refl _) (.inr (by omega))).wide (Nat.le_refl _) z3)
        clear y1 y2 hs1 hk3 K O
        have wy : IntKind.i64.wrap (1 + y) = 1 + y := IntWalk.i64_in _ (by omega)
        go_wp2_with fail
        refine (next_spec g A n c bs 2 a3 x3 _ (BY.out _ K3.out) hn hs3 (by omega) (by omega)).mono ?_
        rintro e w4 ⟨q, a4, x4, rfl, q0, q1, _, hs4, hk4⟩
        have K4 := Lib.hid (K3.out.trans hk4)
        have z4 : w3.heap.size ≤ w4.heap.size := hk4.size
        have O4 := Lib.hid ((O3.out.kept hk4 (Nat.le_refl _) (.inr (by omega))).wide (Nat.le_refl _) z4)
        have S4 := Lib.hid hs4
        have wn : IntKind.i64.wrap (-(1 + y)) = -(1 + y) := IntWalk.i64_in _ (by omega)
        have wi : IntKind.i64.wrap (i - 1) = i - 1 := IntWalk.i64_in _ (by omega)
        clear hs3 hs4 hk4 K3 O3 q1
        have FIN := Lib.hid (fun (z : Int) (hz : -gens ≤ z ∧ z ≤ gens) (A7 : Option Addr) (c7 : Nat) (w7 : World) (h5 : Own w7 w.heap.size w7.heap.size A7 (m + 1) c7 (zs ++ [z])) (h6 : Kept w.heap.size w4.heap.size (w4.alloc (Obj.cells #[.int .i64 z] 2)) w7) =>
          (show DrwS w g A n c most gens (i - 1) (.slice A7 (m + 1) c7) w7 from ⟨A7, c7, m + 1, _, a4, x4, rfl, h5, by omega, by simp; omega, fun u hu => (List.mem_append.1 hu).elim (BD.out u) (fun hu => by simp at hu; subst hu; exact hz),
            (S4.out.below (al1 w4 _) S4.out.lt).kept h6 (by have := S4.out.lt; simp; omega) (by omega), Wd.kept_new (K4.out.alloc _) h6 (Nat.le_refl _)⟩))
        by_cases hq : q = 0
        · have tq : (q == (0 : Int)) = true := by simpa using hq
          have F := Lib.hid (FIN.out (-(1 + y)) (by omega))
          clear FIN hq
          go_wp2_with (at_builtin; refine Wd.push_int rfl _ _ rfl w.heap.size w4.heap.size t w4.heap.size m R _ (-(1 + y)) rfl (by exact O4.out.below (al1 w4 _) (Nat.le_refl _)) rfl (by exact Wd.alloc_first _ _ _ _ rfl) (by simp; omega) (by omega) ?_; intro A7 c7 w7 h5 h6; have F7 := Lib.hid (F.out A7 c7 w7 h5 h6); clear h5 h6)
          go_roundw
          case rel => exact ⟨i - 1, rfl, F7.out⟩
          case measure => simp [intOf]; omega
        · have tq : (q == (0 : Int)) = false := by simpa using hq
          have F := Lib.hid (FIN.out (1 + y) (by omega))
          clear FIN hq
          go_wp2_with (at_builtin; refine Wd.push_int rfl _ _ rfl w.heap.size w4.heap.size t w4.heap.size m R _ (1 + y) rfl (by exact O4.out.below (al1 w4 _) (Nat.le_refl _)) rfl (by exact Wd.alloc_first _ _ _ _ rfl) (by simp; omega) (by omega) ?_; intro A7 c7 w7 h5 h6; have F7 := Lib.hid (F.out A7 c7 w7 h5 h6); clear h5 h6)
          go_roundw
          case rel => exact ⟨i - 1, rfl, F7.out⟩
          case measure => simp [intOf]; omega
      · go_wp2
        go_ret
        exact ⟨_, _, _, _, _, _, rfl, O.out, by omega, BD.out, hs1, K.out⟩
    · go_wp2
      go_ret
      exact ⟨_, _, _, _, _, _, rfl, O.out, by omega, BD.out, hs1, K.out⟩

end Go.Proofs.Ytpojkahlllochaa
