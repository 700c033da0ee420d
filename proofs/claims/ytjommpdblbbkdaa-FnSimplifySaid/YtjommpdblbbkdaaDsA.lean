/- Contracts of the library's functions that join two slices of int64. No condition but those that each theorem names. -/
import Derived.Test.YtjommpdblbbkdaaWdB
import Derived.Lib.SliceRun
import Derived.Deep.RegionHeld3
import Derived.Lib.AppendZerosOnto
import Derived.Deep.Upon
namespace Go.Proofs.Ytjommpdblbbkdaa
open Go.RowKit

/-- A list in new memory. -/
def NewS (w : World) (zs : List Int) (e : Ending) (w' : World) : Prop :=
  ∃ A c, e = .returned (.slice A zs.length c) ∧ zs.length ≤ c ∧ c ≤ maxLen ∧ Own w' w.heap.size w'.heap.size A zs.length c zs ∧ Below w.heap.size w w'

theorem own_any {w : World} {lo n : Nat} {v : Value} {zs : List Int} (h : w.ownsRow lo 2 1 v n (zs.map (Value.int .i64))) : ∃ A c, v = .slice A n c ∧ n ≤ c ∧ c ≤ maxLen ∧ Own w lo w.heap.size A n c zs := by
  obtain ⟨h1, h2⟩ := h
  rcases h2 with ⟨rfl, h0⟩ | ⟨g, cap, cur, rfl, hb, hg, hn, hm, r⟩
  · subst h0
    exact ⟨none, 0, rfl, Nat.le_refl _, by unfold maxLen; omega, ⟨h1, .inl ⟨rfl, rfl⟩⟩, fun _ h => by cases h⟩
  · have hlt : g < w.heap.size := by
      rcases Nat.lt_or_ge g w.heap.size with h' | h'
      · exact h'
      · rw [Array.getElem?_eq_none h'] at hg; cases hg
    exact ⟨some ⟨g, 0, none⟩, cap, rfl, hn, hm, ⟨h1, .inr ⟨g, cap, cur, rfl, hb, hg, hn, hm, r⟩⟩, fun a ha => by cases ha; exact hlt⟩

theorem grow_zero (w : World) : Calls Try.prog 71 #[.slice none 0 0, .int .i64 0] w (NewS w []) := by
  go_enter Try.func71, Try.ntmps71
  go_wp2
  go_ret
  exact ⟨none, 0, rfl, Nat.le_refl _, by unfold maxLen; omega, Own.none_ _ _ _, Below.refl _ _⟩

set_option maxHeartbeats 2000000 in
theorem grow_some (n : Nat) (w : World) (h0 : 0 < n) (hn : n ≤ 1048576) : Calls Try.prog 71 #[.slice none 0 0, .int .i64 n] w (NewS w []) := by
  obtain ⟨i0, hi0, hz0, hs0, hb0⟩ := info_parts info2
  have hold : (Builtin.firstCells i0.size 0 (.slice none 0 0)).run Try.prog w.drew = .ok (#[] : Array Value) w.drew := run_firstCells_none w.drew i0.size 0 0 0
  have hrz : ∀ ty, (Builtin.append_ #[34, 3] ty #[.slice none 0 0, .int .i64 (n : Int)]).run Try.prog w =
      .ok (.slice (some ⟨w.heap.size, 0, none⟩) n (grownCap w n 0 2)) (w.drew.alloc (.cells ((#[] : Array Value) ++ Builtin.zeroCells (Value.int .i64 0).cells n ++ Builtin.zeroCells (Value.int .i64 0).cells (grownCap w n 0 2 - n)) 2)) := fun ty => by
    have h := Lib.run_append_grow_zeros w 34 3 ty 2 i0 (.int .i64 0) .i64 .i64 Try.underlying34 Try.underlying3 hi0 hz0 none 0 0 [] hold n h0 (by omega) (by omega) (by omega) (by rw [hb0]; omega) (growslice_fits (by omega) (by rw [hb0]; omega))
    simpa using h
  have hGn : n ≤ grownCap w n 0 2 := grownCap_ge w _ _ _
  have hGm : grownCap w n 0 2 ≤ maxLen := grownCap_le_maxLen w _ _ _ (by unfold maxLen; omega)
  obtain ⟨G, hG⟩ : ∃ G, G = grownCap w n 0 2 := ⟨_, rfl⟩
  rw [← hG] at hrz hGn hGm
  obtain ⟨cs, hcs⟩ : ∃ cs, cs = (#[] : Array Value) ++ Builtin.zeroCells (Value.int .i64 0).cells n ++ Builtin.zeroCells (Value.int .i64 0).cells (G - n) := ⟨_, rfl⟩
  have hsz : cs.size = G * 1 := by
    rw [hcs, Array.size_append, Array.size_append, size_zeroCells, size_zeroCells]
    simp [Value.cells]
    omega
  rw [← hcs] at hrz
  have HS := Lib.hid (show NewS w [] (.returned (.slice (some ⟨w.heap.size, 0, none⟩) 0 G)) (w.drew.alloc (.cells cs 2)) from
    ⟨some ⟨w.heap.size, 0, none⟩, G, rfl, Nat.zero_le _, hGm, ⟨⟨rfl, .inr ⟨w.heap.size, G, cs, rfl, Nat.le_refl _, heap_alloc_new w.drew _, Nat.zero_le _, hGm, hsz, by simp⟩⟩, fun a ha => by cases ha; simp⟩, ((Below.refl w.heap.size w).drew).alloc (Nat.le_refl _) _⟩)
  have t0 : (0 : Int) < (n : Int) := by omega
  have hG63 : G ≤ 9223372036854775807 := by unfold maxLen at hGm; omega
  clear hold hG hcs hsz hi0 hz0 hs0 hb0
  go_enter Try.func71, Try.ntmps71
  go_wp2_with (at_builtin; refine Lib.wpList_append_run _ rfl _ _ _ _ rfl _ _ rfl rfl _ _ (hrz _) ?_)
  all_goals (go_ret; exact HS.out)

theorem grow_any (n : Nat) (w : World) (hn : n ≤ 1048576) : Calls Try.prog 71 #[.slice none 0 0, .int .i64 n] w (NewS w []) := by
  rcases Nat.eq_zero_or_pos n with rfl | h
  · exact grow_zero w
  · exact grow_some n w h hn

theorem ints_news {w : World} {B n : Nat} {ad : Addr} {zs : List Int} (h : Ints w B (some ad) n zs) : ∀ j u, (zs.map (Value.int .i64))[j]? = some u → w.cell? (ad.add j) = some u := by
  intro j u hu
  have hj : j < zs.length := by
    have := (List.getElem?_eq_some_iff.1 hu).1
    simpa using this
  have hl := h.1
  obtain ⟨b, off, e, _, h4⟩ := h.2 (by omega)
  cases e
  have h5 := h4 j (by omega)
  have e5 : (⟨b, off, none⟩ : Addr).add j = ⟨b, off + j, none⟩ := by unfold Addr.add; split <;> simp_all
  rw [e5, h5, ← hu, List.getElem?_map, List.getElem?_eq_getElem hj]
  simp [List.getElem?_eq_getElem hj]
theorem Own.of_row {w : World} {lo n : Nat} {v : Value} {zs : List Int} (h : w.ownsRow lo 2 1 v n (zs.map (Value.int .i64))) (hv : v ≠ .slice none 0 0) : ∃ g cap, v = .slice (some ⟨g, 0, none⟩) n cap ∧ n ≤ cap ∧ cap ≤ maxLen ∧ Own w lo w.heap.size (some ⟨g, 0, none⟩) n cap zs := by
  have h' := h
  rcases h.2 with ⟨e, _⟩ | ⟨g, cap, cur, rfl, hb, hg, hn, hm, _, _⟩
  · exact absurd e hv
  · have hlt : g < w.heap.size := by
      rcases Nat.lt_or_ge g w.heap.size with h1 | h1
      · exact h1
      · rw [Array.getElem?_eq_none h1] at hg; cases hg
    exact ⟨g, cap, rfl, hn, hm, h', fun a ha => by cases ha; exact hlt⟩

/-- A list is appended to a list of the call's own. -/
theorem wpList_append_list {w : World} {ops : Array Oper} {rest : List Oper} {o : Oper} {a : Act} {Q : Exit → Act → World → Prop} (hgd : o.guard = none) (s x : Operand) (ho : o.op = .call { callee := .builtin .append, args := #[s, x], argTypes := #[34, 34] })
    (lo hi B k c2 n ca : Nat) (A2 A : Option Addr) (l zs : List Int) (hs : a.eval s = .slice A2 k c2) (hown : Own w lo hi A2 k c2 l) (hkc : k ≤ c2) (hx : a.eval x = .slice A n ca) (hI : Ints w B A n zs) (hb : k + n ≤ 1048576) (hlo : lo ≤ w.heap.size) (hc : c2 ≤ maxLen) (hhi : hi ≤ w.heap.size)
    (h : ∀ A' c' w', Own w' lo w'.heap.size A' (k + n) c' (l ++ zs) → k + n ≤ c' → c' ≤ maxLen → Below lo w w' → wpList Try.prog ops Q rest (a.put o.dst (.slice A' (k + n) c')) w') : wpList Try.prog ops Q (o :: rest) a w := by
  obtain ⟨ti, hi0, hz0, hz1, hz2⟩ := info_parts info2
  rcases A with _ | ad
  · have hn0 : n = 0 := by
      rcases Nat.eq_zero_or_pos n with h0 | h0
      · exact h0
      · obtain ⟨b, off, e, _⟩ := hI.2 h0
        cases e
    subst hn0
    have hz : zs = [] := List.length_eq_zero_iff.1 hI.1
    subst hz
    have hr := run_append_nothing (P := Try.prog) w 34 34 o.type 2 ti Try.underlying34 hi0 A2 k c2 hkc (.slice none 0 ca) ⟨.inl ⟨2, Try.underlying34⟩, fun w' => by simp [Builtin.lenOf], by simp [Builtin.firstCells], by simp [Builtin.firstCells], by simp, by simp⟩
    refine Lib.wpList_append_run w hgd s x _ _ ho _ _ hs hx _ _ hr ?_
    exact h A2 c2 w (by rw [List.append_nil]; exact hown.wide (Nat.le_refl _) hhi) hkc hc (Below.refl _ _)
  · have hl : (zs.map (Value.int .i64)).length = n * 1 := by rw [List.length_map, hI.1, Nat.mul_one]
    refine wpList_append_own w hgd s x 34 ho lo 2 ti _ 1 8 Try.underlying34 hi0 hz0 hz1 hz2 rfl (by decide) (.slice A2 k c2) k (l.map (Value.int .i64)) hs hown.1 ad n ca (zs.map (Value.int .i64)) hx hl (ints_news hI) (by simp [Value.oneCell']) (by unfold maxLen; omega) (by omega) hlo ?_
    intro v' w' h1 hg _
    rw [← List.map_append] at h1
    obtain ⟨A', c', rfl, q1, q2, ho'⟩ := own_any h1
    exact h A' c' w' ho' q1 q2 ((Below.refl _ _).grown hg hlo (fun k hk => (hown.1.lt k hk).1))

/-- The same among the operations of a region whose order is drawn. -/
theorem step_append_list {w : World} {ops : Array Oper} {o : Oper} {a : Act} {K : Act → World → Prop} {Q : Exit → Act → World → Prop} {E : Prop} (hgd : o.guard = none) (s x : Operand) (ho : o.op = .call { callee := .builtin .append, args := #[s, x], argTypes := #[34, 34] })
    (lo hi B k c2 n ca : Nat) (A2 A : Option Addr) (l zs : List Int) (hs : a.eval s = .slice A2 k c2) (hown : Own w lo hi A2 k c2 l) (hkc : k ≤ c2) (hx : a.eval x = .slice A n ca) (hI : Ints w B A n zs) (hb : k + n ≤ 1048576) (hlo : lo ≤ w.heap.size) (hc : c2 ≤ maxLen) (hhi : hi ≤ w.heap.size)
    (h : ∀ A' c' w', Own w' lo w'.heap.size A' (k + n) c' (l ++ zs) → k + n ≤ c' → c' ≤ maxLen → Below lo w w' → K (a.put o.dst (.slice A' (k + n) c')) w') : if Region.wanted o (yielded ops a.tmps) = true then Oper.wp Try.prog o a w K Q else E := by
  have hw : Region.wanted o (yielded ops a.tmps) = true := by simp [Region.wanted, hgd]
  rw [if_pos hw]
  obtain ⟨ti, hi0, hz0, hz1, hz2⟩ := info_parts info2
  rcases A with _ | ad
  · have hn0 : n = 0 := by
      rcases Nat.eq_zero_or_pos n with h0 | h0
      · exact h0
      · obtain ⟨b, off, e, _⟩ := hI.2 h0
        cases e
    subst hn0
    have hz : zs = [] := List.length_eq_zero_iff.1 hI.1
    subst hz
    have hr := run_append_nothing (P := Try.prog) w 34 34 o.type 2 ti Try.underlying34 hi0 A2 k c2 hkc (.slice none 0 ca) ⟨.inl ⟨2, Try.underlying34⟩, fun w' => by simp [Builtin.lenOf], by simp [Builtin.firstCells], by simp [Builtin.firstCells], by simp, by simp⟩
    refine Lib.wp_append_run w s x _ _ ho _ _ hs hx _ _ hr ?_
    exact h A2 c2 w (by rw [List.append_nil]; exact hown.wide (Nat.le_refl _) hhi) hkc hc (Below.refl _ _)
  · have hl : (zs.map (Value.int .i64)).length = n * 1 := by rw [List.length_map, hI.1, Nat.mul_one]
    refine wp_append_own w s x 34 ho lo 2 ti _ 1 8 Try.underlying34 hi0 hz0 hz1 hz2 rfl (by decide) (.slice A2 k c2) k (l.map (Value.int .i64)) hs hown.1 ad n ca (zs.map (Value.int .i64)) hx hl (ints_news hI) (by simp [Value.oneCell']) (by unfold maxLen; omega) (by omega) hlo ?_
    intro v' w' h1 hg _
    rw [← List.map_append] at h1
    obtain ⟨A', c', rfl, q1, q2, ho'⟩ := own_any h1
    exact h A' c' w' ho' q1 q2 ((Below.refl _ _).grown hg hlo (fun k hk => (hown.1.lt k hk).1))

/-- The state of the first loop: how many lists have been counted, and their length. -/
def CatN (n m : Nat) (x y : Value) : Prop := (x = .int .i64 0 ∧ y = .int .i64 0) ∨ (x = .int .i64 1 ∧ y = .int .i64 n) ∨ (x = .int .i64 2 ∧ y = .int .i64 ((n + m : Nat) : Int))
/-- The state of the second loop: which lists have been appended. -/
def CatL (w : World) (zs ys : List Int) (x y : Value) (wr : World) : Prop :=
  ∃ A c l, ((x = .int .i64 0 ∧ l = []) ∨ (x = .int .i64 1 ∧ l = zs) ∨ (x = .int .i64 2 ∧ l = zs ++ ys)) ∧ y = .slice A l.length c ∧ l.length ≤ c ∧ c ≤ maxLen ∧ Own wr w.heap.size wr.heap.size A l.length c l ∧ Below w.heap.size w wr

set_option maxHeartbeats 4000000 in
theorem concat_any (A B : Option Addr) (n ca m cb g : Nat) (zs ys : List Int) (w : World) (hA : Ints w w.heap.size A n zs) (hB : Ints w w.heap.size B m ys) (hnm : n + m ≤ 1048576) (hg : BoxG w g (.slice A n ca) (.slice B m cb)) (hgw : g < w.heap.size) :
    Calls Try.prog 68 #[.slice (some ⟨g, 0, none⟩) 2 2] w (NewS w (zs ++ ys)) := by
  have en := hA.1
  have em := hB.1
  subst en
  subst em
  have HA := Lib.hid hA
  have HB := Lib.hid hB
  have HG := Lib.hid hg
  have ws1 : IntKind.i64.wrap ((zs.length : Int) + (ys.length : Int)) = (zs.length : Int) + (ys.length : Int) := IntWalk.i64_in _ (by omega)
  have ws2 : ¬ (zs.length : Int) + (ys.length : Int) < 0 := by omega
  have ws3 : ¬ (zs.length : Int) < 0 := by omega
  clear hA hB hg
  go_enter Try.func68, Try.ntmps68
  obtain ⟨g0, g1⟩ := HG.out
  go_wp2
  go_loopw [11, 3] (fun x y wr => CatN zs.length ys.length x y ∧ wr = w) (fun x _ _ => 2 - (intOf x).toNat)
  case atStart => exact ⟨.inl ⟨rfl, rfl⟩, rfl⟩
  case round =>
    obtain ⟨hrel, rfl⟩ := hrel
    rcases hrel with ⟨rfl, rfl⟩ | ⟨rfl, rfl⟩ | ⟨rfl, rfl⟩
    · go_wp2
      go_roundw
      case rel => exact ⟨.inr (.inl ⟨by go_num, by go_num⟩), trivial⟩
      case measure => simp [intOf]
    · go_wp2
      go_roundw
      case rel => exact ⟨.inr (.inr ⟨by go_num, by go_num⟩), trivial⟩
      case measure => simp [intOf]
    · have GR := Lib.hid (fun W => grow_any (zs.length + ys.length) W hnm)
      obtain ⟨w0, rfl⟩ : ∃ w0, w0 = wr := ⟨_, rfl⟩
      go_wp2_with fail
      refine (GR.out _).mono ?_
      rintro e w1 ⟨A1, c1, rfl, q1, q2, hown, hb⟩
      have O1 := Lib.hid hown
      have B1 := Lib.hid hb
      clear hown hb g0 g1 ws1 ws2 ws3
      go_wp2
      go_loopw [27, 6] (fun x y w2 => CatL w0 zs ys x y w2) (fun x _ _ => 2 - (intOf x).toNat)
      case atStart => exact ⟨A1, c1, [], .inl ⟨rfl, rfl⟩, rfl, q1, q2, O1.out, B1.out⟩
      case round =>
        obtain ⟨A2, c2, l, hx, rfl, r1, r2, hown, hb⟩ := hrel
        have O2 := Lib.hid hown
        have B2 := Lib.hid hb
        have zb : w0.heap.size ≤ wr.heap.size := hb.size
        obtain ⟨g0, g1⟩ := HG.out.below hb hgw
        clear hown hb
        rcases hx with ⟨rfl, rfl⟩ | ⟨rfl, rfl⟩ | ⟨rfl, rfl⟩
        · go_wp2_with (at_builtin; refine wpList_append_list rfl _ _ rfl w0.heap.size wr.heap.size w0.heap.size 0 c2 zs.length ca A2 A [] zs rfl O2.out r1 rfl (HA.out.below B2.out) (by omega) zb r2 (Nat.le_refl _) ?_; rw [Nat.zero_add]; intro A5 c5 w5 h5 h6 h7 h8; have O5 := Lib.hid h5; have B5 := Lib.hid (B2.out.trans h8); clear h5 h8)
          go_roundw
          case rel => exact ⟨A5, c5, zs, .inr (.inl ⟨by go_num, rfl⟩), rfl, h6, h7, O5.out, B5.out⟩
          case measure => simp [intOf]
        · go_wp2_with (at_builtin; refine wpList_append_list rfl _ _ rfl w0.heap.size wr.heap.size w0.heap.size l.length c2 ys.length cb A2 B l ys rfl O2.out r1 rfl (HB.out.below B2.out) (by omega) zb r2 (Nat.le_refl _) ?_; rw [← List.length_append]; intro A5 c5 w5 h5 h6 h7 h8; have O5 := Lib.hid h5; have B5 := Lib.hid (B2.out.trans h8); clear h5 h8)
          go_roundw
          case rel => exact ⟨A5, c5, _, .inr (.inr ⟨by go_num, rfl⟩), by rw [List.length_append], h6, h7, O5.out, B5.out⟩
          case measure => simp [intOf]
        · go_wp2
          go_ret
          exact ⟨A2, c2, rfl, r1, r2, O2.out, B2.out⟩

end Go.Proofs.Ytjommpdblbbkdaa
