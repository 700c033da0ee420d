/- Contracts of the library's functions that join two slices of int64. No condition but those that each theorem names. -/
import Derived.Test.YtakokhfnllpahaaWdB
import Derived.Lib.SliceRun
import Derived.Deep.RegionHeld3
import Derived.Lib.AppendZerosOnto
import Derived.Deep.Upon
namespace Go.Proofs.Ytakokhfnllpahaa
open Go.RowKit

/-- A list in new memory. -/
def NewS (w : World) (zs : List Int) (e : Ending) (w' : World) : Prop :=
  ∃ A c, e = .returned (.slice A zs.length c) ∧ zs.length ≤ c ∧ c ≤ maxLen ∧ Own w' w.heap.size w'.heap.size A zs.length c zs ∧ Below w.heap.size w w'

theorem own_any {w : World} {lo n : Nat} {v : Value} {zs : List Int} (h : w.ownsRow lo 2 1 v n (zs.map (Value.int .i64))) : ∃ A c, v = .slice A n c ∧ n ≤ c ∧ c ≤ maxLen ∧ Own w lo w.heap.size A n c zs := by
  obtain ⟨h1, h2⟩ := h
  rcases h2 with ⟨rfl, h0⟩ | ⟨g, cap, cur, rfl, hb, hg, hn, hm, r⟩
  · subst h0
    exact ⟨none, 0, rfl, Nat.le_refl _, by unfold maxLen; omega, ⟨h1, .inl ⟨rfl, rfl⟩⟩, fun _ h => by cases h⟩
  · have hlt : g < w.heap.size := by
      rcases Nat.lt_or_ge g w.heap.size with h' | h'
      · exact h'
      · rw [Array.getElem?_eq_none h'] at hg; cases hg
    exact ⟨some ⟨g, 0, none⟩, cap, rfl, hn, hm, ⟨h1, .inr ⟨g, cap, cur, rfl, hb, hg, hn, hm, r⟩⟩, fun a ha => by cases ha; exact hlt⟩

theorem ints_news {w : World} {B n : Nat} {ad : Addr} {zs : List Int} (h : Ints w B (some ad) n zs) : ∀ j u, (zs.map (Value.int .i64))[j]? = some u → w.cell? (ad.add j) = some u := by
  intro j u hu
  have hj : j < zs.length := by
    have := (List.getElem?_eq_some_iff.1 hu).1
    simpa using this
  have hl := h.1
  obtain ⟨b, off, e, _, h4⟩ := h.2 (by omega)
  cases e
  have h5 := h4 j (by omega)
  have e5 : (⟨b, off, none⟩ : Addr).add j = ⟨b, off + j, none⟩ := by unfold Addr.add; split <;> simp_all
  rw [e5, h5, ← hu, List.getElem?_map, List.getElem?_eq_getElem hj]
  simp [List.getElem?_eq_getElem hj]
theorem Own.of_row {w : World} {lo n : Nat} {v : Value} {zs : List Int} (h : w.ownsRow lo 2 1 v n (zs.map (Value.int .i64))) (hv : v ≠ .slice none 0 0) : ∃ g cap, v = .slice (some ⟨g, 0, none⟩) n cap ∧ n ≤ cap ∧ cap ≤ maxLen ∧ Own w lo w.heap.size (some ⟨g, 0, none⟩) n cap zs := by
  have h' := h
  rcases h.2 with ⟨e, _⟩ | ⟨g, cap, cur, rfl, hb, hg, hn, hm, _, _⟩
  · exact absurd e hv
  · have hlt : g < w.heap.size := by
      rcases Nat.lt_or_ge g w.heap.size with h1 | h1
      · exact h1
      · rw [Array.getElem?_eq_none h1] at hg; cases hg
    exact ⟨g, cap, rfl, hn, hm, h', fun a ha => by cases ha; exact hlt⟩

/-- A list is appended to a list of the call's own. -/
theorem wpList_append_list {w : World} {ops : Array Oper} {rest : List Oper} {o : Oper} {a : Act} {Q : Exit → Act → World → Prop} (hgd : o.guard = none) (s x : Operand) (ho : o.op = .call { callee := .builtin .append, args := #[s, x], argTypes := #[38, 38] })
    (lo hi B k c2 n ca : Nat) (A2 A : Option Addr) (l zs : List Int) (hs : a.eval s = .slice A2 k c2) (hown : Own w lo hi A2 k c2 l) (hkc : k ≤ c2) (hx : a.eval x = .slice A n ca) (hI : Ints w B A n zs) (hb : k + n ≤ 1048576) (hlo : lo ≤ w.heap.size) (hc : c2 ≤ maxLen) (hhi : hi ≤ w.heap.size)
    (h : ∀ A' c' w', Own w' lo w'.heap.size A' (k + n) c' (l ++ zs) → k + n ≤ c' → c' ≤ maxLen → Below lo w w' → wpList Try.prog ops Q rest (a.put o.dst (.slice A' (k + n) c')) w') : wpList Try.prog ops Q (o :: rest) a w := by
  obtain ⟨ti, hi0, hz0, hz1, hz2⟩ := info_parts info2
  rcases A with _ | ad
  · have hn0 : n = 0 := by
      rcases Nat.eq_zero_or_pos n with h0 | h0
      · exact h0
      · obtain ⟨b, off, e, _⟩ := hI.2 h0
        cases e
    subst hn0
    have hz : zs = [] := List.length_eq_zero_iff.1 hI.1
    subst hz
    have hr := run_append_nothing (P := Try.prog) w 38 38 o.type 2 ti Try.underlying38 hi0 A2 k c2 hkc (.slice none 0 ca) ⟨.inl ⟨2, Try.underlying38⟩, fun w' => by simp [Builtin.lenOf], by simp [Builtin.firstCells], by simp [Builtin.firstCells], by simp, by simp⟩
    refine Lib.wpList_append_run w hgd s x _ _ ho _ _ hs hx _ _ hr ?_
    exact h A2 c2 w (by rw [List.append_nil]; exact hown.wide (Nat.le_refl _) hhi) hkc hc (Below.refl _ _)
  · have hl : (zs.map (Value.int .i64)).length = n * 1 := by rw [List.length_map, hI.1, Nat.mul_one]
    refine wpList_append_own w hgd s x 38 ho lo 2 ti _ 1 8 Try.underlying38 hi0 hz0 hz1 hz2 rfl (by decide) (.slice A2 k c2) k (l.map (Value.int .i64)) hs hown.1 ad n ca (zs.map (Value.int .i64)) hx hl (ints_news hI) (by simp [Value.oneCell']) (by unfold maxLen; omega) (by omega) hlo ?_
    intro v' w' h1 hg _
    rw [← List.map_append] at h1
    obtain ⟨A', c', rfl, q1, q2, ho'⟩ := own_any h1
    exact h A' c' w' ho' q1 q2 ((Below.refl _ _).grown hg hlo (fun k hk => (hown.1.lt k hk).1))

/-- The same among the operations of a region whose order is drawn. -/
theorem step_append_list {w : World} {ops : Array Oper} {o : Oper} {a : Act} {K : Act → World → Prop} {Q : Exit → Act → World → Prop} {E : Prop} (hgd : o.guard = none) (s x : Operand) (ho : o.op = .call { callee := .builtin .append, args := #[s, x], argTypes := #[38, 38] })
    (lo hi B k c2 n ca : Nat) (A2 A : Option Addr) (l zs : List Int) (hs : a.eval s = .slice A2 k c2) (hown : Own w lo hi A2 k c2 l) (hkc : k ≤ c2) (hx : a.eval x = .slice A n ca) (hI : Ints w B A n zs) (hb : k + n ≤ 1048576) (hlo : lo ≤ w.heap.size) (hc : c2 ≤ maxLen) (hhi : hi ≤ w.heap.size)
    (h : ∀ A' c' w', Own w' lo w'.heap.size A' (k + n) c' (l ++ zs) → k + n ≤ c' → c' ≤ maxLen → Below lo w w' → K (a.put o.dst (.slice A' (k + n) c')) w') : if Region.wanted o (yielded ops a.tmps) = true then Oper.wp Try.prog o a w K Q else E := by
  have hw : Region.wanted o (yielded ops a.tmps) = true := by simp [Region.wanted, hgd]
  rw [if_pos hw]
  obtain ⟨ti, hi0, hz0, hz1, hz2⟩ := info_parts info2
  rcases A with _ | ad
  · have hn0 : n = 0 := by
      rcases Nat.eq_zero_or_pos n with h0 | h0
      · exact h0
      · obtain ⟨b, off, e, _⟩ := hI.2 h0
        cases e
    subst hn0
    have hz : zs = [] := List.length_eq_zero_iff.1 hI.1
    subst hz
    have hr := run_append_nothing (P := Try.prog) w 38 38 o.type 2 ti Try.underlying38 hi0 A2 k c2 hkc (.slice none 0 ca) ⟨.inl ⟨2, Try.underlying38⟩, fun w' => by simp [Builtin.lenOf], by simp [Builtin.firstCells], by simp [Builtin.firstCells], by simp, by simp⟩
    refine Lib.wp_append_run w s x _ _ ho _ _ hs hx _ _ hr ?_
    exact h A2 c2 w (by rw [List.append_nil]; exact hown.wide (Nat.le_refl _) hhi) hkc hc (Below.refl _ _)
  · have hl : (zs.map (Value.int .i64)).length = n * 1 := by rw [List.length_map, hI.1, Nat.mul_one]
    refine wp_append_own w s x 38 ho lo 2 ti _ 1 8 Try.underlying38 hi0 hz0 hz1 hz2 rfl (by decide) (.slice A2 k c2) k (l.map (Value.int .i64)) hs hown.1 ad n ca (zs.map (Value.int .i64)) hx hl (ints_news hI) (by simp [Value.oneCell']) (by unfold maxLen; omega) (by omega) hlo ?_
    intro v' w' h1 hg _
    rw [← List.map_append] at h1
    obtain ⟨A', c', rfl, q1, q2, ho'⟩ := own_any h1
    exact h A' c' w' ho' q1 q2 ((Below.refl _ _).grown hg hlo (fun k hk => (hown.1.lt k hk).1))

/-- The state of the first loop: how many lists have been counted, and their length. -/
def CatN (n m : Nat) (x y : Value) : Prop := (x = .int .i64 0 ∧ y = .int .i64 0) ∨ (x = .int .i64 1 ∧ y = .int .i64 n) ∨ (x = .int .i64 2 ∧ y = .int .i64 ((n + m : Nat) : Int))
/-- The state of the second loop: which lists have been appended. -/
def CatL (w : World) (zs ys : List Int) (x y : Value) (wr : World) : Prop :=
  ∃ A c l, ((x = .int .i64 0 ∧ l = []) ∨ (x = .int .i64 1 ∧ l = zs) ∨ (x = .int .i64 2 ∧ l = zs ++ ys)) ∧ y = .slice A l.length c ∧ l.length ≤ c ∧ c ≤ maxLen ∧ Own wr w.heap.size wr.heap.size A l.length c l ∧ Below w.heap.size w wr

end Go.Proofs.Ytakokhfnllpahaa
