/- Slices of int64 that a call owns, and contracts of the functions that mark such slices and look the marks up again. No condition but those that each theorem names. -/
import Derived.Test.YtjendlfophdfeaaDoorMatD
namespace Go.Proofs.YtjendlfophdfeaaDoor
open Go.RowKit

/-- A slice of int64 in memory of the call's own: nil, or a row in a block from lo on and below hi. -/
def Own (w : World) (lo hi : Nat) (A : Option Addr) (n c : Nat) (zs : List Int) : Prop :=
  w.ownsRow lo 2 1 (.slice A n c) n (zs.map (Value.int .i64)) ∧ ∀ a, A = some a → a.block < hi

/-- Of what was there only blocks from lo on and below hi may have turned. -/
structure Kept (lo hi : Nat) (w w' : World) : Prop where
  os : w'.os = w.os
  tape : w'.tape = w.tape
  output : w'.output = w.output
  size : w.heap.size ≤ w'.heap.size
  block : ∀ k, k < w.heap.size → ¬ (lo ≤ k ∧ k < hi) → w'.heap[k]? = w.heap[k]?

def Free (w : World) (g : Nat) : Prop := ∀ o, w.frozen? ⟨g, o, none⟩ = false
theorem Free.new (w : World) (t : TypeId) (x : Array Value) : Free (w.alloc (.cells x t)) w.heap.size := fun o => by simp [go_sem]
theorem Free.below {w w' : World} {g B : Nat} (h : Free w g) (hb : Below B w w') (hg : g < B) : Free w' g := fun o => (hb.frozen (p := ⟨g, o, none⟩) hg).trans (h o)

section
variable {w w' : World} {lo hi : Nat} {A : Option Addr} {n c : Nat} {zs : List Int}
theorem Kept.refl (lo hi : Nat) (w : World) : Kept lo hi w w := ⟨rfl, rfl, rfl, Nat.le_refl _, fun _ _ _ => rfl⟩
theorem Kept.trans {a b d : World} (h : Kept lo hi a b) (k : Kept lo hi b d) : Kept lo hi a d :=
  ⟨k.os.trans h.os, k.tape.trans h.tape, k.output.trans h.output, Nat.le_trans h.size k.size, fun i hi' hn => (k.block i (Nat.lt_of_lt_of_le hi' h.size) hn).trans (h.block i hi' hn)⟩
theorem Kept.of_below (h : Below w.heap.size w w') (lo hi : Nat) : Kept lo hi w w' := ⟨h.os, h.tape, h.output, h.size, fun k hk _ => h.block k hk⟩
theorem Kept.below {B : Nat} (h : Kept lo hi w w') (hB : B ≤ lo) (hw : B ≤ w.heap.size) : Below B w w' := ⟨h.os, h.tape, h.output, h.size, fun k hk => h.block k (by omega) (by omega)⟩
theorem Kept.below_none {B : Nat} (h : Kept lo hi w w') (hl : hi ≤ lo) (hw : B ≤ w.heap.size) : Below B w w' := ⟨h.os, h.tape, h.output, h.size, fun k hk => h.block k (by omega) (by omega)⟩
theorem Kept.set_ {a : World} (h : Kept lo hi a w) {p : Addr} (h1 : lo ≤ p.block) (h2 : p.block < hi) (u : Value) : Kept lo hi a (w.setCell p u) :=
  ⟨h.os, h.tape, h.output, by simpa [World.setCell] using h.size, fun k hk hn => (Below.heap_setCell w p u k (by omega)).trans (h.block k hk hn)⟩
theorem Kept.alloc {a : World} (h : Kept lo hi a w) (o : Obj) : Kept lo hi a (w.alloc o) :=
  ⟨h.os, h.tape, h.output, Nat.le_trans h.size (by simp), fun k hk hn => (Below.heap_alloc w o k (Nat.lt_of_lt_of_le hk h.size)).trans (h.block k hk hn)⟩
theorem Kept.wide {lo' hi' : Nat} (h : Kept lo hi w w') (h1 : lo' ≤ lo) (h2 : hi ≤ hi') : Kept lo' hi' w w' := ⟨h.os, h.tape, h.output, h.size, fun k hk hn => h.block k hk (by omega)⟩
theorem Kept.drewN {a : World} (h : Kept lo hi a w) (k : Nat) : Kept lo hi a (w.drewN k) := ⟨h.os, h.tape, h.output, h.size, h.block⟩
theorem Box3.kept {g : Nat} {x y z : Value} (h : Box3 w g x y z) (hk : Kept lo hi w w') (hg : g < w.heap.size) (hn : ¬ (lo ≤ g ∧ g < hi)) : Box3 w' g x y z :=
  ⟨(World.cell?_of_block (a := ⟨g, 0, none⟩) (hk.block g hg hn)).trans h.1, (World.cell?_of_block (a := ⟨g, 1, none⟩) (hk.block g hg hn)).trans h.2.1, (World.cell?_of_block (a := ⟨g, 2, none⟩) (hk.block g hg hn)).trans h.2.2⟩
theorem Free.kept {g : Nat} (h : Free w g) (hk : Kept lo hi w w') (hg : g < w.heap.size) (hn : ¬ (lo ≤ g ∧ g < hi)) : Free w' g := fun o => (World.frozen?_of_block (a := ⟨g, o, none⟩) (hk.block g hg hn)).trans (h o)
theorem Ints.kept {B : Nat} (h : Ints w B A n zs) (hk : Kept lo hi w w') (hB : B ≤ lo) (hw : B ≤ w.heap.size) : Ints w' B A n zs :=
  h.below (hk.below hB hw)

theorem Own.len (h : Own w lo hi A n c zs) : zs.length = n := by have := h.1.1; simpa using this
theorem Own.none_ (w : World) (lo hi : Nat) : Own w lo hi none 0 0 [] := ⟨World.ownsRow_nil _ _ _ _, fun _ h => by cases h⟩
theorem Own.of_blk {g : Nat} (h : Blk w g zs) (h1 : lo ≤ g) (h2 : g < hi) (hn : zs.length = n) (hm : n ≤ maxLen) : Own w lo hi (some ⟨g, 0, none⟩) n n zs :=
  ⟨⟨by simpa using hn, .inr ⟨g, n, _, rfl, h1, h, Nat.le_refl _, hm, by simpa using hn, by simp [← hn, List.take_of_length_le]⟩⟩, fun a ha => by cases ha; exact h2⟩
theorem Own.at_ (h : Own w lo hi A n c zs) {k : Nat} (hk : k < n) : ∃ g z, A = some ⟨g, 0, none⟩ ∧ lo ≤ g ∧ g < hi ∧ zs.getD k 0 = z ∧ w.cell? ⟨g, k, none⟩ = some (.int .i64 z) ∧ w.frozen? ⟨g, k, none⟩ = false := by
  obtain ⟨g, cap, hv, hb, _⟩ := h.1.form (by omega)
  injection hv with h1 h2 h3
  subst h1 h3
  have hl := h.len
  refine ⟨g, _, rfl, hb, h.2 _ rfl, rfl, ?_, h.1.frozenAt k⟩
  rw [h.1.cellAt k (by omega)]
  simp [List.getElem?_eq_getElem (show k < zs.length by omega)]
theorem Own.set_ {g : Nat} (h : Own w lo hi (some ⟨g, 0, none⟩) n c zs) (k : Nat) (u : Int) : Own (w.setCell ⟨g, k, none⟩ (.int .i64 u)) lo hi (some ⟨g, 0, none⟩) n c (zs.set k u) :=
  ⟨by rw [List.map_set]; exact (h.1.stored k _).1, h.2⟩
theorem Own.keep (h : Own w lo hi A n c zs) (hk : ∀ k, lo ≤ k → k < hi → w'.heap[k]? = w.heap[k]?) : Own w' lo hi A n c zs := by
  refine ⟨⟨h.1.1, ?_⟩, h.2⟩
  rcases h.1.2 with h0 | ⟨g, cap, cur, hv, hb, hg, r⟩
  · exact .inl h0
  · refine .inr ⟨g, cap, cur, hv, hb, ?_, r⟩
    injection hv with h1 h2 h3
    rw [hk g hb (h.2 _ h1)]
    exact hg
theorem Own.below {B : Nat} (h : Own w lo hi A n c zs) (hb : Below B w w') (hB : hi ≤ B) : Own w' lo hi A n c zs := h.keep fun k _ h2 => hb.block k (by omega)
theorem Own.kept {lo' hi' : Nat} (h : Own w lo hi A n c zs) (hb : Kept lo' hi' w w') (hw : hi ≤ w.heap.size) (hd : hi ≤ lo' ∨ hi' ≤ lo) : Own w' lo hi A n c zs := h.keep fun k h1 h2 => hb.block k (by omega) (by omega)
theorem Own.wide {lo' hi' : Nat} (h : Own w lo hi A n c zs) (h1 : lo' ≤ lo) (h2 : hi ≤ hi') : Own w lo' hi' A n c zs :=
  ⟨⟨h.1.1, h.1.2.elim .inl fun ⟨g, cap, cur, hv, hb, r⟩ => .inr ⟨g, cap, cur, hv, by omega, r⟩⟩, fun a ha => by have := h.2 a ha; omega⟩
theorem Own.far (h : Own w lo hi A n c zs) {p : Addr} (hp : p.block < lo ∨ hi ≤ p.block) (u : Value) : Own (w.setCell p u) lo hi A n c zs := h.keep fun k h1 h2 => Below.heap_setCell w p u k (by omega)
theorem Own.ints (h : Own w lo hi A n c zs) : Ints w hi A n zs := by
  refine ⟨h.len, fun h0 => ?_⟩
  obtain ⟨g, z, rfl, hlo, hhi, _⟩ := h.at_ h0
  refine ⟨g, 0, rfl, hhi, fun j hj => ?_⟩
  obtain ⟨g', z', e, _, _, hz, hc, _⟩ := h.at_ hj
  cases e
  rw [Nat.zero_add, hz]
  exact hc
end

/-- The numbers k, k + 1, .. -/
def marks (k : Int) (n : Nat) : List Int := (List.range n).map fun i : Nat => k + (i : Int)
theorem marks_len (k : Int) (n : Nat) : (marks k n).length = n := by simp [marks]
theorem marks_at (k : Int) {n i : Nat} (h : i < n) : (marks k n).getD i 0 = k + i := by simp [marks, h]
def marked (k : Int) (zs : List Int) (j : Nat) : List Int := marks k j ++ zs.drop j
theorem marked_zero (k : Int) (zs : List Int) : marked k zs 0 = zs := by simp [marked, marks]
theorem marked_full (k : Int) (zs : List Int) {n : Nat} (h : zs.length = n) : marked k zs n = marks k n := by simp [marked, h]
theorem marked_set (k : Int) (zs : List Int) {j : Nat} (h : j < zs.length) : (marked k zs j).set j (k + j) = marked k zs (j + 1) := by
  apply List.ext_getElem
  · simp [marked, marks_len]; omega
  · intro i h1 h2
    simp only [marked, marks, List.getElem_set, List.getElem_append, List.length_map, List.length_range, List.getElem_map, List.getElem_range, List.getElem_drop]
    by_cases e : j = i
    · subst e; simp
    · rw [if_neg e]
      by_cases e2 : i < j
      · rw [dif_pos e2, dif_pos (by omega)]
      · rw [dif_neg e2, dif_neg (by omega)]
        congr 1
        omega

set_option maxHeartbeats 400000 in
theorem markInts_any (A : Option Addr) (n c : Nat) (k : Int) (zs : List Int) (lo hi : Nat) (w : World) (h : Own w lo hi A n c zs) (hn : n ≤ 1048576) (h0 : 0 ≤ k) (h1 : k ≤ 1099511627776) :
    Calls Tryd.prog 47 #[.slice A n c, .int .i64 k] w fun e w' => e = .returned (.int .i64 (k + n)) ∧ Own w' lo hi A n c (marks k n) ∧ Kept lo hi w w' := by
  have hl := Lib.hid h.len
  have H := Lib.hid h
  clear h
  go_enter Tryd.func47, Tryd.ntmps47
  go_wp2
  go_loopw [5, 1] (fun i m wr => ∃ j : Nat, j ≤ n ∧ i = .int .i64 j ∧ m = .int .i64 (k + j) ∧ Own wr lo hi A n c (marked k zs j) ∧ Kept lo hi w wr) (fun i _ _ => n - (intOf i).toNat)
  case atStart => exact ⟨0, Nat.zero_le _, rfl, by go_num, by rw [marked_zero]; exact H.out, Kept.refl _ _ _⟩
  case round =>
    obtain ⟨j, hj, rfl, rfl, hown, hkept⟩ := hrel
    by_cases hlt : j < n
    · obtain ⟨g, z, rfl, hlo, hhi, hz, hc, hf⟩ := hown.at_ hlt
      have HO := Lib.hid hown
      have HK := Lib.hid hkept
      clear hown hkept hz
      go_wp2
      go_roundw
      case rel => exact ⟨j + 1, by omega, by go_num, by go_num, by rw [← marked_set k zs (by rw [hl.out]; exact hlt)]; exact HO.out.set_ _ _, HK.out.set_ hlo hhi _⟩
      case measure => simp [intOf]; omega
    · obtain rfl : j = n := by omega
      rw [marked_full k zs hl.out] at hown
      go_wp2
      go_ret
      exact ⟨rfl, hown, hkept⟩

set_option maxHeartbeats 400000 in
theorem heldInts_any (A : Option Addr) (n c : Nat) (k : Int) (B : Nat) (w : World) (h : Ints w B A n (marks k n)) (hn : n ≤ 1048576) (h0 : 0 ≤ k) (h1 : k ≤ 1099511627776) :
    Calls Tryd.prog 48 #[.slice A n c, .int .i64 k] w fun e w' => e = .returned (.int .i64 (k + n)) ∧ w = w' := by
  have H := Lib.hid h
  clear h
  go_enter Tryd.func48, Tryd.ntmps48
  go_wp2
  go_loop [5, 1] (fun i m => ∃ j : Nat, j ≤ n ∧ i = .int .i64 j ∧ m = .int .i64 (k + j)) (fun i _ => n - (intOf i).toNat)
  case atStart => exact ⟨0, Nat.zero_le _, rfl, by go_num⟩
  case round =>
    obtain ⟨j, hj, rfl, rfl⟩ := hrel
    by_cases hlt : j < n
    · obtain ⟨b, off, z, rfl, hb, hz, hc⟩ := H.out.at_z hlt
      rw [marks_at k hlt] at hz
      subst hz
      go_wp2
      go_round
      case rel => exact ⟨j + 1, by omega, by go_num, by go_num⟩
      case measure => simp [intOf]; omega
    · obtain rfl : j = n := by omega
      go_wp2
      go_ret
      exact ⟨rfl, rfl⟩

theorem Own.al {w W : World} {lo hi : Nat} {A : Option Addr} {n c : Nat} {zs : List Int} (h : Own w lo hi A n c zs) (hw : hi ≤ w.heap.size) (hb : Below w.heap.size w W) : Own W lo hi A n c zs := h.below hb hw

end Go.Proofs.YtjendlfophdfeaaDoor
