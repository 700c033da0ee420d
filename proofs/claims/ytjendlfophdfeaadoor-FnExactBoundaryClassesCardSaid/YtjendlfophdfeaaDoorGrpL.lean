/- Contracts of the laws' helpers over groups (a lowest exponent and a list): sizes, copies, comparisons, marks; slices of a call's own from any place of their block. No condition but those that each theorem names. -/
import Derived.Test.YtjendlfophdfeaaDoorGrpA
import Derived.Test.YtjendlfophdfeaaDoorLauP
namespace Go.Proofs.YtjendlfophdfeaaDoor
open Go.RowKit

/-- A slice in memory of the call's own, from any place of its block: nil, or cells that may be written in a block from lo on and below hi. -/
def Mine (w : World) (lo hi : Nat) (A : Option Addr) (n : Nat) (zs : List Int) : Prop :=
  zs.length = n ∧ (0 < n → ∃ b off, A = some ⟨b, off, none⟩ ∧ lo ≤ b ∧ b < hi ∧ ∀ j, j < n → w.cell? ⟨b, off + j, none⟩ = some (.int .i64 (zs.getD j 0)) ∧ w.frozen? ⟨b, off + j, none⟩ = false)
section
variable {w w' : World} {lo hi : Nat} {A : Option Addr} {n : Nat} {zs : List Int}
theorem Mine.len (h : Mine w lo hi A n zs) : zs.length = n := h.1
theorem Mine.none_ (w : World) (lo hi : Nat) (A : Option Addr) : Mine w lo hi A 0 [] := ⟨rfl, fun h => absurd h (by omega)⟩
theorem Mine.at_ (h : Mine w lo hi A n zs) {k : Nat} (hk : k < n) : ∃ b off z, A = some ⟨b, off, none⟩ ∧ lo ≤ b ∧ b < hi ∧ zs.getD k 0 = z ∧ w.cell? ⟨b, off + k, none⟩ = some (.int .i64 z) ∧ w.frozen? ⟨b, off + k, none⟩ = false := by
  obtain ⟨b, off, e, h1, h2, h3⟩ := h.2 (by omega)
  exact ⟨b, off, _, e, h1, h2, rfl, (h3 k hk).1, (h3 k hk).2⟩
theorem Mine.ints (h : Mine w lo hi A n zs) : Ints w hi A n zs := ⟨h.1, fun h0 => by
  obtain ⟨b, off, e, _, h2, h3⟩ := h.2 h0
  exact ⟨b, off, e, h2, fun j hj => (h3 j hj).1⟩⟩
theorem Mine.keep (h : Mine w lo hi A n zs) (hk : ∀ k, lo ≤ k → k < hi → w'.heap[k]? = w.heap[k]?) : Mine w' lo hi A n zs := ⟨h.1, fun h0 => by
  obtain ⟨b, off, e, h1, h2, h3⟩ := h.2 h0
  exact ⟨b, off, e, h1, h2, fun j hj => ⟨(World.cell?_of_block (a := ⟨b, off + j, none⟩) (hk b h1 h2)).trans (h3 j hj).1, (World.frozen?_of_block (a := ⟨b, off + j, none⟩) (hk b h1 h2)).trans (h3 j hj).2⟩⟩⟩
theorem Mine.below {B : Nat} (h : Mine w lo hi A n zs) (hb : Below B w w') (hB : hi ≤ B) : Mine w' lo hi A n zs := h.keep fun k _ h2 => hb.block k (by omega)
theorem Mine.al (h : Mine w lo hi A n zs) (hw : hi ≤ w.heap.size) (hb : Below w.heap.size w w') : Mine w' lo hi A n zs := h.below hb hw
theorem Mine.kept {lo' hi' : Nat} (h : Mine w lo hi A n zs) (hb : Kept lo' hi' w w') (hw : hi ≤ w.heap.size) (hd : hi ≤ lo' ∨ hi' ≤ lo) : Mine w' lo hi A n zs := h.keep fun k h1 h2 => hb.block k (by omega) (by omega)
theorem Mine.wide {lo' hi' : Nat} (h : Mine w lo hi A n zs) (h1 : lo' ≤ lo) (h2 : hi ≤ hi') : Mine w lo' hi' A n zs := ⟨h.1, fun h0 => by
  obtain ⟨b, off, e, h3, h4, h5⟩ := h.2 h0
  exact ⟨b, off, e, by omega, by omega, h5⟩⟩
theorem Mine.far (h : Mine w lo hi A n zs) {p : Addr} (hp : p.block < lo ∨ hi ≤ p.block) (u : Value) : Mine (w.setCell p u) lo hi A n zs := h.keep fun k h1 h2 => Below.heap_setCell w p u k (by omega)
theorem Mine.drewN (h : Mine w lo hi A n zs) (k : Nat) : Mine (w.drewN k) lo hi A n zs := h
theorem Own.mine {c : Nat} (h : Own w lo hi A n c zs) : Mine w lo hi A n zs := ⟨h.len, fun h0 => by
  obtain ⟨g, z, e, h1, h2, _⟩ := h.at_ h0
  refine ⟨g, 0, e, h1, h2, fun j hj => ?_⟩
  obtain ⟨g', z', e', _, _, hz, hc, hf⟩ := h.at_ hj
  rw [e] at e'
  cases e'
  rw [Nat.zero_add, hz]
  exact ⟨hc, hf⟩⟩
theorem Mine.of_blk {g : Nat} (h : Blk w g zs) (h1 : lo ≤ g) (h2 : g < hi) (hn : zs.length = n) : Mine w lo hi (some ⟨g, 0, none⟩) n zs :=
  ⟨hn, fun _ => ⟨g, 0, rfl, h1, h2, fun j hj => by rw [Nat.zero_add]; exact ⟨h.cell (by omega), h.frozen j⟩⟩⟩
theorem Mine.set_ {b off : Nat} (h : Mine w lo hi (some ⟨b, off, none⟩) n zs) {j : Nat} (hj : j < n) (u : Int) : Mine (w.setCell ⟨b, off + j, none⟩ (.int .i64 u)) lo hi (some ⟨b, off, none⟩) n (zs.set j u) := ⟨by rw [List.length_set]; exact h.1, fun h0 => by
  obtain ⟨b', off', e, h1, h2, h3⟩ := h.2 h0
  cases e
  refine ⟨b, off, rfl, h1, h2, fun i hi' => ⟨?_, by rw [World.frozen?_setCell]; exact (h3 i hi').2⟩⟩
  by_cases e : j = i
  · subst e
    rw [List.getD_eq_getElem?_getD, List.getElem?_set_self (by rw [h.1]; exact hj)]
    exact World.cell?_setCell_same _ _ _ (h3 j hj).1
  · rw [List.getD_eq_getElem?_getD, List.getElem?_set_ne e, ← List.getD_eq_getElem?_getD, World.cell?_setCell_other _ _ _ _ (by simp <;> omega)]
    exact (h3 i hi').1⟩
theorem Mine.set_z {b : Nat} (h : Mine w lo hi (some ⟨b, 0, none⟩) n zs) {j : Nat} (hj : j < n) (u : Int) : Mine (w.setCell ⟨b, j, none⟩ (.int .i64 u)) lo hi (some ⟨b, 0, none⟩) n (zs.set j u) := by
  have := h.set_ hj u
  rwa [Nat.zero_add] at this
/-- A part of it. -/
theorem Mine.part {b off : Nat} (h : Mine w lo hi (some ⟨b, off, none⟩) n zs) {i j : Nat} (hij : i ≤ j) (hj : j ≤ n) : Mine w lo hi (some ⟨b, off + i, none⟩) (j - i) (Lau.cut zs i j) := ⟨Lau.cut_len (by rw [h.1]; exact hj), fun h0 => by
  obtain ⟨b', off', e, h1, h2, h3⟩ := h.2 (by omega)
  cases e
  refine ⟨b, off + i, rfl, h1, h2, fun t ht => ?_⟩
  rw [Lau.cut_at ht, Nat.add_assoc]
  exact h3 (i + t) (by omega)⟩
end

set_option maxHeartbeats 400000 in
theorem markMine_any (A : Option Addr) (n c : Nat) (k : Int) (zs : List Int) (lo hi : Nat) (w : World) (h : Mine w lo hi A n zs) (hn : n ≤ 1048576) (h0 : 0 ≤ k) (h1 : k ≤ 1099511627776) :
    Calls Tryd.prog 47 #[.slice A n c, .int .i64 k] w fun e w' => e = .returned (.int .i64 (k + n)) ∧ Mine w' lo hi A n (marks k n) ∧ Kept lo hi w w' := by
  have hl := Lib.hid h.len
  have H := Lib.hid h
  clear h
  go_enter Tryd.func47, Tryd.ntmps47
  go_wp2
  go_loopw [5, 1] (fun i m wr => ∃ j : Nat, j ≤ n ∧ i = .int .i64 j ∧ m = .int .i64 (k + j) ∧ Mine wr lo hi A n (marked k zs j) ∧ Kept lo hi w wr) (fun i _ _ => n - (intOf i).toNat)
  case atStart => exact ⟨0, Nat.zero_le _, rfl, by go_num, by rw [marked_zero]; exact H.out, Kept.refl _ _ _⟩
  case round =>
    obtain ⟨j, hj, rfl, rfl, hown, hkept⟩ := hrel
    by_cases hlt : j < n
    · obtain ⟨b, off, z, rfl, hlo, hhi, hz, hc, hf⟩ := hown.at_ hlt
      have HO := Lib.hid hown
      have HK := Lib.hid hkept
      clear hown hkept hz
      go_wp2
      go_roundw
      case rel => exact ⟨j + 1, by omega, by go_num, by go_num, by rw [← marked_set k zs (by rw [hl.out]; exact hlt)]; exact HO.out.set_ hlt _, HK.out.set_ hlo hhi _⟩
      case measure => simp [intOf]; omega
    · obtain rfl : j = n := by omega
      rw [marked_full k zs hl.out] at hown
      go_wp2
      go_ret
      exact ⟨rfl, hown, hkept⟩

/-- A group and a code, the list in new memory. -/
def ResLC (w : World) (r : Int) (zs : List Int) (code : Int) (e : Ending) (w' : World) : Prop :=
  ∃ A c, e = .returned (.tuple #[.agg #[.int .i64 r, .slice A zs.length c], .int .i64 code]) ∧ Mine w' w.heap.size w'.heap.size A zs.length zs ∧ Below w.heap.size w w'
/-- A group, the list in new memory. -/
def ResL1 (w : World) (r : Int) (zs : List Int) (e : Ending) (w' : World) : Prop :=
  ∃ A c, e = .returned (.agg #[.int .i64 r, .slice A zs.length c]) ∧ Mine w' w.heap.size w'.heap.size A zs.length zs ∧ Below w.heap.size w w'
/-- A group and a code, the list in memory from lo on and below hi. -/
def ResV (w : World) (lo hi : Nat) (r : Int) (zs : List Int) (code : Int) (e : Ending) (w' : World) : Prop :=
  ∃ A c, e = .returned (.tuple #[.agg #[.int .i64 r, .slice A zs.length c], .int .i64 code]) ∧ Mine w' lo hi A zs.length zs ∧ Below w.heap.size w w'

theorem ResLC.fin {w w' : World} {b lo hi : Nat} {r : Int} {zs : List Int} {code : Int} {A : Option Addr} {c : Nat} {x y : Value} (hM : Mine w' lo hi A zs.length zs) (hb : Below w.heap.size w w') (h0 : w.heap.size ≤ b) (h1 : b < lo ∨ hi ≤ b) (h2 : w.heap.size ≤ lo) (h3 : hi ≤ w'.heap.size) :
    ResLC w r zs code (.returned (.tuple #[.agg #[.int .i64 r, .slice A zs.length c], .int .i64 code])) ((w'.setCell ⟨b, 0, none⟩ x).setCell ⟨b, 1, none⟩ y) :=
  ⟨A, c, rfl, ((hM.far (p := ⟨b, 0, none⟩) h1 _).far (p := ⟨b, 1, none⟩) h1 _).wide h2 (by simpa [World.setCell] using h3), (hb.setCell h0 _).setCell h0 _⟩
theorem ResL1.fin {w w' : World} {b lo hi : Nat} {r : Int} {zs : List Int} {A : Option Addr} {c : Nat} {x y : Value} (hM : Mine w' lo hi A zs.length zs) (hb : Below w.heap.size w w') (h0 : w.heap.size ≤ b) (h1 : b < lo ∨ hi ≤ b) (h2 : w.heap.size ≤ lo) (h3 : hi ≤ w'.heap.size) :
    ResL1 w r zs (.returned (.agg #[.int .i64 r, .slice A zs.length c])) ((w'.setCell ⟨b, 0, none⟩ x).setCell ⟨b, 1, none⟩ y) :=
  ⟨A, c, rfl, ((hM.far (p := ⟨b, 0, none⟩) h1 _).far (p := ⟨b, 1, none⟩) h1 _).wide h2 (by simpa [World.setCell] using h3), (hb.setCell h0 _).setCell h0 _⟩

end Go.Proofs.YtjendlfophdfeaaDoor
