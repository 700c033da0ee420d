/- Slices of bytes, and contracts of the specification's source of numbers. No condition but those that each theorem names. -/
import Derived.Test.YtoegfldpadpohaaDoorGrpA
import Derived.Test.YtoegfldpadpohaaDoorMatH
import Derived.Deep.RegionWith
namespace Go.Proofs.YtoegfldpadpohaaDoor
open Go.RowKit

/-- A slice of bytes that reads as a list of numbers. -/
def Bys (w : World) (B : Nat) (A : Option Addr) (n : Nat) (bs : List Int) : Prop :=
  bs.length = n ∧ (∀ j, j < n → 0 ≤ bs.getD j 0 ∧ bs.getD j 0 ≤ 255) ∧ (0 < n → ∃ b off, A = some ⟨b, off, none⟩ ∧ b < B ∧ ∀ j, j < n → w.cell? ⟨b, off + j, none⟩ = some (.int .u8 (bs.getD j 0)))
theorem Bys.at_z {w : World} {B : Nat} {A : Option Addr} {n : Nat} {bs : List Int} (h : Bys w B A n bs) {k : Nat} (hk : k < n) : ∃ b off z, A = some ⟨b, off, none⟩ ∧ b < B ∧ 0 ≤ z ∧ z ≤ 255 ∧ w.cell? ⟨b, off + k, none⟩ = some (.int .u8 z) := by
  obtain ⟨_, h2, h3⟩ := h
  obtain ⟨b, off, hA, hb, hc⟩ := h3 (by omega)
  exact ⟨b, off, _, hA, hb, (h2 k hk).1, (h2 k hk).2, hc k hk⟩
theorem Bys.keep {w w' : World} {B : Nat} {A : Option Addr} {n : Nat} {bs : List Int} (h : Bys w B A n bs) (hk : ∀ p : Addr, p.block < B → w'.cell? p = w.cell? p) : Bys w' B A n bs :=
  ⟨h.1, h.2.1, fun h0 => by
    obtain ⟨b, off, hA, hb, hc⟩ := h.2.2 h0
    exact ⟨b, off, hA, hb, fun j hj => (hk ⟨b, off + j, none⟩ hb).trans (hc j hj)⟩⟩
theorem Bys.more {w : World} {B B' : Nat} {A : Option Addr} {n : Nat} {bs : List Int} (h : Bys w B A n bs) (hB : B ≤ B') : Bys w B' A n bs :=
  ⟨h.1, h.2.1, fun h0 => by
    obtain ⟨b, off, hA, hb, hc⟩ := h.2.2 h0
    exact ⟨b, off, hA, by omega, hc⟩⟩
theorem Bys.below {w w' : World} {B : Nat} {A : Option Addr} {n : Nat} {bs : List Int} (h : Bys w B A n bs) (hb : Below B w w') : Bys w' B A n bs := h.keep fun _ hp => hb.cell hp
theorem Bys.into {w W : World} {A : Option Addr} {n : Nat} {bs : List Int} (h : Bys w w.heap.size A n bs) (hb : Below w.heap.size w W) : Bys W W.heap.size A n bs := (h.below hb).more hb.size
theorem Bys.kept {w w' : World} {B lo hi : Nat} {A : Option Addr} {n : Nat} {bs : List Int} (h : Bys w B A n bs) (hk : Kept lo hi w w') (hB : B ≤ lo) (hw : B ≤ w.heap.size) : Bys w' B A n bs := h.below (hk.below hB hw)

/-- The source: the code, the place, the state. -/
def Src (w : World) (g : Nat) (A : Option Addr) (n c : Nat) (a x : Int) : Prop := Box3 w g (.slice A n c) (.int .i64 a) (.int .i64 x) ∧ Free w g ∧ 0 ≤ a ∧ a ≤ n ∧ 0 ≤ x ∧ x < 2147483647
theorem Src.below {w w' : World} {g : Nat} {A : Option Addr} {n c : Nat} {a x : Int} {B : Nat} (h : Src w g A n c a x) (hb : Below B w w') (hg : g < B) : Src w' g A n c a x := ⟨h.1.below hb hg, h.2.1.below hb hg, h.2.2⟩
theorem Src.kept {w w' : World} {g lo hi : Nat} {A : Option Addr} {n c : Nat} {a x : Int} (h : Src w g A n c a x) (hk : Kept lo hi w w') (hg : g < w.heap.size) (hn : ¬ (lo ≤ g ∧ g < hi)) : Src w' g A n c a x := ⟨h.1.kept hk hg hn, h.2.1.kept hk hg hn, h.2.2⟩
theorem Free.set_ {w : World} {g : Nat} (h : Free w g) (p : Addr) (u : Value) : Free (w.setCell p u) g := fun o => by
  have := h o
  simp [this, go_sem]
theorem Src.set2 {w : World} {g : Nat} {A : Option Addr} {n c : Nat} {a x y : Int} (h : Src w g A n c a x) (h0 : 0 ≤ y) (h1 : y < 2147483647) : Src (w.setCell ⟨g, 2, none⟩ (.int .i64 y)) g A n c a y := by
  obtain ⟨⟨b0, b1, b2⟩, hf, a0, a1, _, _⟩ := h
  exact ⟨⟨by simp [b0, go_sem], by simp [b1, go_sem], by simp [b2, go_sem]⟩, hf.set_ _ _, a0, a1, h0, h1⟩
theorem Src.set1 {w : World} {g : Nat} {A : Option Addr} {n c : Nat} {a x y : Int} (h : Src w g A n c a x) (h0 : 0 ≤ y) (h1 : y ≤ n) : Src (w.setCell ⟨g, 1, none⟩ (.int .i64 y)) g A n c y x := by
  obtain ⟨⟨b0, b1, b2⟩, hf, _, _, x0, x1⟩ := h
  exact ⟨⟨by simp [b0, go_sem], by simp [b1, go_sem], by simp [b2, go_sem]⟩, hf.set_ _ _, h0, h1, x0, x1⟩
theorem Src.lt {w : World} {g : Nat} {A : Option Addr} {n c : Nat} {a x : Int} (h : Src w g A n c a x) : g < w.heap.size := World.block_lt_of_cell? w _ h.1.1
theorem rem_facts {y : Int} (h0 : 0 ≤ y) : 0 ≤ y % 2147483647 ∧ y % 2147483647 < 2147483647 ∧ y.tmod 2147483647 = y % 2147483647 := ⟨by omega, by omega, Int.tmod_eq_emod_of_nonneg h0⟩

/-- What the source is made of. -/
def FromR (w : World) (A : Option Addr) (n c : Nat) (e : Ending) (w' : World) : Prop := ∃ g x, e = .returned (.pointer (some ⟨g, 0, none⟩)) ∧ Src w' g A n c 0 x ∧ w.heap.size ≤ g ∧ g < w'.heap.size ∧ Below w.heap.size w w'

/-- A number from 0 to m - 1 (0, if m is 1 or less), and the source behind it. -/
def NextR (w : World) (g : Nat) (A : Option Addr) (n c : Nat) (m : Int) (e : Ending) (w' : World) : Prop :=
  ∃ v a x, e = .returned (.int .i64 v) ∧ 0 ≤ v ∧ (1 < m → v < m) ∧ (m ≤ 1 → v = 0) ∧ Src w' g A n c a x ∧ Kept g (g + 1) w w'
theorem kept_set {w w' : World} {g i : Nat} (h : Kept g (g + 1) w w') (u : Value) : Kept g (g + 1) w (w'.setCell ⟨g, i, none⟩ u) := h.set_ (Nat.le_refl _) (by simp) u
theorem kept_draws {w w' : World} {g : Nat} (h : Kept g (g + 1) w w') (k : Nat) : Kept g (g + 1) w (w'.drewN k) := h.drewN k

end Go.Proofs.YtoegfldpadpohaaDoor
