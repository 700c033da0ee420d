/- Contracts of the functions that strike a row and a column of a matrix, the program's and the specification's. No condition but those that each theorem names. -/
import Derived.Test.YtoegfldpadpohaaDoorMatG
import Derived.Deep.AppendLies
import Derived.Deep.RegionLaw
namespace Go.Proofs.YtoegfldpadpohaaDoor
open Go.RowKit

/-- The entries that are kept of the first t ones: those outside row a and column b. -/
def mn (C a b : Nat) (zs : List Int) : Nat → List Int
  | 0 => []
  | t + 1 => if t / C = a ∨ t % C = b then mn C a b zs t else mn C a b zs t ++ [zs.getD t 0]
theorem mn_len (C a b : Nat) (zs : List Int) (t : Nat) : (mn C a b zs t).length ≤ t := by
  induction t with
  | zero => simp [mn]
  | succ t ih =>
    rw [mn]
    split
    · omega
    · simp; omega
theorem mn_idx {C i j : Nat} (hj : j < C) : (i * C + j) % C = j ∧ (i * C + j) / C = i :=
  ⟨by rw [Nat.add_comm, Nat.add_mul_mod_self_right, Nat.mod_eq_of_lt hj], by rw [Nat.add_comm, Nat.add_mul_div_right _ _ (by omega), Nat.div_eq_of_lt hj, Nat.zero_add]⟩
theorem mn_skip {C a b : Nat} (zs : List Int) {i j : Nat} (hj : j < C) (h : i = a ∨ j = b) : mn C a b zs (i * C + j + 1) = mn C a b zs (i * C + j) := by
  rw [mn, (mn_idx hj).1, (mn_idx hj).2, if_pos h]
theorem mn_take {C a b : Nat} (zs : List Int) {i j : Nat} (hj : j < C) (h1 : i ≠ a) (h2 : j ≠ b) : mn C a b zs (i * C + j + 1) = mn C a b zs (i * C + j) ++ [zs.getD (i * C + j) 0] := by
  rw [mn, (mn_idx hj).1, (mn_idx hj).2, if_neg (by omega)]

/-- The state of the loops: the struct at block b holds a list of the call's own. -/
def MnAt (B b : Nat) (r q : Int) (W0 : World) (l : List Int) (wr : World) : Prop :=
  ∃ A c, Box3 wr b (.int .i64 r) (.int .i64 q) (.slice A l.length c) ∧ Free wr b ∧ Own wr B wr.heap.size A l.length c l ∧ Kept b (b + 1) W0 wr

theorem Kept.of_grown {w w' : World} {v : Value} {lo : Nat} (hg : w.grownBy w' v.ownBlock) (hlo : ∀ k, v.ownBlock = some k → lo ≤ k ∧ k < w.heap.size) : Kept lo w.heap.size w w' :=
  ⟨hg.os, hg.tape, hg.output, hg.size, fun k hk hn => hg.block k hk (fun e => by have := hlo k e.symm; omega)⟩

theorem Kept.over {lo hi lo' hi' : Nat} {a b d : World} (h : Kept lo hi a b) (k : Kept lo' hi' b d) (hl : a.heap.size ≤ lo') : Kept lo hi a d :=
  ⟨k.os.trans h.os, k.tape.trans h.tape, k.output.trans h.output, Nat.le_trans h.size k.size, fun i hi' hn => (k.block i (Nat.lt_of_lt_of_le hi' h.size) (by omega)).trans (h.block i hi' hn)⟩
theorem MnAt.push {B b : Nat} {r q z : Int} {W0 w7 : World} {l : List Int} {gg cap : Nat} {x : Value} (hbox : Box3 w7 b (.int .i64 r) (.int .i64 q) x) (hfree : Free w7 b)
    (hown : w7.ownsRow B 2 1 (.slice (some ⟨gg, 0, none⟩) (l.length + 1) cap) (l.length + 1) (l.map (Value.int .i64) ++ [.int .i64 z])) (hg : gg < w7.heap.size) (hb : b < B) (hk : Kept b (b + 1) W0 w7) :
    MnAt B b r q W0 (l ++ [z]) (w7.setCell ⟨b, 2, none⟩ (.slice (some ⟨gg, 0, none⟩) (l.length + 1) cap)) := by
  have ho : Own w7 B w7.heap.size (some ⟨gg, 0, none⟩) (l.length + 1) cap (l ++ [z]) := ⟨by simpa using hown, fun a ha => by cases ha; exact hg⟩
  refine ⟨some ⟨gg, 0, none⟩, cap, ⟨?_, ?_, ?_⟩, ?_, ?_, ?_⟩
  · rw [World.cell?_setCell_other w7 _ _ _ (by simp)]; exact hbox.1
  · rw [World.cell?_setCell_other w7 _ _ _ (by simp)]; exact hbox.2.1
  · have h2 := hbox.2.2
    have := World.cell?_setCell_same w7 ⟨b, 2, none⟩ (.slice (some ⟨gg, 0, none⟩) (l.length + 1) cap) h2
    simpa using this
  · intro o
    rw [World.frozen?_setCell]
    exact hfree o
  · have := (ho.far (p := ⟨b, 2, none⟩) (.inl hb) (.slice (some ⟨gg, 0, none⟩) (l.length + 1) cap))
    simpa [World.setCell] using this
  · exact hk.set_ (Nat.le_refl _) (by dsimp only; omega) _

end Go.Proofs.YtoegfldpadpohaaDoor
