/- The specification's permutations: composition, inverse, an image. No condition but those that each theorem names. -/
import Derived.Test.YtjendlfophdfeaaDoorPfC
namespace Go.Proofs.YtjendlfophdfeaaDoor
open Go.RowKit

def ResI (w : World) (r : Int) (e : Ending) (w' : World) : Prop := e = .returned (.int .i64 r) ∧ Below w.heap.size w w'

/-- Four numbers, one by one. -/
theorem Own.four {w : World} {lo hi : Nat} {A : Option Addr} {c : Nat} {l : List Int} (h : Own w lo hi A 4 c l) (hv : ∀ k, k < 4 → 0 ≤ l.getD k 0 ∧ l.getD k 0 < 4) :
    ∃ g, ∃ x : Nat → Nat, A = some ⟨g, 0, none⟩ ∧ lo ≤ g ∧ g < hi ∧ (∀ k, k < 4 → x k < 4 ∧ l.getD k 0 = (x k : Int) ∧ w.cell? ⟨g, k, none⟩ = some (.int .i64 (x k : Int))) := by
  obtain ⟨g, z, rfl, h1, h2, _⟩ := h.at_ (k := 0) (by omega)
  refine ⟨g, fun k => (l.getD k 0).toNat, rfl, h1, h2, fun k hk => ?_⟩
  have hb := hv k hk
  obtain ⟨g', z', e, _, _, hz, hc, _⟩ := h.at_ hk
  cases e
  have : ((l.getD k 0).toNat : Int) = l.getD k 0 := by omega
  exact ⟨by dsimp only; omega, by dsimp only; omega, by dsimp only; rw [this, hz]; exact hc⟩

theorem P4.im_v {p : Nat} (hp : p < 24) : ∀ k, k < 4 → 0 ≤ (P4.im p).getD k 0 ∧ (P4.im p).getD k 0 < 4 := P4.im_in p hp
theorem P4.comp_at {l m : List Int} {k : Nat} (hl : l.length = 4) (hk : k < 4) : (P4.comp l m).getD k 0 = m.getD (l.getD k 0).toNat 0 := by
  unfold P4.comp
  rw [List.getD_eq_getElem?_getD, List.getElem?_map, List.getElem?_eq_getElem (by omega), List.getD_eq_getElem?_getD (l := l), List.getElem?_eq_getElem (by omega)]
  rfl
theorem P4.four_eq {l : List Int} (h : l.length = 4) {a b c d : Int} (h0 : l.getD 0 0 = a) (h1 : l.getD 1 0 = b) (h2 : l.getD 2 0 = c) (h3 : l.getD 3 0 = d) : l = [a, b, c, d] := by
  match l, h with
  | [x, y, z, u], _ =>
    simp at h0 h1 h2 h3
    simp [h0, h1, h2, h3]
theorem P4.comp_len (l m : List Int) : (P4.comp l m).length = l.length := by simp [P4.comp]

/-- The image of a number. -/
theorem at_spec (p k : Nat) (w : World) (hp : p < 24) (hk : k < 4) :
    Calls Tryd.prog 67 #[.int .i64 p, .int .i64 k] w (ResI w ((P4.im p).getD k 0)) := by
  obtain ⟨z0, hz0⟩ : ∃ z0, (P4.im p).getD k 0 = z0 := ⟨_, rfl⟩
  rw [hz0]
  have Z0 := Lib.hid hz0
  clear hz0
  go_enter Tryd.func67, Tryd.ntmps67
  go_wp2_with fail
  refine (images_spec p _ hp).mono ?_
  rintro e w1 ⟨A1, c1, rfl, ho1, hb1⟩
  obtain ⟨g1, z, rfl, h1, h2, hz, hc, hf⟩ := ho1.at_ hk
  have D1 := Lib.hid hb1
  obtain rfl : z = z0 := hz.symm.trans Z0.out
  have i0 : (k : Int) < 4 := by omega
  clear ho1 hb1 hz hf
  go_wp2
  go_ret
  exact ⟨rfl, D1.out⟩

set_option maxRecDepth 100000 in
set_option maxHeartbeats 4000000 in
theorem back_spec (p : Nat) (w : World) (hp : p < 24) :
    Calls Tryd.prog 105 #[.int .i64 p] w (ResI w (P4.ivt p)) := by
  have HV := Lib.hid (P4.im_v hp)
  go_enter Tryd.func105, Tryd.ntmps105
  go_wp2_with fail
  refine (images_spec p _ hp).mono ?_
  rintro e w1 ⟨A1, c1, rfl, ho1, hb1⟩
  have O1 := Lib.hid ho1
  have D1 := Lib.hid hb1
  have z1 := hb1.size
  clear ho1 hb1
  go_wp2
  go_loopw [5] (fun i W => ∃ k : Nat, k ≤ 4 ∧ i = .int .i64 k ∧ Blk W w1.heap.size (P4.invk (P4.im p) k) ∧ Below w1.heap.size w1 W) (fun i _ => 4 - (intOf i).toNat)
  case atStart => exact ⟨0, Nat.zero_le _, rfl, Blk.new w1 [0, 0, 0, 0], al1 _ _⟩
  case round =>
    obtain ⟨k, hk, rfl, hblk, hbel⟩ := hrel
    have B := Lib.hid hblk
    have D := Lib.hid hbel
    clear hblk hbel
    by_cases hlt : k < 4
    · have O := Lib.hid (O1.out.below D.out (Nat.le_refl _))
      obtain ⟨g1, z, rfl, h1, h2, hz, hc, hf⟩ := O.out.at_ hlt
      have hz2 := HV.out k hlt
      have NX := Lib.hid (show P4.invk (P4.im p) (k + 1) = (P4.invk (P4.im p) k).set z.toNat (k : Int) from by rw [P4.invk, hz])
      rw [hz] at hz2
      obtain ⟨Z, rfl⟩ : ∃ Z : Nat, z = Z := ⟨z.toNat, by omega⟩
      rw [Int.toNat_natCast] at NX
      obtain ⟨l, hl⟩ : ∃ l, P4.invk (P4.im p) k = l := ⟨_, rfl⟩
      have LL := Lib.hid (show l.length = 4 from by rw [← hl, P4.invk_len])
      rw [hl] at B NX
      have f1 := B.out.cell (i := Z) (by rw [LL.out]; omega)
      have f2 := B.out.frozen Z
      have i1 : (Z : Int) < 4 := by omega
      have i2 : (k : Int) < 4 := by omega
      clear hl hz hf hz2
      go_wp2
      go_roundw
      case rel => exact ⟨k + 1, by omega, by go_num, by rw [NX.out]; exact B.out.set_ _ _, D.out.setCell (Nat.le_refl _) _⟩
      case measure => simp [intOf]; omega
    · obtain rfl : k = 4 := by omega
      have IV := Lib.hid (B.out.ints (P4.invk_len _ _))
      have LI := Lib.hid (show P4.lh (P4.invk (P4.im p) 4) 3 = (P4.ivt p : Int) from by rw [← P4.ivt_im hp]; exact P4.lh_im _ (P4.inv_ix p hp))
      have LV := Lib.hid (show ∀ k, k < 4 → 0 ≤ (P4.invk (P4.im p) 4).getD k 0 ∧ (P4.invk (P4.im p) 4).getD k 0 < 4 from by rw [← P4.ivt_im hp]; exact P4.im_v (P4.inv_ix p hp))
      go_wp2_with fail
      refine (index_spec (some ⟨w1.heap.size, 0, none⟩) 4 _ _ _ IV.out LV.out).mono ?_
      rintro e w3 ⟨rfl, q3, rfl⟩
      rw [LI.out]
      go_wp2
      go_ret
      exact ⟨rfl, (D1.out.trans (D.out.mono z1)).trans (Go.Joins.below_draws _ _ _)⟩

end Go.Proofs.YtjendlfophdfeaaDoor
