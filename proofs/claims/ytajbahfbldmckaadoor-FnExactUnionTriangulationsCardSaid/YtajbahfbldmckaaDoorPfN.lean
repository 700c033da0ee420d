/- The program's map, built; composition, inverse and index by it. No condition but those that each theorem names. -/
import Derived.Test.YtajbahfbldmckaaDoorPfM
import Derived.Deep.RegionHeld3
namespace Go.Proofs.YtajbahfbldmckaaDoor
open Go.RowKit

/-- The map lies in block b. -/
def MapAt (w : World) (b : Nat) : Prop := w.ownsMap Tryd.prog 78 (plainElem Tryd.prog 2) b 24 (MD 24)
set_option maxRecDepth 100000 in
theorem owns_below {w w' : World} {b n B : Nat} {D : DataW Unit} (h : w.ownsMap Tryd.prog 78 (plainElem Tryd.prog 2) b n D) (hb : Below B w w') (hB : b < B) : w'.ownsMap Tryd.prog 78 (plainElem Tryd.prog 2) b n D := by
  obtain ⟨es, clock, h1, F, hs, hD⟩ := h
  exact ⟨es, clock, (hb.block b hB).trans h1, F, hs, hD⟩
set_option maxRecDepth 100000 in
theorem row_index : ∀ k : Nat, k < 24 → ∀ w : World, (Instr.index 131 (.agg TC.toArray) (.int .i64 (k : Int))).run Tryd.prog w = .ok (.agg (cP (P4.im k)).toArray) w := by
  intro k hk w
  have h : k = 0 ∨ k = 1 ∨ k = 2 ∨ k = 3 ∨ k = 4 ∨ k = 5 ∨ k = 6 ∨ k = 7 ∨ k = 8 ∨ k = 9 ∨ k = 10 ∨ k = 11 ∨ k = 12 ∨ k = 13 ∨ k = 14 ∨ k = 15 ∨ k = 16 ∨ k = 17 ∨ k = 18 ∨ k = 19 ∨ k = 20 ∨ k = 21 ∨ k = 22 ∨ k = 23 := by omega
  rcases h with rfl | rfl | rfl | rfl | rfl | rfl | rfl | rfl | rfl | rfl | rfl | rfl | rfl | rfl | rfl | rfl | rfl | rfl | rfl | rfl | rfl | rfl | rfl | rfl
  · exact (show ∀ w : World, (Instr.index 131 (.agg TC.toArray) (.int .i64 ((0 : Nat) : Int))).run Tryd.prog w = .ok (.agg (cP (P4.im 0)).toArray) w from fun w => by kernel_rfl) w
  · exact (show ∀ w : World, (Instr.index 131 (.agg TC.toArray) (.int .i64 ((1 : Nat) : Int))).run Tryd.prog w = .ok (.agg (cP (P4.im 1)).toArray) w from fun w => by kernel_rfl) w
  · exact (show ∀ w : World, (Instr.index 131 (.agg TC.toArray) (.int .i64 ((2 : Nat) : Int))).run Tryd.prog w = .ok (.agg (cP (P4.im 2)).toArray) w from fun w => by kernel_rfl) w
  · exact (show ∀ w : World, (Instr.index 131 (.agg TC.toArray) (.int .i64 ((3 : Nat) : Int))).run Tryd.prog w = .ok (.agg (cP (P4.im 3)).toArray) w from fun w => by kernel_rfl) w
  · exact (show ∀ w : World, (Instr.index 131 (.agg TC.toArray) (.int .i64 ((4 : Nat) : Int))).run Tryd.prog w = .ok (.agg (cP (P4.im 4)).toArray) w from fun w => by kernel_rfl) w
  · exact (show ∀ w : World, (Instr.index 131 (.agg TC.toArray) (.int .i64 ((5 : Nat) : Int))).run Tryd.prog w = .ok (.agg (cP (P4.im 5)).toArray) w from fun w => by kernel_rfl) w
  · exact (show ∀ w : World, (Instr.index 131 (.agg TC.toArray) (.int .i64 ((6 : Nat) : Int))).run Tryd.prog w = .ok (.agg (cP (P4.im 6)).toArray) w from fun w => by kernel_rfl) w
  · exact (show ∀ w : World, (Instr.index 131 (.agg TC.toArray) (.int .i64 ((7 : Nat) : Int))).run Tryd.prog w = .ok (.agg (cP (P4.im 7)).toArray) w from fun w => by kernel_rfl) w
  · exact (show ∀ w : World, (Instr.index 131 (.agg TC.toArray) (.int .i64 ((8 : Nat) : Int))).run Tryd.prog w = .ok (.agg (cP (P4.im 8)).toArray) w from fun w => by kernel_rfl) w
  · exact (show ∀ w : World, (Instr.index 131 (.agg TC.toArray) (.int .i64 ((9 : Nat) : Int))).run Tryd.prog w = .ok (.agg (cP (P4.im 9)).toArray) w from fun w => by kernel_rfl) w
  · exact (show ∀ w : World, (Instr.index 131 (.agg TC.toArray) (.int .i64 ((10 : Nat) : Int))).run Tryd.prog w = .ok (.agg (cP (P4.im 10)).toArray) w from fun w => by kernel_rfl) w
  · exact (show ∀ w : World, (Instr.index 131 (.agg TC.toArray) (.int .i64 ((11 : Nat) : Int))).run Tryd.prog w = .ok (.agg (cP (P4.im 11)).toArray) w from fun w => by kernel_rfl) w
  · exact (show ∀ w : World, (Instr.index 131 (.agg TC.toArray) (.int .i64 ((12 : Nat) : Int))).run Tryd.prog w = .ok (.agg (cP (P4.im 12)).toArray) w from fun w => by kernel_rfl) w
  · exact (show ∀ w : World, (Instr.index 131 (.agg TC.toArray) (.int .i64 ((13 : Nat) : Int))).run Tryd.prog w = .ok (.agg (cP (P4.im 13)).toArray) w from fun w => by kernel_rfl) w
  · exact (show ∀ w : World, (Instr.index 131 (.agg TC.toArray) (.int .i64 ((14 : Nat) : Int))).run Tryd.prog w = .ok (.agg (cP (P4.im 14)).toArray) w from fun w => by kernel_rfl) w
  · exact (show ∀ w : World, (Instr.index 131 (.agg TC.toArray) (.int .i64 ((15 : Nat) : Int))).run Tryd.prog w = .ok (.agg (cP (P4.im 15)).toArray) w from fun w => by kernel_rfl) w
  · exact (show ∀ w : World, (Instr.index 131 (.agg TC.toArray) (.int .i64 ((16 : Nat) : Int))).run Tryd.prog w = .ok (.agg (cP (P4.im 16)).toArray) w from fun w => by kernel_rfl) w
  · exact (show ∀ w : World, (Instr.index 131 (.agg TC.toArray) (.int .i64 ((17 : Nat) : Int))).run Tryd.prog w = .ok (.agg (cP (P4.im 17)).toArray) w from fun w => by kernel_rfl) w
  · exact (show ∀ w : World, (Instr.index 131 (.agg TC.toArray) (.int .i64 ((18 : Nat) : Int))).run Tryd.prog w = .ok (.agg (cP (P4.im 18)).toArray) w from fun w => by kernel_rfl) w
  · exact (show ∀ w : World, (Instr.index 131 (.agg TC.toArray) (.int .i64 ((19 : Nat) : Int))).run Tryd.prog w = .ok (.agg (cP (P4.im 19)).toArray) w from fun w => by kernel_rfl) w
  · exact (show ∀ w : World, (Instr.index 131 (.agg TC.toArray) (.int .i64 ((20 : Nat) : Int))).run Tryd.prog w = .ok (.agg (cP (P4.im 20)).toArray) w from fun w => by kernel_rfl) w
  · exact (show ∀ w : World, (Instr.index 131 (.agg TC.toArray) (.int .i64 ((21 : Nat) : Int))).run Tryd.prog w = .ok (.agg (cP (P4.im 21)).toArray) w from fun w => by kernel_rfl) w
  · exact (show ∀ w : World, (Instr.index 131 (.agg TC.toArray) (.int .i64 ((22 : Nat) : Int))).run Tryd.prog w = .ok (.agg (cP (P4.im 22)).toArray) w from fun w => by kernel_rfl) w
  · exact (show ∀ w : World, (Instr.index 131 (.agg TC.toArray) (.int .i64 ((23 : Nat) : Int))).run Tryd.prog w = .ok (.agg (cP (P4.im 23)).toArray) w from fun w => by kernel_rfl) w
set_option maxRecDepth 100000 in
theorem size24 : (Tryd.prog.info? 131).map (·.size) = some 96 := by kernel_rfl
set_option maxRecDepth 100000 in
theorem run_mm (w : World) : (Instr.makeMap 110 (some (.int .i64 24))).run Tryd.prog w = .ok (.map (some w.heap.size)) (w.alloc (.map #[] 0)) := by kernel_rfl
set_option maxRecDepth 100000 in
theorem zeroI (w : World) : (zeroValue 2).run Tryd.prog w = .ok (.int .i64 0) w := by kernel_rfl

set_option maxRecDepth 100000 in
set_option maxHeartbeats 4000000 in
theorem indices_impl (w : World) (ht : Tb w) :
    Calls Tryd.prog 85 #[] w fun e w' => e = .returned (.map (some w.heap.size)) ∧ MapAt w' w.heap.size ∧ Below w.heap.size w w' := by
  have HT := Lib.hid ht
  have h0 : 3 < w.heap.size := World.block_lt_of_cell? w ⟨3, 0, none⟩ (ht 0 (.int .u8 0) rfl)
  have hmm := run_mm
  have RX := Lib.hid row_index
  obtain ⟨X, hX⟩ : ∃ X, TC.toArray = X := ⟨_, rfl⟩
  have HX := Lib.hid hX
  rw [hX] at RX
  clear hX ht
  go_enter Tryd.func85, Tryd.ntmps85
  go_upto_region 2 with fail
  have O1 := Lib.hid (World.ownsMap_made w Tryd.prog 78 (plainElem (H := Unit) Tryd.prog 2))
  have D1 := Lib.hid (al1 w (Obj.map #[] 0))
  obtain ⟨V, hV⟩ : ∃ V, V = w.alloc (Obj.map #[] 0) := ⟨_, rfl⟩
  have sV : w.heap.size + 1 ≤ V.heap.size := by rw [hV]; simp
  rw [← hV] at O1 D1 ⊢
  clear hV hmm
  obtain ⟨g, hg⟩ : ∃ g, w.heap.size = g := ⟨_, rfl⟩
  have TV := Lib.hid (HT.out.below D1.out h0)
  have HG := Lib.hid hg
  rw [hg] at O1 D1 sV h0 ⊢
  clear hg
  go_wp2_with (refine wpList_load_mid rfl 131 (.global 3) rfl 3 0 rfl TC (.array 24 78) TV.out Tryd.underlying131 rfl size24 ?_; rw [HX.out])
  go_loopw [6] (fun i W => ∃ k : Nat, k ≤ 24 ∧ i = .int .i64 k ∧ W.ownsMap Tryd.prog 78 (plainElem Tryd.prog 2) g k (MD k) ∧ Below g V W) (fun i _ => 24 - (intOf i).toNat)
  case atStart => exact ⟨0, Nat.zero_le _, rfl, O1.out, Below.refl _ _⟩
  case round =>
    obtain ⟨k, hk, rfl, hown, hbel⟩ := hrel
    have O := Lib.hid hown
    have D := Lib.hid hbel
    have lO := hown.lt
    have zD := hbel.size
    clear hown hbel
    by_cases hlt : k < 24
    · have ix := RX.out k hlt
      obtain ⟨x0, x1, x2, x3, hx, b0, b1, b2, b3⟩ := (L4.im hlt).four
      have NX := Lib.hid (show MD (k + 1) = (MD k).put (keyL x0 x1 x2 x3) (.lit (.int .i64 (k : Int))) from by rw [MD, keyI, hx]; rfl)
      have KY := Lib.hid (keyL_of b0 b1 b2 b3)
      rw [hx] at ix
      have ix2 : ∀ w : World, (Instr.index 131 (.agg X) (.int .i64 (k : Int))).run Tryd.prog w = .ok (.agg #[.int .u8 (x0 : Int), .int .u8 (x1 : Int), .int .u8 (x2 : Int), .int .u8 (x3 : Int)]) w := ix
      have i1 : (k : Int) < 24 := by omega
      have kw : (Lit.int .i64 (k : Int)).wf = true := by
        have h1 : -9223372036854775808 ≤ (k : Int) ∧ (k : Int) ≤ 9223372036854775807 := by omega
        simp [Lit.wf, h1]
        exact h1.1
      have KW := Lib.hid kw
      clear hx ix kw
      go_wp2_with (at_mapUpdate; refine wpList_mapUpdate_own (H := Unit) _ rfl _ _ _ 110 rfl 78 2 lawK Tryd.underlying110 (plainElem Tryd.prog 2) g k (MD k) rfl (by exact O.out.alloc _) (by unfold maxLen; omega) _ _ _ rfl rfl (by exact KY.out) (.lit (.int .i64 (k : Int))) [] (plainElem_int Tryd.underlying2 KW.out) ?_; intro w7 h5 h6; have O7 := Lib.hid h5; have D7 := Lib.hid (Below.grown (D.out.alloc (by omega) (Obj.cells #[.int .u8 (x0 : Int), .int .u8 (x1 : Int), .int .u8 (x2 : Int), .int .u8 (x3 : Int)] 78)) h6 (by simp; omega) (fun k hk => by cases hk; exact Nat.le_refl _)); clear h5 h6)
      go_roundw
      case rel => exact ⟨k + 1, by omega, by go_num, by rw [NX.out]; exact O7.out, D7.out⟩
      case measure => simp [intOf]; omega
    · obtain rfl : k = 24 := by omega
      go_wp2
      go_ret
      exact ⟨by rw [HG.out]; rfl, by rw [HG.out]; exact O.out, by rw [HG.out]; exact D1.out.trans D.out⟩
end Go.Proofs.YtajbahfbldmckaaDoor
