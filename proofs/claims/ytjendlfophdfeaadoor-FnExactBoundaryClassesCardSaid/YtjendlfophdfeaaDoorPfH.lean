/- The program's inverse and order of arrays, and its exported functions but those over the map. No condition but those that each theorem names. -/
import Derived.Test.YtjendlfophdfeaaDoorPfG
namespace Go.Proofs.YtjendlfophdfeaaDoor
open Go.RowKit

set_option maxRecDepth 100000 in
set_option maxHeartbeats 4000000 in
theorem pinv_impl (l : List Int) (w : World) (hl : L4 l) (hr : L4 (P4.invk l 4)) :
    Calls Tryd.prog 102 #[.agg (cP l).toArray] w (ResA w (P4.invk l 4)) := by
  have HL := Lib.hid hl
  have IX := Lib.hid (idx4 l hl.len)
  have RL := Lib.hid hr
  clear hl hr
  obtain ⟨X, hX⟩ : ∃ X, (cP l).toArray = X := ⟨_, rfl⟩
  have HX := Lib.hid hX
  rw [hX] at IX
  rw [hX]
  clear hX
  go_enter Tryd.func102, Tryd.ntmps102
  go_upto_region 2 with fail
  obtain ⟨V, hV⟩ : ∃ V, V = ((w.alloc (Obj.cells X 121)).alloc (Obj.cells #[Value.int .u8 0, Value.int .u8 0, Value.int .u8 0, Value.int .u8 0] 121)).alloc (Obj.cells #[Value.int .u8 0, Value.int .u8 0, Value.int .u8 0, Value.int .u8 0] 121) := ⟨_, rfl⟩
  rw [← hV]
  have DV := Lib.hid (show Below w.heap.size w V from by rw [hV]; exact (((Below.refl _ _).alloc (Nat.le_refl _) _).alloc (by simp) _).alloc (by simp; omega) _)
  have PXl := Lib.hid (show BlkP V w.heap.size l from by
    rw [hV, ← HX.out]; exact ((show BlkP (w.alloc (Obj.cells (cP l).toArray 121)) w.heap.size l from heap_alloc_new w _).alloc _).alloc _)
  have PX := Lib.hid (show V.heap[w.heap.size]? = some (.cells X 121 (0, 0)) from by rw [← HX.out]; exact PXl.out)
  have PR := Lib.hid (show BlkP V (w.heap.size + 1) [0, 0, 0, 0] from by
    rw [hV]
    exact ((show BlkP ((w.alloc (Obj.cells X 121)).alloc (Obj.cells #[Value.int .u8 0, Value.int .u8 0, Value.int .u8 0, Value.int .u8 0] 121)) (w.heap.size + 1) [0, 0, 0, 0] from by have h := heap_alloc_new (w.alloc (Obj.cells X 121)) (Obj.cells #[Value.int .u8 0, Value.int .u8 0, Value.int .u8 0, Value.int .u8 0] 121); rw [World.size_alloc] at h; exact h).alloc _))
  have PC := Lib.hid (show BlkP V (w.heap.size + 1 + 1) (P4.invk l 0) from by
    rw [hV]
    have h := heap_alloc_new ((w.alloc (Obj.cells X 121)).alloc (Obj.cells #[Value.int .u8 0, Value.int .u8 0, Value.int .u8 0, Value.int .u8 0] 121)) (Obj.cells #[Value.int .u8 0, Value.int .u8 0, Value.int .u8 0, Value.int .u8 0] 121)
    rw [World.size_alloc, World.size_alloc] at h
    exact h)
  have XS := Lib.hid (show (Tryd.prog.info? 121).map (·.size) = some X.size from by
    rw [← HX.out, show (cP l).toArray.size = 4 from by simp [cP, HL.out.len]]; exact size4)
  clear hV
  obtain ⟨g, hg⟩ : ∃ g, w.heap.size = g := ⟨_, rfl⟩
  have HG := Lib.hid hg
  rw [hg] at DV PX PR PC
  rw [hg]
  clear hg PXl
  go_wp2_with (refine wpList_load_row rfl 121 (.tmp 1) rfl g rfl 121 X (0, 0) (.array 4 5) PX.out Tryd.underlying121 rfl XS.out ?_)
  go_loopw [7] (fun i W => ∃ k : Nat, k ≤ 4 ∧ i = .int .i64 k ∧ BlkP W (g + 1 + 1) (P4.invk l k) ∧ Below (g + 1 + 1) V W) (fun i _ => 4 - (intOf i).toNat)
  case atStart => exact ⟨0, Nat.zero_le _, rfl, PC.out, Below.refl _ _⟩
  case round =>
    obtain ⟨k, hk, rfl, hblk, hbel⟩ := hrel
    have B := Lib.hid hblk
    have D := Lib.hid hbel
    clear hblk hbel
    by_cases hlt : k < 4
    · have ix := IX.out k hlt
      obtain ⟨Z, hz, hz4⟩ := HL.out.nat hlt
      have NX := Lib.hid (show P4.invk l (k + 1) = (P4.invk l k).set Z (k : Int) from by rw [P4.invk, hz, Int.toNat_natCast])
      rw [hz] at ix
      have c1 := B.out.cell (i := Z) (by rw [P4.invk_len]; exact hz4)
      have f1 := B.out.frozen Z
      have i1 : (k : Int) < 4 := by omega
      have i2 : (Z : Int) < 4 := by omega
      have u1 : IntKind.u8.wrap (k : Int) = (k : Int) := by
        have h : k = 0 ∨ k = 1 ∨ k = 2 ∨ k = 3 := by omega
        rcases h with rfl | rfl | rfl | rfl <;> rfl
      clear hz
      go_wp2
      go_roundw
      case rel => exact ⟨k + 1, by omega, by go_num, by rw [NX.out]; exact B.out.set_ _ _, D.out.setCell (Nat.le_refl _) _⟩
      case measure => simp [intOf]; omega
    · obtain rfl : k = 4 := by omega
      obtain ⟨r0, r1, r2, r3, hr, _⟩ := RL.out.four
      have HR := Lib.hid hr
      rw [hr] at B
      have R2 := Lib.hid (PR.out.below D.out (by omega))
      clear hr
      obtain ⟨c0, c1, c2, c3⟩ := B.out.four
      obtain ⟨d0, d1, d2, d3⟩ := R2.out.four
      have f0 := R2.out.frozen 0
      have f1 := R2.out.frozen 1
      have f2 := R2.out.frozen 2
      have f3 := R2.out.frozen 3
      go_wp2
      refine bodyPost_ret (v := .agg #[.int .u8 (r0 : Int), .int .u8 (r1 : Int), .int .u8 (r2 : Int), .int .u8 (r3 : Int)]) (by simp [results, Tryd.results102, go_sem, d0, d1, d2, d3]) rfl ⟨by rw [HR.out]; rfl, ?_⟩
      rw [HG.out]
      exact ((((DV.out.trans (D.out.mono (by omega))).setCell (by dsimp only; omega) _).setCell (by dsimp only; omega) _).setCell (by dsimp only; omega) _).setCell (by dsimp only; omega) _

set_option maxRecDepth 100000 in
theorem run_make4 (w : World) :
    (Instr.makeSlice 48 (.int .i64 4) (.int .i64 4)).run Tryd.prog w = .ok (.slice (some ⟨w.heap.size, 0, none⟩) 4 4) (w.alloc (.cells ((List.replicate 4 (0 : Int)).map (Value.int .i64)).toArray 2)) := run_make_ints 4 (by omega) w
set_option maxRecDepth 100000 in
/-- An image of the table. -/
theorem apply_impl (p k : Nat) (w : World) (hp : p < 24) (hk : k < 4) (ht : Tb w) :
    Calls Tryd.prog 28 #[.int .i64 p, .int .i64 k] w (ResI w ((P4.im p).getD k 0)) := by
  have HP := Lib.hid (show (0 : Int) ≤ (p : Int) ∧ (p : Int) < 24 from by omega)
  have HK := Lib.hid (show (0 : Int) ≤ (k : Int) ∧ (k : Int) < 4 from by omega)
  have i1 : (p : Int) < 24 := by omega
  have i2 : (k : Int) < 4 := by omega
  have c0 := ht.cell hp hk
  obtain ⟨z, hz, hz4⟩ := (L4.im hp).nat hk
  rw [hz] at c0
  rw [hz]
  have u1 : IntKind.i64.wrap (z : Int) = (z : Int) := IntWalk.i64_in _ (by omega)
  clear hz
  go_enter Tryd.func28, Tryd.ntmps28
  go_wp2_with fail
  refine (isPerm4_yes _ _ HP.out.1 HP.out.2).mono ?_
  rintro e w0 ⟨rfl, rfl⟩
  go_wp2_with fail
  refine (isVertex_yes _ _ HK.out.1 HK.out.2).mono ?_
  rintro e w0 ⟨rfl, rfl⟩
  go_wp2
  go_ret
  exact ⟨rfl, Below.refl _ _⟩
set_option maxRecDepth 100000 in
theorem apply_impl_no (p k : Int) (w : World) (h : ¬ ((0 ≤ p ∧ p < 24) ∧ (0 ≤ k ∧ k < 4))) :
    Calls Tryd.prog 28 #[.int .i64 p, .int .i64 k] w fun e w' => e = .returned (.int .i64 (-1)) ∧ w = w' := by
  by_cases hp : 0 ≤ p ∧ p < 24
  · have HP := Lib.hid hp
    have HK := Lib.hid (show ¬ (0 ≤ k ∧ k < 4) from fun hk => h ⟨hp, hk⟩)
    clear hp h
    go_enter Tryd.func28, Tryd.ntmps28
    go_wp2_with fail
    refine (isPerm4_yes _ _ HP.out.1 HP.out.2).mono ?_
    rintro e w0 ⟨rfl, rfl⟩
    go_wp2_with fail
    refine (isVertex_no _ _ HK.out).mono ?_
    rintro e w0 ⟨rfl, rfl⟩
    go_wp2
    go_ret
    exact ⟨rfl, rfl⟩
  · have HP := Lib.hid hp
    clear hp h
    go_enter Tryd.func28, Tryd.ntmps28
    go_wp2_with fail
    refine (isPerm4_no _ _ HP.out).mono ?_
    rintro e w0 ⟨rfl, rfl⟩
    go_wp2
    go_ret
    exact ⟨rfl, rfl⟩

set_option maxRecDepth 100000 in
theorem al1' (V : World) {B : Nat} (h : B ≤ V.heap.size) (o : Obj) : Below B V (V.alloc o) := (Below.refl _ _).alloc h o
set_option maxRecDepth 100000 in
theorem eq4 : ∀ q, q < 24 → ∀ w : World, (Op.equalIn 10000 121 (.agg (cP (P4.im q)).toArray) (.agg (cP (P4.im 0)).toArray)).run Tryd.prog w = .ok (q == 0) w := by
  intro q hq w
  have h : q = 0 ∨ q = 1 ∨ q = 2 ∨ q = 3 ∨ q = 4 ∨ q = 5 ∨ q = 6 ∨ q = 7 ∨ q = 8 ∨ q = 9 ∨ q = 10 ∨ q = 11 ∨ q = 12 ∨ q = 13 ∨ q = 14 ∨ q = 15 ∨ q = 16 ∨ q = 17 ∨ q = 18 ∨ q = 19 ∨ q = 20 ∨ q = 21 ∨ q = 22 ∨ q = 23 := by omega
  rcases h with rfl | rfl | rfl | rfl | rfl | rfl | rfl | rfl | rfl | rfl | rfl | rfl | rfl | rfl | rfl | rfl | rfl | rfl | rfl | rfl | rfl | rfl | rfl | rfl 
  · exact (show ∀ w : World, (Op.equalIn 10000 121 (.agg (cP (P4.im 0)).toArray) (.agg (cP (P4.im 0)).toArray)).run Tryd.prog w = .ok (0 == 0) w from fun w => by kernel_rfl) w
  · exact (show ∀ w : World, (Op.equalIn 10000 121 (.agg (cP (P4.im 1)).toArray) (.agg (cP (P4.im 0)).toArray)).run Tryd.prog w = .ok (1 == 0) w from fun w => by kernel_rfl) w
  · exact (show ∀ w : World, (Op.equalIn 10000 121 (.agg (cP (P4.im 2)).toArray) (.agg (cP (P4.im 0)).toArray)).run Tryd.prog w = .ok (2 == 0) w from fun w => by kernel_rfl) w
  · exact (show ∀ w : World, (Op.equalIn 10000 121 (.agg (cP (P4.im 3)).toArray) (.agg (cP (P4.im 0)).toArray)).run Tryd.prog w = .ok (3 == 0) w from fun w => by kernel_rfl) w
  · exact (show ∀ w : World, (Op.equalIn 10000 121 (.agg (cP (P4.im 4)).toArray) (.agg (cP (P4.im 0)).toArray)).run Tryd.prog w = .ok (4 == 0) w from fun w => by kernel_rfl) w
  · exact (show ∀ w : World, (Op.equalIn 10000 121 (.agg (cP (P4.im 5)).toArray) (.agg (cP (P4.im 0)).toArray)).run Tryd.prog w = .ok (5 == 0) w from fun w => by kernel_rfl) w
  · exact (show ∀ w : World, (Op.equalIn 10000 121 (.agg (cP (P4.im 6)).toArray) (.agg (cP (P4.im 0)).toArray)).run Tryd.prog w = .ok (6 == 0) w from fun w => by kernel_rfl) w
  · exact (show ∀ w : World, (Op.equalIn 10000 121 (.agg (cP (P4.im 7)).toArray) (.agg (cP (P4.im 0)).toArray)).run Tryd.prog w = .ok (7 == 0) w from fun w => by kernel_rfl) w
  · exact (show ∀ w : World, (Op.equalIn 10000 121 (.agg (cP (P4.im 8)).toArray) (.agg (cP (P4.im 0)).toArray)).run Tryd.prog w = .ok (8 == 0) w from fun w => by kernel_rfl) w
  · exact (show ∀ w : World, (Op.equalIn 10000 121 (.agg (cP (P4.im 9)).toArray) (.agg (cP (P4.im 0)).toArray)).run Tryd.prog w = .ok (9 == 0) w from fun w => by kernel_rfl) w
  · exact (show ∀ w : World, (Op.equalIn 10000 121 (.agg (cP (P4.im 10)).toArray) (.agg (cP (P4.im 0)).toArray)).run Tryd.prog w = .ok (10 == 0) w from fun w => by kernel_rfl) w
  · exact (show ∀ w : World, (Op.equalIn 10000 121 (.agg (cP (P4.im 11)).toArray) (.agg (cP (P4.im 0)).toArray)).run Tryd.prog w = .ok (11 == 0) w from fun w => by kernel_rfl) w
  · exact (show ∀ w : World, (Op.equalIn 10000 121 (.agg (cP (P4.im 12)).toArray) (.agg (cP (P4.im 0)).toArray)).run Tryd.prog w = .ok (12 == 0) w from fun w => by kernel_rfl) w
  · exact (show ∀ w : World, (Op.equalIn 10000 121 (.agg (cP (P4.im 13)).toArray) (.agg (cP (P4.im 0)).toArray)).run Tryd.prog w = .ok (13 == 0) w from fun w => by kernel_rfl) w
  · exact (show ∀ w : World, (Op.equalIn 10000 121 (.agg (cP (P4.im 14)).toArray) (.agg (cP (P4.im 0)).toArray)).run Tryd.prog w = .ok (14 == 0) w from fun w => by kernel_rfl) w
  · exact (show ∀ w : World, (Op.equalIn 10000 121 (.agg (cP (P4.im 15)).toArray) (.agg (cP (P4.im 0)).toArray)).run Tryd.prog w = .ok (15 == 0) w from fun w => by kernel_rfl) w
  · exact (show ∀ w : World, (Op.equalIn 10000 121 (.agg (cP (P4.im 16)).toArray) (.agg (cP (P4.im 0)).toArray)).run Tryd.prog w = .ok (16 == 0) w from fun w => by kernel_rfl) w
  · exact (show ∀ w : World, (Op.equalIn 10000 121 (.agg (cP (P4.im 17)).toArray) (.agg (cP (P4.im 0)).toArray)).run Tryd.prog w = .ok (17 == 0) w from fun w => by kernel_rfl) w
  · exact (show ∀ w : World, (Op.equalIn 10000 121 (.agg (cP (P4.im 18)).toArray) (.agg (cP (P4.im 0)).toArray)).run Tryd.prog w = .ok (18 == 0) w from fun w => by kernel_rfl) w
  · exact (show ∀ w : World, (Op.equalIn 10000 121 (.agg (cP (P4.im 19)).toArray) (.agg (cP (P4.im 0)).toArray)).run Tryd.prog w = .ok (19 == 0) w from fun w => by kernel_rfl) w
  · exact (show ∀ w : World, (Op.equalIn 10000 121 (.agg (cP (P4.im 20)).toArray) (.agg (cP (P4.im 0)).toArray)).run Tryd.prog w = .ok (20 == 0) w from fun w => by kernel_rfl) w
  · exact (show ∀ w : World, (Op.equalIn 10000 121 (.agg (cP (P4.im 21)).toArray) (.agg (cP (P4.im 0)).toArray)).run Tryd.prog w = .ok (21 == 0) w from fun w => by kernel_rfl) w
  · exact (show ∀ w : World, (Op.equalIn 10000 121 (.agg (cP (P4.im 22)).toArray) (.agg (cP (P4.im 0)).toArray)).run Tryd.prog w = .ok (22 == 0) w from fun w => by kernel_rfl) w
  · exact (show ∀ w : World, (Op.equalIn 10000 121 (.agg (cP (P4.im 23)).toArray) (.agg (cP (P4.im 0)).toArray)).run Tryd.prog w = .ok (23 == 0) w from fun w => by kernel_rfl) w

end Go.Proofs.YtjendlfophdfeaaDoor
