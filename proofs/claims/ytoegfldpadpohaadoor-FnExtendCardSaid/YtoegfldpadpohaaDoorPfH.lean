/- The program's inverse and order of arrays, and its exported functions but those over the map. No condition but those that each theorem names. -/
import Derived.Test.YtoegfldpadpohaaDoorPfG
namespace Go.Proofs.YtoegfldpadpohaaDoor
open Go.RowKit

set_option maxHeartbeats 4000000 in
theorem pinv_impl (l : List Int) (w : World) (hl : L4 l) (hr : L4 (P4.invk l 4)) :
    Calls Tryd.prog 40 #[.agg (cP l).toArray] w (ResA w (P4.invk l 4)) := by
  have HL := Lib.hid hl
  have IX := Lib.hid (idx4 l hl.len)
  have RL := Lib.hid hr
  clear hl hr
  obtain ⟨X, hX⟩ : ∃ X, (cP l).toArray = X := ⟨_, rfl⟩
  have HX := Lib.hid hX
  rw [hX] at IX
  rw [hX]
  clear hX
  go_enter Tryd.func40, Tryd.ntmps40
  go_upto_region 2 with fail
  obtain ⟨V, hV⟩ : ∃ V, V = ((w.alloc (Obj.cells X 47)).alloc (Obj.cells #[Value.int .u8 0, Value.int .u8 0, Value.int .u8 0, Value.int .u8 0] 47)).alloc (Obj.cells #[Value.int .u8 0, Value.int .u8 0, Value.int .u8 0, Value.int .u8 0] 47) := ⟨_, rfl⟩
  rw [← hV]
  have DV := Lib.hid (show Below w.heap.size w V from by rw [hV]; exact (((Below.refl _ _).alloc (Nat.le_refl _) _).alloc (by simp) _).alloc (by simp; omega) _)
  have PXl := Lib.hid (show BlkP V w.heap.size l from by
    rw [hV, ← HX.out]; exact ((show BlkP (w.alloc (Obj.cells (cP l).toArray 47)) w.heap.size l from heap_alloc_new w _).alloc _).alloc _)
  have PX := Lib.hid (show V.heap[w.heap.size]? = some (.cells X 47 (0, 0)) from by rw [← HX.out]; exact PXl.out)
  have PR := Lib.hid (show BlkP V (w.heap.size + 1) [0, 0, 0, 0] from by
    rw [hV]
    exact ((show BlkP ((w.alloc (Obj.cells X 47)).alloc (Obj.cells #[Value.int .u8 0, Value.int .u8 0, Value.int .u8 0, Value.int .u8 0] 47)) (w.heap.size + 1) [0, 0, 0, 0] from by have h := heap_alloc_new (w.alloc (Obj.cells X 47)) (Obj.cells #[Value.int .u8 0, Value.int .u8 0, Value.int .u8 0, Value.int .u8 0] 47); rw [World.size_alloc] at h; exact h).alloc _))
  have PC := Lib.hid (show BlkP V (w.heap.size + 1 + 1) (P4.invk l 0) from by
    rw [hV]
    have h := heap_alloc_new ((w.alloc (Obj.cells X 47)).alloc (Obj.cells #[Value.int .u8 0, Value.int .u8 0, Value.int .u8 0, Value.int .u8 0] 47)) (Obj.cells #[Value.int .u8 0, Value.int .u8 0, Value.int .u8 0, Value.int .u8 0] 47)
    rw [World.size_alloc, World.size_alloc] at h
    exact h)
  have XS := Lib.hid (show (Tryd.prog.info? 47).map (·.size) = some X.size from by
    rw [← HX.out, show (cP l).toArray.size = 4 from by simp [cP, HL.out.len]]; exact size4)
  clear hV
  obtain ⟨g, hg⟩ : ∃ g, w.heap.size = g := ⟨_, rfl⟩
  have HG := Lib.hid hg
  rw [hg] at DV PX PR PC
  rw [hg]
  clear hg PXl
  go_wp2_with (refine wpList_load_row rfl 47 (.tmp 1) rfl g rfl 47 X (0, 0) (.array 4 5) PX.out Tryd.underlying47 rfl XS.out ?_)
  go_loopw [7] (fun i W => ∃ k : Nat, k ≤ 4 ∧ i = .int .i64 k ∧ BlkP W (g + 1 + 1) (P4.invk l k) ∧ Below (g + 1 + 1) V W) (fun i _ => 4 - (intOf i).toNat)
  case atStart => exact ⟨0, Nat.zero_le _, rfl, PC.out, Below.refl _ _⟩
  case round =>
    obtain ⟨k, hk, rfl, hblk, hbel⟩ := hrel
    have B := Lib.hid hblk
    have D := Lib.hid hbel
    clear hblk hbel
    by_cases hlt : k < 4
    · have ix := IX.out k hlt
      obtain ⟨Z, hz, hz4⟩ := HL.out.nat hlt
      have NX := Lib.hid (show P4.invk l (k + 1) = (P4.invk l k).set Z (k : Int) from by rw [P4.invk, hz, Int.toNat_natCast])
      rw [hz] at ix
      have c1 := B.out.cell (i := Z) (by rw [P4.invk_len]; exact hz4)
      have f1 := B.out.frozen Z
      have i1 : (k : Int) < 4 := by omega
      have i2 : (Z : Int) < 4 := by omega
      have u1 : IntKind.u8.wrap (k : Int) = (k : Int) := by
        have h : k = 0 ∨ k = 1 ∨ k = 2 ∨ k = 3 := by omega
        rcases h with rfl | rfl | rfl | rfl <;> rfl
      clear hz
      go_wp2
      go_roundw
      case rel => exact ⟨k + 1, by omega, by go_num, by rw [NX.out]; exact B.out.set_ _ _, D.out.setCell (Nat.le_refl _) _⟩
      case measure => simp [intOf]; omega
    · obtain rfl : k = 4 := by omega
      obtain ⟨r0, r1, r2, r3, hr, _⟩ := RL.out.four
      have HR := Lib.hid hr
      rw [hr] at B
      have R2 := Lib.hid (PR.out.below D.out (by omega))
      clear hr
      obtain ⟨c0, c1, c2, c3⟩ := B.out.four
      obtain ⟨d0, d1, d2, d3⟩ := R2.out.four
      have f0 := R2.out.frozen 0
      have f1 := R2.out.frozen 1
      have f2 := R2.out.frozen 2
      have f3 := R2.out.frozen 3
      go_wp2
      refine bodyPost_ret (v := .agg #[.int .u8 (r0 : Int), .int .u8 (r1 : Int), .int .u8 (r2 : Int), .int .u8 (r3 : Int)]) (by simp [results, Tryd.results40, go_sem, d0, d1, d2, d3]) rfl ⟨by rw [HR.out]; rfl, ?_⟩
      rw [HG.out]
      exact ((((DV.out.trans (D.out.mono (by omega))).setCell (by dsimp only; omega) _).setCell (by dsimp only; omega) _).setCell (by dsimp only; omega) _).setCell (by dsimp only; omega) _

/-- The images, in memory of the call's own. -/
theorem perm4_impl_no (p : Int) (w : World) (hp : ¬ (0 ≤ p ∧ p < 24)) :
    Calls Tryd.prog 21 #[.int .i64 p] w fun e w' => e = .returned (.slice none 0 0) ∧ w = w' := by
  have HP := Lib.hid hp
  clear hp
  go_enter Tryd.func21, Tryd.ntmps21
  go_wp2_with fail
  refine (isPerm4_no _ _ HP.out).mono ?_
  rintro e w0 ⟨rfl, rfl⟩
  go_wp2
  go_ret
  exact ⟨rfl, rfl⟩
theorem run_make4 (w : World) :
    (Instr.makeSlice 30 (.int .i64 4) (.int .i64 4)).run Tryd.prog w = .ok (.slice (some ⟨w.heap.size, 0, none⟩) 4 4) (w.alloc (.cells ((List.replicate 4 (0 : Int)).map (Value.int .i64)).toArray 2)) := run_make_ints 4 (by omega) w
set_option maxHeartbeats 4000000 in
theorem perm4_impl (p : Nat) (w : World) (hp : p < 24) (ht : Tb w) :
    Calls Tryd.prog 21 #[.int .i64 p] w (ResIm w p) := by
  have HP := Lib.hid (show (0 : Int) ≤ (p : Int) ∧ (p : Int) < 24 from by omega)
  have i1 : (p : Int) < 24 := by omega
  have HL := Lib.hid (L4.im hp)
  have IX := Lib.hid (idx4 (P4.im p) (P4.im_len p hp))
  have h0 : 0 < w.heap.size := World.block_lt_of_cell? w ⟨0, 0, none⟩ (ht 0 (.int .u8 0) rfl)
  have V1 := Lib.hid (Blk.new w (part (P4.im p) 0 4))
  obtain ⟨x0, x1, x2, x3, hx, _, c0, c1, c2, c3⟩ := ht.four hp
  have HX := Lib.hid hx
  have hmk := run_make4
  go_enter Tryd.func21, Tryd.ntmps21
  go_wp2_with fail
  refine (isPerm4_yes _ _ HP.out.1 HP.out.2).mono ?_
  rintro e w0 ⟨rfl, rfl⟩
  clear hx
  go_upto_region 4 with fail
  have E0 : (Obj.cells #[Value.int .i64 0, Value.int .i64 0, Value.int .i64 0, Value.int .i64 0] 2) = Obj.cells ((part (P4.im p) 0 4).map (Value.int .i64)).toArray 2 := rfl
  obtain ⟨V, hV⟩ : ∃ V, V = w.alloc (Obj.cells #[Value.int .i64 0, Value.int .i64 0, Value.int .i64 0, Value.int .i64 0] 2) := ⟨_, rfl⟩
  rw [← hV]
  rw [← E0, ← hV] at V1
  have DV := Lib.hid (show Below w.heap.size w V from by rw [hV]; exact al1 _ _)
  obtain ⟨c0, c1, c2, c3⟩ : V.cell? ⟨0, p * 4, none⟩ = some (.int .u8 (x0 : Int)) ∧ V.cell? ⟨0, p * 4 + 1, none⟩ = some (.int .u8 (x1 : Int)) ∧ V.cell? ⟨0, p * 4 + 2, none⟩ = some (.int .u8 (x2 : Int)) ∧ V.cell? ⟨0, p * 4 + 3, none⟩ = some (.int .u8 (x3 : Int)) :=
    ⟨(DV.out.cell (p := ⟨0, _, none⟩) h0).trans c0, (DV.out.cell (p := ⟨0, _, none⟩) h0).trans c1, (DV.out.cell (p := ⟨0, _, none⟩) h0).trans c2, (DV.out.cell (p := ⟨0, _, none⟩) h0).trans c3⟩
  have IX2 := Lib.hid (show ∀ (k : Nat), k < 4 → ∀ (w : World), (Instr.index 47 (.agg #[.int .u8 (x0 : Int), .int .u8 (x1 : Int), .int .u8 (x2 : Int), .int .u8 (x3 : Int)]) (.int .i64 (k : Int))).run Tryd.prog w = .ok (.int .u8 ((P4.im p).getD k 0)) w from by have h := IX.out; rw [HX.out] at h ⊢; exact h)
  clear hV E0 hmk IX
  go_wp2
  clear c0 c1 c2 c3
  obtain ⟨g, hg⟩ : ∃ g, w.heap.size = g := ⟨_, rfl⟩
  have HG := Lib.hid hg
  rw [hg] at V1 DV ⊢
  clear hg
  go_loopw [13] (fun i W => ∃ k : Nat, k ≤ 4 ∧ i = .int .i64 k ∧ Blk W g (part (P4.im p) k 4) ∧ Below g V W) (fun i _ => 4 - (intOf i).toNat)
  case atStart => exact ⟨0, Nat.zero_le _, rfl, V1.out, Below.refl _ _⟩
  case round =>
    obtain ⟨k, hk, rfl, hblk, hbel⟩ := hrel
    have B := Lib.hid hblk
    have D := Lib.hid hbel
    clear hblk hbel
    by_cases hlt : k < 4
    · have ix := IX2.out k hlt
      obtain ⟨Z, hz, hz4⟩ := HL.out.nat hlt
      have NX := Lib.hid (part_set (P4.im p) k 4 HL.out.len hlt)
      rw [hz] at NX ix
      have c1 := B.out.cell (i := k) (by rw [part_len _ _ _ HL.out.len (by omega)]; exact hlt)
      have f1 := B.out.frozen k
      have i1 : (k : Int) < 4 := by omega
      have u1 : IntKind.i64.wrap (Z : Int) = (Z : Int) := IntWalk.i64_in _ (by omega)
      clear hz
      go_wp2
      go_roundw
      case rel => exact ⟨k + 1, by omega, by go_num, by rw [← NX.out]; exact B.out.set_ _ _, D.out.setCell (Nat.le_refl _) _⟩
      case measure => simp [intOf]; omega
    · obtain rfl : k = 4 := by omega
      have B4 := Lib.hid (show Blk wr g (P4.im p) from by have := B.out; rwa [part_full _ _ HL.out.len] at this)
      go_wp2
      go_ret
      refine ⟨some ⟨g, 0, none⟩, 4, rfl, ?_, ?_⟩
      · rw [HG.out]; exact Own.of_blk B4.out (Nat.le_refl _) B4.out.lt HL.out.len (by unfold maxLen; omega)
      · rw [HG.out]; exact DV.out.trans D.out
/-- An image of the table. -/
theorem apply_impl (p k : Nat) (w : World) (hp : p < 24) (hk : k < 4) (ht : Tb w) :
    Calls Tryd.prog 22 #[.int .i64 p, .int .i64 k] w (ResI w ((P4.im p).getD k 0)) := by
  have HP := Lib.hid (show (0 : Int) ≤ (p : Int) ∧ (p : Int) < 24 from by omega)
  have HK := Lib.hid (show (0 : Int) ≤ (k : Int) ∧ (k : Int) < 4 from by omega)
  have i1 : (p : Int) < 24 := by omega
  have i2 : (k : Int) < 4 := by omega
  have c0 := ht.cell hp hk
  obtain ⟨z, hz, hz4⟩ := (L4.im hp).nat hk
  rw [hz] at c0
  rw [hz]
  have u1 : IntKind.i64.wrap (z : Int) = (z : Int) := IntWalk.i64_in _ (by omega)
  clear hz
  go_enter Tryd.func22, Tryd.ntmps22
  go_wp2_with fail
  refine (isPerm4_yes _ _ HP.out.1 HP.out.2).mono ?_
  rintro e w0 ⟨rfl, rfl⟩
  go_wp2_with fail
  refine (isVertex_yes _ _ HK.out.1 HK.out.2).mono ?_
  rintro e w0 ⟨rfl, rfl⟩
  go_wp2
  go_ret
  exact ⟨rfl, Below.refl _ _⟩
theorem apply_impl_no (p k : Int) (w : World) (h : ¬ ((0 ≤ p ∧ p < 24) ∧ (0 ≤ k ∧ k < 4))) :
    Calls Tryd.prog 22 #[.int .i64 p, .int .i64 k] w fun e w' => e = .returned (.int .i64 (-1)) ∧ w = w' := by
  by_cases hp : 0 ≤ p ∧ p < 24
  · have HP := Lib.hid hp
    have HK := Lib.hid (show ¬ (0 ≤ k ∧ k < 4) from fun hk => h ⟨hp, hk⟩)
    clear hp h
    go_enter Tryd.func22, Tryd.ntmps22
    go_wp2_with fail
    refine (isPerm4_yes _ _ HP.out.1 HP.out.2).mono ?_
    rintro e w0 ⟨rfl, rfl⟩
    go_wp2_with fail
    refine (isVertex_no _ _ HK.out).mono ?_
    rintro e w0 ⟨rfl, rfl⟩
    go_wp2
    go_ret
    exact ⟨rfl, rfl⟩
  · have HP := Lib.hid hp
    clear hp h
    go_enter Tryd.func22, Tryd.ntmps22
    go_wp2_with fail
    refine (isPerm4_no _ _ HP.out).mono ?_
    rintro e w0 ⟨rfl, rfl⟩
    go_wp2
    go_ret
    exact ⟨rfl, rfl⟩

theorem al1' (V : World) {B : Nat} (h : B ≤ V.heap.size) (o : Obj) : Below B V (V.alloc o) := (Below.refl _ _).alloc h o
theorem eq4 : ∀ q, q < 24 → ∀ w : World, (Op.equalIn 10000 47 (.agg (cP (P4.im q)).toArray) (.agg (cP (P4.im 0)).toArray)).run Tryd.prog w = .ok (q == 0) w := by
  intro q hq w
  have h : q = 0 ∨ q = 1 ∨ q = 2 ∨ q = 3 ∨ q = 4 ∨ q = 5 ∨ q = 6 ∨ q = 7 ∨ q = 8 ∨ q = 9 ∨ q = 10 ∨ q = 11 ∨ q = 12 ∨ q = 13 ∨ q = 14 ∨ q = 15 ∨ q = 16 ∨ q = 17 ∨ q = 18 ∨ q = 19 ∨ q = 20 ∨ q = 21 ∨ q = 22 ∨ q = 23 := by omega
  rcases h with rfl | rfl | rfl | rfl | rfl | rfl | rfl | rfl | rfl | rfl | rfl | rfl | rfl | rfl | rfl | rfl | rfl | rfl | rfl | rfl | rfl | rfl | rfl | rfl 
  · exact (show ∀ w : World, (Op.equalIn 10000 47 (.agg (cP (P4.im 0)).toArray) (.agg (cP (P4.im 0)).toArray)).run Tryd.prog w = .ok (0 == 0) w from fun w => by kernel_rfl) w
  · exact (show ∀ w : World, (Op.equalIn 10000 47 (.agg (cP (P4.im 1)).toArray) (.agg (cP (P4.im 0)).toArray)).run Tryd.prog w = .ok (1 == 0) w from fun w => by kernel_rfl) w
  · exact (show ∀ w : World, (Op.equalIn 10000 47 (.agg (cP (P4.im 2)).toArray) (.agg (cP (P4.im 0)).toArray)).run Tryd.prog w = .ok (2 == 0) w from fun w => by kernel_rfl) w
  · exact (show ∀ w : World, (Op.equalIn 10000 47 (.agg (cP (P4.im 3)).toArray) (.agg (cP (P4.im 0)).toArray)).run Tryd.prog w = .ok (3 == 0) w from fun w => by kernel_rfl) w
  · exact (show ∀ w : World, (Op.equalIn 10000 47 (.agg (cP (P4.im 4)).toArray) (.agg (cP (P4.im 0)).toArray)).run Tryd.prog w = .ok (4 == 0) w from fun w => by kernel_rfl) w
  · exact (show ∀ w : World, (Op.equalIn 10000 47 (.agg (cP (P4.im 5)).toArray) (.agg (cP (P4.im 0)).toArray)).run Tryd.prog w = .ok (5 == 0) w from fun w => by kernel_rfl) w
  · exact (show ∀ w : World, (Op.equalIn 10000 47 (.agg (cP (P4.im 6)).toArray) (.agg (cP (P4.im 0)).toArray)).run Tryd.prog w = .ok (6 == 0) w from fun w => by kernel_rfl) w
  · exact (show ∀ w : World, (Op.equalIn 10000 47 (.agg (cP (P4.im 7)).toArray) (.agg (cP (P4.im 0)).toArray)).run Tryd.prog w = .ok (7 == 0) w from fun w => by kernel_rfl) w
  · exact (show ∀ w : World, (Op.equalIn 10000 47 (.agg (cP (P4.im 8)).toArray) (.agg (cP (P4.im 0)).toArray)).run Tryd.prog w = .ok (8 == 0) w from fun w => by kernel_rfl) w
  · exact (show ∀ w : World, (Op.equalIn 10000 47 (.agg (cP (P4.im 9)).toArray) (.agg (cP (P4.im 0)).toArray)).run Tryd.prog w = .ok (9 == 0) w from fun w => by kernel_rfl) w
  · exact (show ∀ w : World, (Op.equalIn 10000 47 (.agg (cP (P4.im 10)).toArray) (.agg (cP (P4.im 0)).toArray)).run Tryd.prog w = .ok (10 == 0) w from fun w => by kernel_rfl) w
  · exact (show ∀ w : World, (Op.equalIn 10000 47 (.agg (cP (P4.im 11)).toArray) (.agg (cP (P4.im 0)).toArray)).run Tryd.prog w = .ok (11 == 0) w from fun w => by kernel_rfl) w
  · exact (show ∀ w : World, (Op.equalIn 10000 47 (.agg (cP (P4.im 12)).toArray) (.agg (cP (P4.im 0)).toArray)).run Tryd.prog w = .ok (12 == 0) w from fun w => by kernel_rfl) w
  · exact (show ∀ w : World, (Op.equalIn 10000 47 (.agg (cP (P4.im 13)).toArray) (.agg (cP (P4.im 0)).toArray)).run Tryd.prog w = .ok (13 == 0) w from fun w => by kernel_rfl) w
  · exact (show ∀ w : World, (Op.equalIn 10000 47 (.agg (cP (P4.im 14)).toArray) (.agg (cP (P4.im 0)).toArray)).run Tryd.prog w = .ok (14 == 0) w from fun w => by kernel_rfl) w
  · exact (show ∀ w : World, (Op.equalIn 10000 47 (.agg (cP (P4.im 15)).toArray) (.agg (cP (P4.im 0)).toArray)).run Tryd.prog w = .ok (15 == 0) w from fun w => by kernel_rfl) w
  · exact (show ∀ w : World, (Op.equalIn 10000 47 (.agg (cP (P4.im 16)).toArray) (.agg (cP (P4.im 0)).toArray)).run Tryd.prog w = .ok (16 == 0) w from fun w => by kernel_rfl) w
  · exact (show ∀ w : World, (Op.equalIn 10000 47 (.agg (cP (P4.im 17)).toArray) (.agg (cP (P4.im 0)).toArray)).run Tryd.prog w = .ok (17 == 0) w from fun w => by kernel_rfl) w
  · exact (show ∀ w : World, (Op.equalIn 10000 47 (.agg (cP (P4.im 18)).toArray) (.agg (cP (P4.im 0)).toArray)).run Tryd.prog w = .ok (18 == 0) w from fun w => by kernel_rfl) w
  · exact (show ∀ w : World, (Op.equalIn 10000 47 (.agg (cP (P4.im 19)).toArray) (.agg (cP (P4.im 0)).toArray)).run Tryd.prog w = .ok (19 == 0) w from fun w => by kernel_rfl) w
  · exact (show ∀ w : World, (Op.equalIn 10000 47 (.agg (cP (P4.im 20)).toArray) (.agg (cP (P4.im 0)).toArray)).run Tryd.prog w = .ok (20 == 0) w from fun w => by kernel_rfl) w
  · exact (show ∀ w : World, (Op.equalIn 10000 47 (.agg (cP (P4.im 21)).toArray) (.agg (cP (P4.im 0)).toArray)).run Tryd.prog w = .ok (21 == 0) w from fun w => by kernel_rfl) w
  · exact (show ∀ w : World, (Op.equalIn 10000 47 (.agg (cP (P4.im 22)).toArray) (.agg (cP (P4.im 0)).toArray)).run Tryd.prog w = .ok (22 == 0) w from fun w => by kernel_rfl) w
  · exact (show ∀ w : World, (Op.equalIn 10000 47 (.agg (cP (P4.im 23)).toArray) (.agg (cP (P4.im 0)).toArray)).run Tryd.prog w = .ok (23 == 0) w from fun w => by kernel_rfl) w

set_option maxHeartbeats 4000000 in
theorem porder_impl (p : Nat) (w : World) (hp : p < 24) (ht : Tb w) :
    Calls Tryd.prog 42 #[.agg (cP (P4.im p)).toArray] w (ResI w ((P4.ord p : Int) + 1)) := by
  have HT := Lib.hid ht
  have h0 : 0 < w.heap.size := World.block_lt_of_cell? w ⟨0, 0, none⟩ (ht 0 (.int .u8 0) rfl)
  obtain ⟨o1, o2, o3⟩ := P4.it_ord p hp
  have O1 := Lib.hid o1
  have O3 := Lib.hid o3
  obtain ⟨o, ho⟩ : ∃ o, P4.ord p = o := ⟨_, rfl⟩
  rw [ho] at o2 O1 O3 ⊢
  clear o1 o3 ho
  have PT := Lib.hid (fun (q : Nat) (hq : q < 24) W => pthen_impl (P4.im q) (P4.im p) W (L4.im hq) (L4.im hp))
  have X0 := Lib.hid (show BlkP (w.alloc (Obj.cells (cP (P4.im p)).toArray 47)) w.heap.size (P4.im p) from heap_alloc_new w _)
  obtain ⟨x0, x1, x2, x3, hx, _⟩ := (L4.im hp).four
  have HX := Lib.hid hx
  rw [hx] at X0 PT ⊢
  clear hx
  go_enter Tryd.func42, Tryd.ntmps42
  go_upto_region 2 with fail
  have EX : (cP [(x0 : Int), (x1 : Int), (x2 : Int), (x3 : Int)]).toArray = #[.int .u8 (x0 : Int), .int .u8 (x1 : Int), .int .u8 (x2 : Int), .int .u8 (x3 : Int)] := rfl
  obtain ⟨V, hV⟩ : ∃ V, V = w.alloc (Obj.cells (cP [(x0 : Int), (x1 : Int), (x2 : Int), (x3 : Int)]).toArray 47) := ⟨_, rfl⟩
  have DV := Lib.hid (show Below w.heap.size w V from by rw [hV]; exact al1 _ _)
  rw [← hV] at X0 ⊢
  rw [EX]
  have TV := Lib.hid (HT.out.below DV.out h0)
  have sV : w.heap.size + 1 ≤ V.heap.size := by rw [hV]; simp
  clear hV EX
  obtain ⟨g, hg⟩ : ∃ g, w.heap.size = g := ⟨_, rfl⟩
  have HG := Lib.hid hg
  rw [hg] at X0 DV sV h0
  rw [hg]
  clear hg
  obtain ⟨c0, c1, c2, c3⟩ := X0.out.four
  go_wp2
  clear c0 c1 c2 c3
  go_loopw [3, 4] (fun n x W => ∃ k h : Nat, k ≤ o ∧ n = .int .i64 ((k : Int) + 1) ∧ x = .pointer (some ⟨h, 0, none⟩) ∧ g < h ∧ BlkP W h (P4.im (P4.it p k)) ∧ Below (g + 1) V W) (fun n _ _ => o + 1 - (intOf n).toNat)
  case atStart =>
    refine ⟨0, V.heap.size, Nat.zero_le _, rfl, rfl, by omega, ?_, al1' _ (by omega) _⟩
    rw [show P4.it p 0 = p from rfl, HX.out]
    exact heap_alloc_new V _
  case round =>
    obtain ⟨k, h, hk, rfl, rfl, hgh, hblk, hbel⟩ := hrel
    have B := Lib.hid hblk
    have D := Lib.hid hbel
    have zB := hblk.lt
    clear hblk hbel
    have IL := P4.it_lt hp k
    have EQ := eq4 _ IL
    obtain ⟨y0, y1, y2, y3, hy, _⟩ := (L4.im IL).four
    have HY := Lib.hid hy
    have PK := Lib.hid (PT.out _ IL)
    rw [hy] at B EQ PK
    have eq : ∀ w : World, (Op.equalIn 10000 47 (.agg #[.int .u8 (y0 : Int), .int .u8 (y1 : Int), .int .u8 (y2 : Int), .int .u8 (y3 : Int)]) (.agg #[.int .u8 0, .int .u8 1, .int .u8 2, .int .u8 3])).run Tryd.prog w = .ok (P4.it p k == 0) w := EQ
    clear hy EQ
    obtain ⟨c0, c1, c2, c3⟩ := B.out.four
    have TW := Lib.hid (TV.out.below D.out (by omega))
    have t0 : wr.cell? ⟨0, 0, none⟩ = some (.int .u8 0) := TW.out 0 _ rfl
    have t1 : wr.cell? ⟨0, 1, none⟩ = some (.int .u8 1) := TW.out 1 _ rfl
    have t2 : wr.cell? ⟨0, 2, none⟩ = some (.int .u8 2) := TW.out 2 _ rfl
    have t3 : wr.cell? ⟨0, 3, none⟩ = some (.int .u8 3) := TW.out 3 _ rfl
    by_cases hlt : k < o
    · have NE := O3.out k hlt
      have NX := Lib.hid (show P4.im (P4.it p (k + 1)) = P4.comp (P4.im (P4.it p k)) (P4.im p) from P4.it_im hp k)
      rw [show (P4.it p k == 0) = false from by simpa using NE] at eq
      rw [HY.out] at NX
      have LN := Lib.hid (show L4 (P4.im (P4.it p (k + 1))) from L4.im (P4.it_lt hp (k + 1)))
      rw [NX.out, HX.out] at LN
      rw [HX.out] at NX
      clear NE
      have X1 := Lib.hid (X0.out.below D.out (by omega))
      go_upto_region 6 with fail
      clear t0 t1 t2 t3 eq
      go_upto_region 4 with fail
      have D2 := Lib.hid (D.out.trans (al1' wr (by have := D.out.size; omega) (Obj.cells #[.int .u8 (y0 : Int), .int .u8 (y1 : Int), .int .u8 (y2 : Int), .int .u8 (y3 : Int)] 47)))
      have Y2 := Lib.hid (show BlkP (wr.alloc (Obj.cells #[.int .u8 (y0 : Int), .int .u8 (y1 : Int), .int .u8 (y2 : Int), .int .u8 (y3 : Int)] 47)) wr.heap.size [(y0 : Int), (y1 : Int), (y2 : Int), (y3 : Int)] from heap_alloc_new wr _)
      have X2 := Lib.hid (X1.out.alloc (Obj.cells #[.int .u8 (y0 : Int), .int .u8 (y1 : Int), .int .u8 (y2 : Int), .int .u8 (y3 : Int)] 47))
      obtain ⟨U, hU⟩ : ∃ U, U = wr.alloc (Obj.cells #[.int .u8 (y0 : Int), .int .u8 (y1 : Int), .int .u8 (y2 : Int), .int .u8 (y3 : Int)] 47) := ⟨_, rfl⟩
      have sU : wr.heap.size + 1 ≤ U.heap.size := by rw [hU]; simp
      rw [← hU] at D2 Y2 X2 ⊢
      clear hU c0 c1 c2 c3 X1
      obtain ⟨c0, c1, c2, c3⟩ := Y2.out.four
      obtain ⟨e0, e1, e2, e3⟩ := X2.out.four
      obtain ⟨b, hb⟩ : ∃ b, wr.heap.size = b := ⟨_, rfl⟩
      have zb : g + 1 ≤ b := by omega
      rw [hb] at c0 c1 c2 c3 Y2 sU
      rw [hb]
      clear hb
      go_wp2_with fail
      refine (PK.out U).mono ?_
      rintro e w3 ⟨rfl, hb3⟩
      obtain ⟨r0, r1, r2, r3, hr, _⟩ := LN.out.four
      have D3 := Lib.hid (D2.out.trans (hb3.mono (by omega)))
      have Y3 := Lib.hid (Y2.out.below hb3 (by omega))
      have HR := Lib.hid (NX.out.trans hr)
      rw [hr]
      clear hr hb3 c0 c1 c2 c3 e0 e1 e2 e3
      rw [show (cP [(r0 : Int), (r1 : Int), (r2 : Int), (r3 : Int)]).toArray = #[.int .u8 (r0 : Int), .int .u8 (r1 : Int), .int .u8 (r2 : Int), .int .u8 (r3 : Int)] from rfl]
      obtain ⟨c0, c1, c2, c3⟩ := Y3.out.four
      have f0 := Y3.out.frozen 0
      have f1 := Y3.out.frozen 1
      have f2 := Y3.out.frozen 2
      have f3 := Y3.out.frozen 3
      go_wp2
      go_roundw
      case rel => exact ⟨k + 1, b, by omega, by go_num, rfl, by omega, by rw [HR.out]; exact (((Y3.out.set_ 0 _).set_ 1 _).set_ 2 _).set_ 3 _, (((D3.out.setCell (by dsimp only; omega) _).setCell (by dsimp only; omega) _).setCell (by dsimp only; omega) _).setCell (by dsimp only; omega) _⟩
      case measure => simp [intOf]; omega
    · obtain rfl : k = o := by omega
      rw [show (P4.it p k == 0) = true from by simpa using O1.out] at eq
      go_wp2
      go_ret
      exact ⟨rfl, by rw [HG.out]; exact DV.out.trans (D.out.mono (by omega))⟩

theorem order_impl (p : Nat) (w : World) (hp : p < 24) (ht : Tb w) :
    Calls Tryd.prog 19 #[.int .i64 p] w (ResI w ((P4.ord p : Int) + 1)) := by
  have HP := Lib.hid (show (0 : Int) ≤ (p : Int) ∧ (p : Int) < 24 from by omega)
  have i1 : (p : Int) < 24 := by omega
  obtain ⟨x0, x1, x2, x3, hx, _, c0, c1, c2, c3⟩ := ht.four hp
  have PS := Lib.hid (porder_impl p w hp ht)
  rw [hx] at PS
  clear hx
  go_enter Tryd.func19, Tryd.ntmps19
  go_wp2_with fail
  refine (isPerm4_yes _ _ HP.out.1 HP.out.2).mono ?_
  rintro e w0 ⟨rfl, rfl⟩
  go_wp2_with fail
  refine PS.out.mono ?_
  rintro e w1 ⟨rfl, hb⟩
  have D1 := Lib.hid hb
  clear hb
  go_wp2
  go_ret
  exact ⟨rfl, D1.out⟩
theorem order_impl_no (p : Int) (w : World) (hp : ¬ (0 ≤ p ∧ p < 24)) :
    Calls Tryd.prog 19 #[.int .i64 p] w fun e w' => e = .returned (.int .i64 (-1)) ∧ w = w' := by
  have HP := Lib.hid hp
  clear hp
  go_enter Tryd.func19, Tryd.ntmps19
  go_wp2_with fail
  refine (isPerm4_no _ _ HP.out).mono ?_
  rintro e w0 ⟨rfl, rfl⟩
  go_wp2
  go_ret
  exact ⟨rfl, rfl⟩

end Go.Proofs.YtoegfldpadpohaaDoor
