/- The program's composition, inverse and order of arrays. No condition but those that each theorem names. -/
import Derived.Test.YtjendlfophdfeaaDoorPfF
namespace Go.Proofs.YtjendlfophdfeaaDoor
open Go.RowKit

def ResA (w : World) (l : List Int) (e : Ending) (w' : World) : Prop := e = .returned (.agg (cP l).toArray) ∧ Below w.heap.size w w'
set_option maxRecDepth 100000 in
theorem BlkP.four {W : World} {g : Nat} {x0 x1 x2 x3 : Int} (h : BlkP W g [x0, x1, x2, x3]) : W.cell? ⟨g, 0, none⟩ = some (.int .u8 x0) ∧ W.cell? ⟨g, 1, none⟩ = some (.int .u8 x1) ∧ W.cell? ⟨g, 2, none⟩ = some (.int .u8 x2) ∧ W.cell? ⟨g, 3, none⟩ = some (.int .u8 x3) :=
  ⟨h.cell (i := 0) (by simp), h.cell (i := 1) (by simp), h.cell (i := 2) (by simp), h.cell (i := 3) (by simp)⟩
set_option maxRecDepth 100000 in
theorem L4.four {l : List Int} (h : L4 l) : ∃ x0 x1 x2 x3 : Nat, l = [(x0 : Int), (x1 : Int), (x2 : Int), (x3 : Int)] ∧ x0 < 4 ∧ x1 < 4 ∧ x2 < 4 ∧ x3 < 4 := by
  obtain ⟨x0, h0, b0⟩ := h.nat (k := 0) (by omega)
  obtain ⟨x1, h1, b1⟩ := h.nat (k := 1) (by omega)
  obtain ⟨x2, h2, b2⟩ := h.nat (k := 2) (by omega)
  obtain ⟨x3, h3, b3⟩ := h.nat (k := 3) (by omega)
  exact ⟨x0, x1, x2, x3, P4.four_eq h.len h0 h1 h2 h3, b0, b1, b2, b3⟩
set_option maxRecDepth 100000 in
theorem idx4 (l : List Int) (hl : l.length = 4) (k : Nat) (hk : k < 4) (w : World) : (Instr.index 121 (.agg (cP l).toArray) (.int .i64 (k : Int))).run Tryd.prog w = .ok (.int .u8 (l.getD k 0)) w := by
  match l, hl with
  | [a, b, c, d], _ =>
    have h : k = 0 ∨ k = 1 ∨ k = 2 ∨ k = 3 := by omega
    rcases h with rfl | rfl | rfl | rfl <;> rfl
set_option maxRecDepth 100000 in
theorem P4.comp_L4 {l m : List Int} (hl : L4 l) (hm : L4 m) : L4 (P4.comp l m) := ⟨by rw [P4.comp_len]; exact hl.len, fun k hk => by
  rw [P4.comp_at hl.len hk]
  exact hm.v _ (by have := hl.v k hk; omega)⟩

set_option maxRecDepth 100000 in
set_option maxHeartbeats 4000000 in
theorem pthen_impl (l m : List Int) (w : World) (hl : L4 l) (hm : L4 m) :
    Calls Tryd.prog 154 #[.agg (cP l).toArray, .agg (cP m).toArray] w (ResA w (P4.comp l m)) := by
  have HL := Lib.hid hl
  have HM := Lib.hid hm
  have IX := Lib.hid (idx4 l hl.len)
  have RL := Lib.hid (P4.comp_L4 hl hm)
  clear hl hm
  obtain ⟨X, hX⟩ : ∃ X, (cP l).toArray = X := ⟨_, rfl⟩
  obtain ⟨Y, hY⟩ : ∃ Y, (cP m).toArray = Y := ⟨_, rfl⟩
  have HX := Lib.hid hX
  have HY := Lib.hid hY
  rw [hX] at IX
  rw [hX, hY]
  clear hX hY
  go_enter Tryd.func154, Tryd.ntmps154
  go_upto_region 2 with fail
  obtain ⟨V, hV⟩ : ∃ V, V = (((w.alloc (Obj.cells X 121)).alloc (Obj.cells Y 121)).alloc (Obj.cells #[Value.int .u8 0, Value.int .u8 0, Value.int .u8 0, Value.int .u8 0] 121)).alloc (Obj.cells #[Value.int .u8 0, Value.int .u8 0, Value.int .u8 0, Value.int .u8 0] 121) := ⟨_, rfl⟩
  rw [← hV]
  have DV := Lib.hid (show Below w.heap.size w V from by rw [hV]; exact ((((Below.refl _ _).alloc (Nat.le_refl _) _).alloc (by simp) _).alloc (by simp; omega) _).alloc (by simp; omega) _)
  have PXl := Lib.hid (show BlkP V w.heap.size l from by
    rw [hV, ← HX.out]; exact (((show BlkP (w.alloc (Obj.cells (cP l).toArray 121)) w.heap.size l from heap_alloc_new w _).alloc _).alloc _).alloc _)
  have PX := Lib.hid (show V.heap[w.heap.size]? = some (.cells X 121 (0, 0)) from by rw [← HX.out]; exact PXl.out)
  have PY := Lib.hid (show BlkP V (w.heap.size + 1) m from by
    rw [hV, ← HY.out]
    exact (((show BlkP ((w.alloc (Obj.cells X 121)).alloc (Obj.cells (cP m).toArray 121)) (w.heap.size + 1) m from by have h := heap_alloc_new (w.alloc (Obj.cells X 121)) (Obj.cells (cP m).toArray 121); rw [World.size_alloc] at h; exact h).alloc _).alloc _))
  have PR := Lib.hid (show BlkP V (w.heap.size + 1 + 1) [0, 0, 0, 0] from by
    rw [hV]
    exact ((show BlkP (((w.alloc (Obj.cells X 121)).alloc (Obj.cells Y 121)).alloc (Obj.cells #[Value.int .u8 0, Value.int .u8 0, Value.int .u8 0, Value.int .u8 0] 121)) (w.heap.size + 1 + 1) [0, 0, 0, 0] from by have h := heap_alloc_new ((w.alloc (Obj.cells X 121)).alloc (Obj.cells Y 121)) (Obj.cells #[Value.int .u8 0, Value.int .u8 0, Value.int .u8 0, Value.int .u8 0] 121); rw [World.size_alloc, World.size_alloc] at h; exact h).alloc _))
  have PC := Lib.hid (show BlkP V (w.heap.size + 1 + 1 + 1) (part (P4.comp l m) 0 4) from by
    rw [hV]
    have h := heap_alloc_new (((w.alloc (Obj.cells X 121)).alloc (Obj.cells Y 121)).alloc (Obj.cells #[Value.int .u8 0, Value.int .u8 0, Value.int .u8 0, Value.int .u8 0] 121)) (Obj.cells #[Value.int .u8 0, Value.int .u8 0, Value.int .u8 0, Value.int .u8 0] 121)
    rw [World.size_alloc, World.size_alloc, World.size_alloc] at h
    exact h)
  have XS := Lib.hid (show (Tryd.prog.info? 121).map (·.size) = some X.size from by
    rw [← HX.out, show (cP l).toArray.size = 4 from by simp [cP, HL.out.len]]; exact size4)
  clear hV
  obtain ⟨g, hg⟩ : ∃ g, w.heap.size = g := ⟨_, rfl⟩
  have HG := Lib.hid hg
  rw [hg] at DV PX PY PR PC
  rw [hg]
  clear hg
  go_wp2_with (refine wpList_load_row rfl 121 (.tmp 2) rfl g rfl 121 X (0, 0) (.array 4 5) PX.out Tryd.underlying121 rfl XS.out ?_)
  go_loopw [9] (fun i W => ∃ k : Nat, k ≤ 4 ∧ i = .int .i64 k ∧ BlkP W (g + 1 + 1 + 1) (part (P4.comp l m) k 4) ∧ Below (g + 1 + 1 + 1) V W) (fun i _ => 4 - (intOf i).toNat)
  case atStart => exact ⟨0, Nat.zero_le _, rfl, PC.out, Below.refl _ _⟩
  case round =>
    obtain ⟨k, hk, rfl, hblk, hbel⟩ := hrel
    have B := Lib.hid hblk
    have D := Lib.hid hbel
    clear hblk hbel
    by_cases hlt : k < 4
    · have ix := IX.out k hlt
      obtain ⟨Z, hz, hz4⟩ := HL.out.nat hlt
      obtain ⟨y, hy, hy4⟩ := HM.out.nat hz4
      have NX := Lib.hid (part_set (P4.comp l m) k 4 RL.out.len hlt)
      rw [P4.comp_at HL.out.len hlt, hz, Int.toNat_natCast, hy] at NX
      rw [hz] at ix
      have cy := (PY.out.below D.out (by omega)).cell (i := Z) (by rw [HM.out.len]; exact hz4)
      rw [hy] at cy
      have c1 := B.out.cell (i := k) (by rw [part_len _ _ _ RL.out.len (by omega)]; exact hlt)
      have f1 := B.out.frozen k
      have i1 : (k : Int) < 4 := by omega
      have i2 : (Z : Int) < 4 := by omega
      clear hz hy
      go_wp2
      go_roundw
      case rel => exact ⟨k + 1, by omega, by go_num, by rw [← NX.out]; exact B.out.set_ _ _, D.out.setCell (Nat.le_refl _) _⟩
      case measure => simp [intOf]; omega
    · obtain rfl : k = 4 := by omega
      have B4 := Lib.hid (show BlkP wr (g + 1 + 1 + 1) (P4.comp l m) from by have := B.out; rwa [part_full _ _ RL.out.len] at this)
      obtain ⟨r0, r1, r2, r3, hr, _⟩ := RL.out.four
      have HR := Lib.hid hr
      rw [hr] at B4
      have R2 := Lib.hid (PR.out.below D.out (by omega))
      clear hr
      obtain ⟨c0, c1, c2, c3⟩ := B4.out.four
      obtain ⟨d0, d1, d2, d3⟩ := R2.out.four
      have f0 := R2.out.frozen 0
      have f1 := R2.out.frozen 1
      have f2 := R2.out.frozen 2
      have f3 := R2.out.frozen 3
      go_wp2
      refine bodyPost_ret (v := .agg #[.int .u8 (r0 : Int), .int .u8 (r1 : Int), .int .u8 (r2 : Int), .int .u8 (r3 : Int)]) (by simp [results, Tryd.results154, go_sem, d0, d1, d2, d3]) rfl ⟨by rw [HR.out]; rfl, ?_⟩
      rw [HG.out]
      exact ((((DV.out.trans (D.out.mono (by omega))).setCell (by dsimp only; omega) _).setCell (by dsimp only; omega) _).setCell (by dsimp only; omega) _).setCell (by dsimp only; omega) _
end Go.Proofs.YtjendlfophdfeaaDoor
