/- What the program's move adds. No condition but those that each theorem names. -/
import Derived.Test.YtjommpdblbbkdaaTzKa
import Derived.Deep.RegionHeld3
namespace Go.Proofs.Ytjommpdblbbkdaa
open Go.RowKit

theorem Kept.cellAt {lo hi : Nat} {w w' : World} (h : Kept lo hi w w') {p : Addr} (hp : p.block < w.heap.size) (hn : ¬ (lo ≤ p.block ∧ p.block < hi)) : w'.cell? p = w.cell? p := World.cell?_of_block (h.block p.block hp hn)

set_option maxRecDepth 100000 in
set_option maxHeartbeats 16000000 in
theorem chg_add (Aw : Option Addr) (nw cw : Nat) (ws : List Int) (r : Int) (A : Option Addr) (c : Nat) (rs : List Rw) (w : World) (h : RdS w w.heap.size A rs) (hp : Wd.isP r (vals rs) = true) (hw : Ints w w.heap.size Aw nw ws) (hwn : nw ≤ 120) :
    Calls Try.prog 60 #[.agg #[.int .i64 r, .slice A rs.length c], .iface 91 (.agg #[.slice Aw nw cw])] w (ResPr w (r + 1) (vals rs ++ [-(r + 1) :: ws])) := by
  obtain ⟨r0, r24, r48, hz⟩ := Wd.isP_iff.1 hp
  rw [vals_len] at r48
  have RW := Lib.hid (show ∀ q ∈ rs, q.zs.length ≤ 1048576 from fun q hq => by
    have := (Wd.isW_fit (Wd.isR_iff.1 (hz _ (List.mem_map_of_mem hq))).1).1
    omega)
  have CL := Lib.hid (fun (W : World) (hb : Below w.heap.size w W) => cloneP_any r A c rs W (h.into hb) (by omega) RW.out)
  have HW := Lib.hid hw
  obtain ⟨n, hrn⟩ : ∃ n, rs.length = n := ⟨_, rfl⟩
  have HN := Lib.hid hrn
  rw [hrn] at r48 CL ⊢
  have P0 := Lib.hid (BoxG.new w 26 (.int .i64 r) (.slice A n c))
  have P1 := Lib.hid (BoxG.new (w.alloc (Obj.cells #[.int .i64 r, .slice A n c] 26)) 26 (.int .i64 0) (.slice none 0 0))
  have F1 := Lib.hid (Free.new (w.alloc (Obj.cells #[.int .i64 r, .slice A n c] 26)) 26 #[.int .i64 0, .slice none 0 0])
  have ta_invertRelator : ∀ w, (Instr.typeAssert (.iface 91 (.agg #[.slice Aw nw cw])) 67 86 true).run Try.prog w = .ok (.tuple #[.agg #[.int .i64 0], .bool false]) w := fun w => by kernel_rfl
  have ta_rotateRelator : ∀ w, (Instr.typeAssert (.iface 91 (.agg #[.slice Aw nw cw])) 67 87 true).run Try.prog w = .ok (.tuple #[.agg #[.int .i64 0], .bool false]) w := fun w => by kernel_rfl
  have ta_multiplyRelator : ∀ w, (Instr.typeAssert (.iface 91 (.agg #[.slice Aw nw cw])) 67 89 true).run Try.prog w = .ok (.tuple #[.agg #[.int .i64 0, .int .i64 0], .bool false]) w := fun w => by kernel_rfl
  have ta_dropRelator : ∀ w, (Instr.typeAssert (.iface 91 (.agg #[.slice Aw nw cw])) 67 81 true).run Try.prog w = .ok (.tuple #[.agg #[.int .i64 0], .bool false]) w := fun w => by kernel_rfl
  have ta_removeGenerator : ∀ w, (Instr.typeAssert (.iface 91 (.agg #[.slice Aw nw cw])) 67 83 true).run Try.prog w = .ok (.tuple #[.agg #[.int .i64 0, .int .i64 0], .bool false]) w := fun w => by kernel_rfl
  have ta_addGenerator : ∀ w, (Instr.typeAssert (.iface 91 (.agg #[.slice Aw nw cw])) 67 91 true).run Try.prog w = .ok (.tuple #[.agg #[.slice Aw nw cw], .bool true]) w := fun w => by kernel_rfl
  clear h hp hz hw
  have wp1 : IntKind.i64.wrap (r + 1) = r + 1 := IntWalk.i64_in _ (by omega)
  have wn1 : IntKind.i64.wrap (-(r + 1)) = -(r + 1) := IntWalk.i64_in _ (by omega)
  go_enter Try.func60, Try.ntmps60
  go_wp2_with fail
  refine (CL.out _ (al2 _ _ _)).mono ?_
  rintro e w1 ⟨A1, c1, rs1, rfl, ho, hv, hb⟩
  have L1 := Lib.hid (show rs1.length = n from by rw [← vals_len, hv, vals_len, HN.out])
  rw [L1.out]
  have z1 : w.heap.size + 1 < w1.heap.size := by have := hb.size; simp at this; omega
  have V1 := Lib.hid hv
  have O1 := Lib.hid ho
  have D1 := Lib.hid (on2 _ _ hb)
  have X0 := Lib.hid ((P0.out.below (al1 _ _) (by simp)).below hb (by simp; omega))
  have X1 := Lib.hid (show BoxG w1 (w.heap.size + 1) (.int .i64 0) (.slice none 0 0) from by simpa using P1.out.below hb (by simp))
  have Y1 := Lib.hid (show Free w1 (w.heap.size + 1) from by simpa using F1.out.below hb (by simp))
  clear hv hb P0 P1 F1 CL hrn
  go_upto_region 21 with fail
  obtain ⟨V, hV⟩ : ∃ V, V = (w1.alloc (Obj.cells #[.int .i64 (r + 1), .slice A1 n c1] 26)).alloc (Obj.cells #[.slice Aw nw cw] 91) := ⟨_, rfl⟩
  have DV := Lib.hid (show Below w1.heap.size w1 V from by rw [hV]; exact al2 _ _ _)
  have sV : V.heap.size = w1.heap.size + 1 + 1 := by rw [hV]; simp
  have C0 := Lib.hid (show BoxG V w1.heap.size (.int .i64 (r + 1)) (.slice A1 n c1) from by rw [hV]; exact (BoxG.new w1 _ _ _).below (al1 _ _) (by simp))
  have CF := Lib.hid (show Free V w1.heap.size from by rw [hV]; exact (Free.new w1 _ _).below (al1 _ _) (by simp))
  have C1 := Lib.hid (show V.cell? ⟨w1.heap.size + 1, 0, none⟩ = some (.slice Aw nw cw) from by rw [hV]; exact Wd.alloc_first _ _ _ _ (by simp))
  rw [← hV]
  clear hV ta_addGenerator
  have DW := Lib.hid (D1.out.trans (DV.out.mono (by omega)))
  have OV := Lib.hid (show OwnS V (w.heap.size + 1 + 1) w1.heap.size A1 c1 rs1 from by have := O1.out.below DV.out (Nat.le_refl _); simpa using this)
  obtain ⟨zo, hzo⟩ : ∃ zo, [-(r + 1)] ++ ws = zo := ⟨_, rfl⟩
  have ZO := Lib.hid (show -(r + 1) :: ws = zo from hzo)
  have CAT0 := (concat_any (some ⟨V.heap.size, 0, none⟩) Aw 1 1 nw cw (V.heap.size + 1) [-(r + 1)] ws (((V.alloc (Obj.cells #[.int .i64 (-(r + 1))] 2)).alloc (Obj.cells #[.slice (some ⟨V.heap.size, 0, none⟩) 1 1, .slice Aw nw cw] 34)).drew)
    (by
      have h1 := Wd.ints_one (w := V.alloc (Obj.cells #[.int .i64 (-(r + 1))] 2)) (Wd.alloc_first V _ _ _ rfl)
      exact (h1.into ((al1 _ _).drew)))
    (HW.out.into ((DW.out.trans ((al2 V _ _).mono DW.out.size)).drew)) (by omega)
    (show BoxG (((V.alloc (Obj.cells #[.int .i64 (-(r + 1))] 2)).alloc (Obj.cells #[.slice (some ⟨V.heap.size, 0, none⟩) 1 1, .slice Aw nw cw] 34)).drew) (V.heap.size + 1) _ _ from by
      have h1 := BoxG.new (V.alloc (Obj.cells #[.int .i64 (-(r + 1))] 2)) 34 (.slice (some ⟨V.heap.size, 0, none⟩) 1 1) (.slice Aw nw cw)
      simp only [World.size_alloc] at h1
      exact h1)
    (show V.heap.size + 1 < ((V.alloc _).alloc _).heap.size by simp))
  rw [hzo, sV] at CAT0
  have CAT := Lib.hid CAT0
  clear CAT0
  obtain ⟨p0, p1⟩ := C0.out
  have p2 := C1.out
  have p3 := CF.out
  unfold Free at p3
  have v1 : w1.heap.size < V.heap.size := by omega
  have v2 : w1.heap.size + 1 < V.heap.size := by omega
  clear hzo ho
  go_region_law (first
      | (refine step_push_row2 (by rfl) _ _ (by rfl) (w.heap.size + 1 + 1) w1.heap.size V.heap.size c1 n w6.heap.size A1 rs1 ⟨R6, t6, zo⟩ (by rfl) L1.out (by exact OV.out.below (B6.out.trans ((al1 w6 _).mono z6)) (by omega)) (by rfl) (by exact Wd.alloc_first _ _ _ _ rfl) (by exact (M6.out.below (al1 w6 _) (Nat.le_refl _)).wide (Nat.le_refl _) (by simp)) (by omega) (by omega) (by simp; omega) (by simp; omega) (by omega) ?_; intro A7 c7 w7 h5 h6 h7; have OB := Lib.hid (h7 w1.heap.size (Nat.le_refl _) (by omega) (by simp; omega)); have O7 := Lib.hid h5; have K7 := Lib.hid h6; obtain ⟨y0, y1⟩ := ((C0.out.below B6.out (by omega)).below (al1 w6 (Obj.cells #[.slice R6 zo.length t6] 34)) (by omega)).kept K7.out (by simp; omega) (by omega); have g7 := ((CF.out.below B6.out (by omega)).below (al1 w6 (Obj.cells #[.slice R6 zo.length t6] 34)) (by omega)).kept K7.out (by simp; omega) (by omega); unfold Free at g7; have y2 := (K7.out.cellAt (p := ⟨w1.heap.size + 1, 0, none⟩) (by simp; omega) (by dsimp only; omega)).trans (((B6.out.trans ((al1 w6 (Obj.cells #[.slice R6 zo.length t6] 34)).mono z6)).cell (p := ⟨w1.heap.size + 1, 0, none⟩) (by dsimp only; omega)).trans C1.out); clear h5 h6 h7)
      | (go_simp; go_at_call 68; refine CAT.out.mono ?_; rintro e w6 ⟨R6, t6, rfl, hc6, hc7, hm6, hb6'⟩; have hb6 := on2 _ _ (undrew hb6'); have B6 := Lib.hid hb6; have z6 := hb6.size; have x6 : w1.heap.size < w6.heap.size := (by omega); have x7 : w1.heap.size + 1 < w6.heap.size := (by omega); have M6 := Lib.hid (show Rw.In ⟨R6, t6, zo⟩ w6 V.heap.size w6.heap.size from ⟨hc6, hc7, hm6.mine.wide (show V.heap.size ≤ ((V.alloc _).alloc _).heap.size by simp; omega) (Nat.le_refl _)⟩); obtain ⟨e0, e1⟩ := C0.out.below hb6 (by omega); have e2 := (hb6.cell (p := ⟨w1.heap.size + 1, 0, none⟩) (by dsimp only; omega)).trans C1.out; clear hb6 hb6' hc6 hc7 hm6))
  all_goals
    have s7 := K7.out.size
    simp only [World.size_alloc] at s7
    have C7 := Lib.hid (((C0.out.below B6.out (by omega)).below (al1 w6 (Obj.cells #[.slice R6 zo.length t6] 34)) (by omega)).kept K7.out (by simp; omega) (by omega))
    obtain ⟨s0, s1⟩ := (((X1.out.below DV.out (by omega)).below B6.out (by omega)).below (al1 w6 (Obj.cells #[.slice R6 zo.length t6] 34)) (by omega)).kept K7.out (by simp; omega) (by omega)
    have f0 := (((Y1.out.below DV.out (by omega)).below B6.out (by omega)).below (al1 w6 (Obj.cells #[.slice R6 zo.length t6] 34)) (by omega)).kept K7.out (by simp; omega) (by omega)
    have D7 := Lib.hid ((DW.out.trans (B6.out.mono (by omega))).trans (((al1 w6 (Obj.cells #[.slice R6 zo.length t6] 34)).mono (by omega)).trans (K7.out.below (B := w.heap.size) (by omega) (by simp; omega))))
    have VAL := Lib.hid (show vals (rs1 ++ [⟨R6, t6, zo⟩]) = vals rs ++ [-(r + 1) :: ws] from by rw [ZO.out, ← V1.out]; simp [vals])
    have LE := Lib.hid (show (rs1 ++ [(⟨R6, t6, zo⟩ : Rw)]).length = n + 1 from by rw [List.length_append, L1.out]; rfl)
    unfold Free at f0
    clear p0 p1 p2 p3 e0 e1 e2
    go_wp2
    refine bodyPost_ret (v := .agg #[.int .i64 (r + 1), .slice A7 (n + 1) c7]) (by simp [results, Try.results60, s0, s1, go_sem]) rfl ?_
    refine ⟨A7, c7, rs1 ++ [⟨R6, t6, zo⟩], by rw [LE.out], ?_, VAL.out, ?_⟩
    · have O8 := O7.out.far_off (p := ⟨w1.heap.size, 1, none⟩) OB.out.1 OB.out.2 (.slice A7 (n + 1) c7)
      exact ((O8.far (p := ⟨w.heap.size + 1, 0, none⟩) (.inl (by dsimp only; omega)) _).far (p := ⟨w.heap.size + 1, 1, none⟩) (.inl (by dsimp only; omega)) _).wide (by omega) (by simp [World.setCell])
    · exact ((D7.out.setCell (by dsimp only; omega) _).setCell (by dsimp only; omega) _).setCell (by dsimp only; omega) _

end Go.Proofs.Ytjommpdblbbkdaa
