/- What the program's moves change. No condition but those that each theorem names. -/
import Derived.Test.YtjommpdblbbkdaaTzC
import Derived.Deep.RegionHeld3
namespace Go.Proofs.Ytjommpdblbbkdaa
open Go.RowKit


set_option maxRecDepth 100000 in
set_option maxHeartbeats 16000000 in
theorem chg_drop (i : Nat) (r : Int) (A : Option Addr) (c : Nat) (rs : List Rw) (w : World) (h : RdS w w.heap.size A rs) (hp : Wd.isP r (vals rs) = true) (hi : i < rs.length) :
    Calls Try.prog 60 #[.agg #[.int .i64 r, .slice A rs.length c], .iface 81 (.agg #[.int .i64 (i : Int)])] w (ResPr w r ((vals rs).eraseIdx i)) := by
  obtain ⟨r0, r24, r48, hz⟩ := Wd.isP_iff.1 hp
  rw [vals_len] at r48
  have RW := Lib.hid (show ∀ q ∈ rs, q.zs.length ≤ 1048576 from fun q hq => by
    have := (Wd.isW_fit (Wd.isR_iff.1 (hz _ (List.mem_map_of_mem hq))).1).1
    omega)
  have CL := Lib.hid (fun (W : World) (hb : Below w.heap.size w W) => cloneP_any r A c rs W (h.into hb) (by omega) RW.out)
  obtain ⟨n, hrn⟩ : ∃ n, rs.length = n := ⟨_, rfl⟩
  have HN := Lib.hid hrn
  rw [hrn] at hi r48 CL ⊢
  have P0 := Lib.hid (BoxG.new w 26 (.int .i64 r) (.slice A n c))
  have P1 := Lib.hid (BoxG.new (w.alloc (Obj.cells #[.int .i64 r, .slice A n c] 26)) 26 (.int .i64 0) (.slice none 0 0))
  have F1 := Lib.hid (Free.new (w.alloc (Obj.cells #[.int .i64 r, .slice A n c] 26)) 26 #[.int .i64 0, .slice none 0 0])
  have ta_invertRelator : ∀ w, (Instr.typeAssert (.iface 81 (.agg #[.int .i64 (i : Int)])) 67 86 true).run Try.prog w = .ok (.tuple #[.agg #[.int .i64 0], .bool false]) w := fun w => by kernel_rfl
  have ta_rotateRelator : ∀ w, (Instr.typeAssert (.iface 81 (.agg #[.int .i64 (i : Int)])) 67 87 true).run Try.prog w = .ok (.tuple #[.agg #[.int .i64 0], .bool false]) w := fun w => by kernel_rfl
  have ta_multiplyRelator : ∀ w, (Instr.typeAssert (.iface 81 (.agg #[.int .i64 (i : Int)])) 67 89 true).run Try.prog w = .ok (.tuple #[.agg #[.int .i64 0, .int .i64 0], .bool false]) w := fun w => by kernel_rfl
  have ta_dropRelator : ∀ w, (Instr.typeAssert (.iface 81 (.agg #[.int .i64 (i : Int)])) 67 81 true).run Try.prog w = .ok (.tuple #[.agg #[.int .i64 (i : Int)], .bool true]) w := fun w => by kernel_rfl
  clear h hp hz
  go_enter Try.func60, Try.ntmps60
  go_wp2_with fail
  refine (CL.out _ (al2 _ _ _)).mono ?_
  rintro e w1 ⟨A1, c1, rs1, rfl, ho, hv, hb⟩
  have L1 := Lib.hid (show rs1.length = n from by rw [← vals_len, hv, vals_len, HN.out])
  rw [L1.out]
  have z1 : w.heap.size + 1 < w1.heap.size := by have := hb.size; simp at this; omega
  have V1 := Lib.hid hv
  have O1 := Lib.hid ho
  have D1 := Lib.hid (on2 _ _ hb)
  have X0 := Lib.hid ((P0.out.below (al1 _ _) (by simp)).below hb (by simp; omega))
  have X1 := Lib.hid (show BoxG w1 (w.heap.size + 1) (.int .i64 0) (.slice none 0 0) from by simpa using P1.out.below hb (by simp))
  have Y1 := Lib.hid (show Free w1 (w.heap.size + 1) from by simpa using F1.out.below hb (by simp))
  clear hv hb P0 P1 F1 CL hrn
  obtain ⟨g1, hA1, h1, h2, h3⟩ := ho.at_ (by rw [L1.out]; omega)
  subst hA1
  simp only [World.size_alloc] at h1
  have w1' : IntKind.i64.wrap ((i : Int) + 1) = (i : Int) + 1 := IntWalk.i64_in _ (by omega)
  have DE := Lib.hid (fun (W : World) (hO : OwnS W (w.heap.size + 1 + 1) w1.heap.size (some ⟨g1, 0, none⟩) c1 rs1) => delete_any g1 c1 i rs1 _ _ W hO (by rw [L1.out]; exact hi) (by rw [L1.out]; omega))
  rw [L1.out] at DE
  clear ho h3
  go_wp2_with fail
  refine (DE.out _ (by simpa using O1.out.below (al2 _ _ _) (Nat.le_refl _))).mono ?_
  rintro e w2 ⟨rfl, ho2, hk2⟩
  have z2 : w1.heap.size + 1 < w2.heap.size := by have := hk2.size; simp at this; omega
  have O2 := Lib.hid ho2
  have C2 := Lib.hid (((BoxG.new w1 26 (.int .i64 r) (.slice (some ⟨g1, 0, none⟩) n c1)).below (al1 _ _) (by simp)).kept hk2 (by simp; omega) (by omega))
  have FC := Lib.hid (((Free.new w1 26 #[.int .i64 r, .slice (some ⟨g1, 0, none⟩) n c1]).below (al1 _ _) (by simp)).kept hk2 (by simp; omega) (by omega))
  obtain ⟨s0, s1⟩ := (X1.out.below (al2 _ _ _) (by omega)).kept hk2 (by simp; omega) (by omega)
  have f0 := (Y1.out.below (al2 _ _ _) (by omega)).kept hk2 (by simp; omega) (by omega)
  have D2 := Lib.hid (D1.out.trans (((al2 _ _ _).mono (by omega)).trans (hk2.below (by omega) (by simp; omega))))
  obtain ⟨q0, q1⟩ := C2.out
  have fc := FC.out
  have VAL := Lib.hid (show vals (rs1.eraseIdx i) = (vals rs).eraseIdx i from by rw [← V1.out]; simp only [vals, List.eraseIdx_eq_take_drop_succ, List.map_append, List.map_take, List.map_drop])
  have LE := Lib.hid (show (rs1.eraseIdx i).length = n - 1 from by rw [List.length_eraseIdx_of_lt (by rw [L1.out]; exact hi), L1.out])
  unfold Free at f0 fc
  clear ho2 hk2
  go_wp2
  refine bodyPost_ret (v := .agg #[.int .i64 r, .slice (some ⟨g1, 0, none⟩) (n - 1) c1]) (by simp [results, Try.results60, s0, s1, go_sem]) rfl ?_
  refine ⟨some ⟨g1, 0, none⟩, c1, rs1.eraseIdx i, by rw [LE.out], ?_, VAL.out, ?_⟩
  · exact (((O2.out.far (p := ⟨w1.heap.size, 1, none⟩) (.inr (by dsimp only; omega)) _).far (p := ⟨w.heap.size + 1, 0, none⟩) (.inl (by dsimp only; omega)) _).far (p := ⟨w.heap.size + 1, 1, none⟩) (.inl (by dsimp only; omega)) _).wide (by omega) (by simp [World.setCell]; omega)
  · exact ((D2.out.setCell (by dsimp only; omega) _).setCell (by dsimp only; omega) _).setCell (by dsimp only; omega) _

set_option maxRecDepth 100000 in
set_option maxHeartbeats 16000000 in
theorem chg_rem (i : Nat) (g : Int) (r : Int) (A : Option Addr) (c : Nat) (rs : List Rw) (w : World) (h : RdS w w.heap.size A rs) (hp : Wd.isP r (vals rs) = true) (hi : i < rs.length) (hg : 1 ≤ g) (hgr : g ≤ r) (ho : 0 < Wd.occ g (rs.getD i nilRw).zs) :
    Calls Try.prog 60 #[.agg #[.int .i64 r, .slice A rs.length c], .iface 83 (.agg #[.int .i64 (i : Int), .int .i64 g])] w (ResPr w (r - 1) (((vals rs).eraseIdx i).map fun z => (Wd.sub g (Wd.solve g (rs.getD i nilRw).zs) z).map (Wd.ren g))) := by
  obtain ⟨r0, r24, r48, hz⟩ := Wd.isP_iff.1 hp
  rw [vals_len] at r48
  have RW := Lib.hid (show ∀ q ∈ rs, q.zs.length ≤ 1048576 from fun q hq => by
    have := (Wd.isW_fit (Wd.isR_iff.1 (hz _ (List.mem_map_of_mem hq))).1).1
    omega)
  have CL := Lib.hid (fun (W : World) (hb : Below w.heap.size w W) => cloneP_any r A c rs W (h.into hb) (by omega) RW.out)
  have RM := Lib.hid (fun (W : World) (hb : Below w.heap.size w W) => tz_removed i g r A c rs W (h.into hb) hp hi hg hgr ho)
  obtain ⟨n, hrn⟩ : ∃ n, rs.length = n := ⟨_, rfl⟩
  have HN := Lib.hid hrn
  obtain ⟨zo, hzo⟩ : ∃ zo, (((vals rs).eraseIdx i).map fun z => (Wd.sub g (Wd.solve g (rs.getD i nilRw).zs) z).map (Wd.ren g)) = zo := ⟨_, rfl⟩
  rw [hzo] at RM ⊢
  rw [hrn] at hi r48 CL RM ⊢
  have P0 := Lib.hid (BoxG.new w 26 (.int .i64 r) (.slice A n c))
  have P1 := Lib.hid (BoxG.new (w.alloc (Obj.cells #[.int .i64 r, .slice A n c] 26)) 26 (.int .i64 0) (.slice none 0 0))
  have F1 := Lib.hid (Free.new (w.alloc (Obj.cells #[.int .i64 r, .slice A n c] 26)) 26 #[.int .i64 0, .slice none 0 0])
  have ta_invertRelator : ∀ w, (Instr.typeAssert (.iface 83 (.agg #[.int .i64 (i : Int), .int .i64 g])) 67 86 true).run Try.prog w = .ok (.tuple #[.agg #[.int .i64 0], .bool false]) w := fun w => by kernel_rfl
  have ta_rotateRelator : ∀ w, (Instr.typeAssert (.iface 83 (.agg #[.int .i64 (i : Int), .int .i64 g])) 67 87 true).run Try.prog w = .ok (.tuple #[.agg #[.int .i64 0], .bool false]) w := fun w => by kernel_rfl
  have ta_multiplyRelator : ∀ w, (Instr.typeAssert (.iface 83 (.agg #[.int .i64 (i : Int), .int .i64 g])) 67 89 true).run Try.prog w = .ok (.tuple #[.agg #[.int .i64 0, .int .i64 0], .bool false]) w := fun w => by kernel_rfl
  have ta_dropRelator : ∀ w, (Instr.typeAssert (.iface 83 (.agg #[.int .i64 (i : Int), .int .i64 g])) 67 81 true).run Try.prog w = .ok (.tuple #[.agg #[.int .i64 0], .bool false]) w := fun w => by kernel_rfl
  have ta_removeGenerator : ∀ w, (Instr.typeAssert (.iface 83 (.agg #[.int .i64 (i : Int), .int .i64 g])) 67 83 true).run Try.prog w = .ok (.tuple #[.agg #[.int .i64 (i : Int), .int .i64 g], .bool true]) w := fun w => by kernel_rfl
  clear h hp hz ho hzo
  go_enter Try.func60, Try.ntmps60
  go_wp2_with fail
  refine (CL.out _ (al2 _ _ _)).mono ?_
  rintro e w1 ⟨A1, c1, rs1, rfl, ho, hv, hb⟩
  have L1 := Lib.hid (show rs1.length = n from by rw [← vals_len, hv, vals_len, HN.out])
  rw [L1.out]
  have z1 : w.heap.size + 1 < w1.heap.size := by have := hb.size; simp at this; omega
  have V1 := Lib.hid hv
  have O1 := Lib.hid ho
  have D1 := Lib.hid (on2 _ _ hb)
  have X0 := Lib.hid ((P0.out.below (al1 _ _) (by simp)).below hb (by simp; omega))
  have X1 := Lib.hid (show BoxG w1 (w.heap.size + 1) (.int .i64 0) (.slice none 0 0) from by simpa using P1.out.below hb (by simp))
  have Y1 := Lib.hid (show Free w1 (w.heap.size + 1) from by simpa using F1.out.below hb (by simp))
  clear hv hb P0 P1 F1 CL hrn
  obtain ⟨x0, x1⟩ := X0.out
  have y1 : w.heap.size < w1.heap.size := by omega
  clear ho
  go_wp2_with fail
  refine (RM.out _ (D1.out.trans ((al2 _ _ _).mono (by omega)))).mono ?_
  rintro e w2 ⟨A2, c2, rs2, rfl, ho2, hv2, hb2⟩
  have z2 : w1.heap.size + 1 < w2.heap.size := by have := hb2.size; simp at this; omega
  obtain ⟨q0, q1⟩ := ((BoxG.new w1 26 (.int .i64 r) (.slice A1 n c1)).below (al1 _ _) (by simp)).below hb2 (by simp; omega)
  have fc := ((Free.new w1 26 #[.int .i64 r, .slice A1 n c1]).below (al1 _ (Obj.cells #[.int .i64 (i : Int), .int .i64 g] 83)) (by simp)).below hb2 (by simp; omega)
  obtain ⟨s0, s1⟩ := (X1.out.below (al2 _ _ _) (by omega)).below hb2 (by simp; omega)
  have f0 := (Y1.out.below (al2 _ _ _) (by omega)).below hb2 (by simp; omega)
  have D2 := Lib.hid (D1.out.trans (((al2 _ _ _).mono (by omega)).trans (hb2.mono (by simp; omega))))
  have O2 := Lib.hid ho2
  have V2 := Lib.hid hv2
  unfold Free at f0 fc
  clear ho2 hv2 hb2 x0 x1
  simp only [World.size_alloc] at O2
  go_wp2
  refine bodyPost_ret (v := .agg #[.int .i64 (r - 1), .slice A2 rs2.length c2]) (by simp [results, Try.results60, s0, s1, go_sem]) rfl ?_
  refine ⟨A2, c2, rs2, rfl, ?_, V2.out, ?_⟩
  · exact ((((O2.out.far (p := ⟨w1.heap.size, 0, none⟩) (.inl (by dsimp only; omega)) _).far (p := ⟨w1.heap.size, 1, none⟩) (.inl (by dsimp only; omega)) _).far (p := ⟨w.heap.size + 1, 0, none⟩) (.inl (by dsimp only; omega)) _).far (p := ⟨w.heap.size + 1, 1, none⟩) (.inl (by dsimp only; omega)) _).wide (by omega) (by simp [World.setCell])
  · exact (((D2.out.setCell (by dsimp only; omega) _).setCell (by dsimp only; omega) _).setCell (by dsimp only; omega) _).setCell (by dsimp only; omega) _

end Go.Proofs.Ytjommpdblbbkdaa
