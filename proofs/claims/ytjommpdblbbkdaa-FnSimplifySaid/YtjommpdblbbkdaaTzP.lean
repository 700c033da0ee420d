/- The specification's ApplyTietze, from what it calls. No condition but those that each theorem names. -/
import Derived.Test.YtjommpdblbbkdaaTzO
namespace Go.Proofs.Ytjommpdblbbkdaa
open Go.RowKit

set_option maxRecDepth 100000 in
set_option maxHeartbeats 16000000 in
theorem sapply_bad (K I J r : Int) (A Aw : Option Addr) (c nw cw : Nat) (rs : List Rw) (w : World) (h : RdS w w.heap.size A rs) (hn : rs.length ≤ 1048576) (hrow : ∀ q ∈ rs, q.zs.length ≤ 1048576) (hp : Wd.isP r (vals rs) = false) :
    Calls Try.prog 10 #[.agg #[.int .i64 r, .slice A rs.length c], .agg #[.int .i64 K, .int .i64 I, .int .i64 J, .slice Aw nw cw]] w (ResP w 0 [] 1) := by
  have IP := Lib.hid (fun (W : World) (hb : Below w.heap.size w W) => isPres_spec r A c rs W (h.into hb) hn hrow)
  have P0 := Lib.hid (BoxG.new w 26 (.int .i64 r) (.slice A rs.length c))
  have M0 := Lib.hid (BoxT.new (w.alloc (Obj.cells #[.int .i64 r, .slice A rs.length c] 26)) 36 (.int .i64 K) (.int .i64 I) (.int .i64 J) (.slice Aw nw cw))
  have R0 := Lib.hid (BoxG.new ((w.alloc (Obj.cells #[.int .i64 r, .slice A rs.length c] 26)).alloc (Obj.cells #[.int .i64 K, .int .i64 I, .int .i64 J, .slice Aw nw cw] 36)) 26 (.int .i64 0) (.slice none 0 0))
  have F0 := Lib.hid (Free.new ((w.alloc (Obj.cells #[.int .i64 r, .slice A rs.length c] 26)).alloc (Obj.cells #[.int .i64 K, .int .i64 I, .int .i64 J, .slice Aw nw cw] 36)) 26 #[.int .i64 0, .slice none 0 0])
  have D3 := Lib.hid (al3 w (Obj.cells #[.int .i64 r, .slice A rs.length c] 26) (Obj.cells #[.int .i64 K, .int .i64 I, .int .i64 J, .slice Aw nw cw] 36) (Obj.cells #[.int .i64 0, .slice none 0 0] 26))
  obtain ⟨V, hV⟩ : ∃ V, V = (((w.alloc (Obj.cells #[.int .i64 r, .slice A rs.length c] 26)).alloc (Obj.cells #[.int .i64 K, .int .i64 I, .int .i64 J, .slice Aw nw cw] 36)).alloc (Obj.cells #[.int .i64 0, .slice none 0 0] 26)) := ⟨_, rfl⟩
  have sV : w.heap.size + 1 + 1 < V.heap.size := by rw [hV]; simp
  have X0 := Lib.hid (show BoxG V w.heap.size (.int .i64 r) (.slice A rs.length c) from by rw [hV]; exact (P0.out.below (al1 _ _) (by simp)).below (al1 _ _) (by simp; omega))
  have Y0 := Lib.hid (show BoxT V (w.heap.size + 1) (.int .i64 K) (.int .i64 I) (.int .i64 J) (.slice Aw nw cw) from by rw [hV]; simpa using M0.out.below (al1 _ _) (by simp))
  have Z0 := Lib.hid (show BoxG V (w.heap.size + 1 + 1) (.int .i64 0) (.slice none 0 0) from by rw [hV]; simpa using R0.out)
  have G0 := Lib.hid (show Free V (w.heap.size + 1 + 1) from by rw [hV]; simpa using F0.out)
  have DV := Lib.hid (show Below w.heap.size w V from by rw [hV]; exact D3.out)
  have NN := Lib.hid hn
  clear h hrow P0 M0 R0 F0 D3 hn
  go_enter Try.func10, Try.ntmps10
  go_upto_region 1 with fail
  rw [← hV]
  clear hV
  obtain ⟨x0, x1⟩ := X0.out
  go_wp2_with fail
  rw [hp] at IP
  refine (IP.out _ DV.out).mono ?_
  rintro e w1 ⟨rfl, hb1⟩
  have z1 : V.heap.size ≤ w1.heap.size := hb1.size
  have D1 := Lib.hid (DV.out.trans (hb1.mono (by omega)))
  have X1 := Lib.hid (X0.out.below hb1 (by omega))
  have Y1 := Lib.hid (Y0.out.below hb1 (by omega))
  have Z1 := Lib.hid (Z0.out.below hb1 (by omega))
  have G1 := Lib.hid (G0.out.below hb1 (by omega))
  clear hb1 x0 x1 X0 Y0 Z0 G0
  obtain ⟨s0, s1⟩ := Z1.out
  have f0 := G1.out
  unfold Free at f0
  go_wp2
  refine bodyPost_ret (v := .tuple #[.agg #[.int .i64 0, .slice none 0 0], .int .i64 1]) (by simp [results, Try.results10, s0, s1, go_sem]) rfl ?_
  exact ResP.err (b := w.heap.size + 1 + 1) (by omega) D1.out

set_option maxRecDepth 100000 in
set_option maxHeartbeats 16000000 in
theorem sapply_no (K I J r : Int) (A Aw : Option Addr) (c nw cw : Nat) (rs : List Rw) (w : World) (h : RdS w w.heap.size A rs) (hn : rs.length ≤ 1048576) (hrow : ∀ q ∈ rs, q.zs.length ≤ 1048576) (hp : Wd.isP r (vals rs) = true) (hK : ¬ (1 ≤ K ∧ K ≤ 6)) :
    Calls Try.prog 10 #[.agg #[.int .i64 r, .slice A rs.length c], .agg #[.int .i64 K, .int .i64 I, .int .i64 J, .slice Aw nw cw]] w (ResP w 0 [] 2) := by
  have IP := Lib.hid (fun (W : World) (hb : Below w.heap.size w W) => isPres_spec r A c rs W (h.into hb) hn hrow)
  have P0 := Lib.hid (BoxG.new w 26 (.int .i64 r) (.slice A rs.length c))
  have M0 := Lib.hid (BoxT.new (w.alloc (Obj.cells #[.int .i64 r, .slice A rs.length c] 26)) 36 (.int .i64 K) (.int .i64 I) (.int .i64 J) (.slice Aw nw cw))
  have R0 := Lib.hid (BoxG.new ((w.alloc (Obj.cells #[.int .i64 r, .slice A rs.length c] 26)).alloc (Obj.cells #[.int .i64 K, .int .i64 I, .int .i64 J, .slice Aw nw cw] 36)) 26 (.int .i64 0) (.slice none 0 0))
  have F0 := Lib.hid (Free.new ((w.alloc (Obj.cells #[.int .i64 r, .slice A rs.length c] 26)).alloc (Obj.cells #[.int .i64 K, .int .i64 I, .int .i64 J, .slice Aw nw cw] 36)) 26 #[.int .i64 0, .slice none 0 0])
  have D3 := Lib.hid (al3 w (Obj.cells #[.int .i64 r, .slice A rs.length c] 26) (Obj.cells #[.int .i64 K, .int .i64 I, .int .i64 J, .slice Aw nw cw] 36) (Obj.cells #[.int .i64 0, .slice none 0 0] 26))
  obtain ⟨V, hV⟩ : ∃ V, V = (((w.alloc (Obj.cells #[.int .i64 r, .slice A rs.length c] 26)).alloc (Obj.cells #[.int .i64 K, .int .i64 I, .int .i64 J, .slice Aw nw cw] 36)).alloc (Obj.cells #[.int .i64 0, .slice none 0 0] 26)) := ⟨_, rfl⟩
  have sV : w.heap.size + 1 + 1 < V.heap.size := by rw [hV]; simp
  have X0 := Lib.hid (show BoxG V w.heap.size (.int .i64 r) (.slice A rs.length c) from by rw [hV]; exact (P0.out.below (al1 _ _) (by simp)).below (al1 _ _) (by simp; omega))
  have Y0 := Lib.hid (show BoxT V (w.heap.size + 1) (.int .i64 K) (.int .i64 I) (.int .i64 J) (.slice Aw nw cw) from by rw [hV]; simpa using M0.out.below (al1 _ _) (by simp))
  have Z0 := Lib.hid (show BoxG V (w.heap.size + 1 + 1) (.int .i64 0) (.slice none 0 0) from by rw [hV]; simpa using R0.out)
  have G0 := Lib.hid (show Free V (w.heap.size + 1 + 1) from by rw [hV]; simpa using F0.out)
  have DV := Lib.hid (show Below w.heap.size w V from by rw [hV]; exact D3.out)
  have NN := Lib.hid hn
  clear h hrow P0 M0 R0 F0 D3 hn
  go_enter Try.func10, Try.ntmps10
  go_upto_region 1 with fail
  rw [← hV]
  clear hV
  obtain ⟨x0, x1⟩ := X0.out
  go_wp2_with fail
  rw [hp] at IP
  refine (IP.out _ DV.out).mono ?_
  rintro e w1 ⟨rfl, hb1⟩
  have z1 : V.heap.size ≤ w1.heap.size := hb1.size
  have D1 := Lib.hid (DV.out.trans (hb1.mono (by omega)))
  have X1 := Lib.hid (X0.out.below hb1 (by omega))
  have Y1 := Lib.hid (Y0.out.below hb1 (by omega))
  have Z1 := Lib.hid (Z0.out.below hb1 (by omega))
  have G1 := Lib.hid (G0.out.below hb1 (by omega))
  clear hb1 x0 x1 X0 Y0 Z0 G0
  have DK := Lib.hid hK
  clear hK
  obtain ⟨x0, x1⟩ := X1.out
  obtain ⟨m0, m1, m2, m3⟩ := Y1.out
  obtain ⟨s0, s1⟩ := Z1.out
  have f0 := G1.out
  unfold Free at f0
  go_wp2_with (go_at_call 31; (with_reducible refine (in_no K 1 6 _ DK.out).mono ?_); rintro e w' ⟨rfl, rfl⟩)
  refine bodyPost_ret (v := .tuple #[.agg #[.int .i64 0, .slice none 0 0], .int .i64 2]) (by simp [results, Try.results10, s0, s1, go_sem]) rfl ?_
  exact ResP.err (b := w.heap.size + 1 + 1) (by omega) D1.out

set_option maxRecDepth 100000 in
set_option maxHeartbeats 16000000 in
theorem sapply_mis (K I J r : Int) (A Aw : Option Addr) (c nw cw : Nat) (rs : List Rw) (w : World) (h : RdS w w.heap.size A rs) (hn : rs.length ≤ 1048576) (hrow : ∀ q ∈ rs, q.zs.length ≤ 1048576) (hp : Wd.isP r (vals rs) = true) (hK : 1 ≤ K ∧ K ≤ 6) (hmi : missing r rs.length K I J = true) :
    Calls Try.prog 10 #[.agg #[.int .i64 r, .slice A rs.length c], .agg #[.int .i64 K, .int .i64 I, .int .i64 J, .slice Aw nw cw]] w (ResP w 0 [] 4) := by
  have IP := Lib.hid (fun (W : World) (hb : Below w.heap.size w W) => isPres_spec r A c rs W (h.into hb) hn hrow)
  have P0 := Lib.hid (BoxG.new w 26 (.int .i64 r) (.slice A rs.length c))
  have M0 := Lib.hid (BoxT.new (w.alloc (Obj.cells #[.int .i64 r, .slice A rs.length c] 26)) 36 (.int .i64 K) (.int .i64 I) (.int .i64 J) (.slice Aw nw cw))
  have R0 := Lib.hid (BoxG.new ((w.alloc (Obj.cells #[.int .i64 r, .slice A rs.length c] 26)).alloc (Obj.cells #[.int .i64 K, .int .i64 I, .int .i64 J, .slice Aw nw cw] 36)) 26 (.int .i64 0) (.slice none 0 0))
  have F0 := Lib.hid (Free.new ((w.alloc (Obj.cells #[.int .i64 r, .slice A rs.length c] 26)).alloc (Obj.cells #[.int .i64 K, .int .i64 I, .int .i64 J, .slice Aw nw cw] 36)) 26 #[.int .i64 0, .slice none 0 0])
  have D3 := Lib.hid (al3 w (Obj.cells #[.int .i64 r, .slice A rs.length c] 26) (Obj.cells #[.int .i64 K, .int .i64 I, .int .i64 J, .slice Aw nw cw] 36) (Obj.cells #[.int .i64 0, .slice none 0 0] 26))
  obtain ⟨V, hV⟩ : ∃ V, V = (((w.alloc (Obj.cells #[.int .i64 r, .slice A rs.length c] 26)).alloc (Obj.cells #[.int .i64 K, .int .i64 I, .int .i64 J, .slice Aw nw cw] 36)).alloc (Obj.cells #[.int .i64 0, .slice none 0 0] 26)) := ⟨_, rfl⟩
  have sV : w.heap.size + 1 + 1 < V.heap.size := by rw [hV]; simp
  have X0 := Lib.hid (show BoxG V w.heap.size (.int .i64 r) (.slice A rs.length c) from by rw [hV]; exact (P0.out.below (al1 _ _) (by simp)).below (al1 _ _) (by simp; omega))
  have Y0 := Lib.hid (show BoxT V (w.heap.size + 1) (.int .i64 K) (.int .i64 I) (.int .i64 J) (.slice Aw nw cw) from by rw [hV]; simpa using M0.out.below (al1 _ _) (by simp))
  have Z0 := Lib.hid (show BoxG V (w.heap.size + 1 + 1) (.int .i64 0) (.slice none 0 0) from by rw [hV]; simpa using R0.out)
  have G0 := Lib.hid (show Free V (w.heap.size + 1 + 1) from by rw [hV]; simpa using F0.out)
  have DV := Lib.hid (show Below w.heap.size w V from by rw [hV]; exact D3.out)
  have NN := Lib.hid hn
  clear h hrow P0 M0 R0 F0 D3 hn
  go_enter Try.func10, Try.ntmps10
  go_upto_region 1 with fail
  rw [← hV]
  clear hV
  obtain ⟨x0, x1⟩ := X0.out
  go_wp2_with fail
  rw [hp] at IP
  refine (IP.out _ DV.out).mono ?_
  rintro e w1 ⟨rfl, hb1⟩
  have z1 : V.heap.size ≤ w1.heap.size := hb1.size
  have D1 := Lib.hid (DV.out.trans (hb1.mono (by omega)))
  have X1 := Lib.hid (X0.out.below hb1 (by omega))
  have Y1 := Lib.hid (Y0.out.below hb1 (by omega))
  have Z1 := Lib.hid (Z0.out.below hb1 (by omega))
  have G1 := Lib.hid (G0.out.below hb1 (by omega))
  clear hb1 x0 x1 X0 Y0 Z0 G0
  have DK := Lib.hid hK
  clear hK
  obtain ⟨x0, x1⟩ := X1.out
  obtain ⟨m0, m1, m2, m3⟩ := Y1.out
  go_wp2_with fail
  (with_reducible refine (in_yes K 1 6 _ DK.out.1 DK.out.2).mono ?_)
  rintro e w9 ⟨rfl, rfl⟩
  go_wp2_with fail
  refine (missing_spec r K I J A Aw rs.length c nw cw _ NN.out).mono ?_
  rintro e w2 ⟨rfl, hb2⟩
  rw [hmi]
  have z2 : w1.heap.size ≤ w2.heap.size := hb2.size
  have D2 := Lib.hid (D1.out.trans (hb2.mono (by omega)))
  have X2 := Lib.hid (X1.out.below hb2 (by omega))
  have Y2 := Lib.hid (Y1.out.below hb2 (by omega))
  have Z2 := Lib.hid (Z1.out.below hb2 (by omega))
  have G2 := Lib.hid (G1.out.below hb2 (by omega))
  clear hb2 X1 Y1 Z1 G1
  clear x0 x1 m0 m1 m2 m3
  obtain ⟨s0, s1⟩ := Z2.out
  have f0 := G2.out
  unfold Free at f0
  go_wp2
  refine bodyPost_ret (v := .tuple #[.agg #[.int .i64 0, .slice none 0 0], .int .i64 4]) (by simp [results, Try.results10, s0, s1, go_sem]) rfl ?_
  exact ResP.err (b := w.heap.size + 1 + 1) (by omega) D2.out

set_option maxRecDepth 100000 in
set_option maxHeartbeats 16000000 in
theorem sapply_wrd (K I J r : Int) (A Aw : Option Addr) (c nw cw : Nat) (rs : List Rw) (w : World) (h : RdS w w.heap.size A rs) (hn : rs.length ≤ 1048576) (hrow : ∀ q ∈ rs, q.zs.length ≤ 1048576) (hp : Wd.isP r (vals rs) = true) (hK : 1 ≤ K ∧ K ≤ 6) (ws : List Int) (hw : Ints w w.heap.size Aw nw ws) (hwn : nw ≤ 1048576) (hmi : missing r rs.length K I J = false) (h6 : K = 6) (hir : Wd.isR r ws = false) :
    Calls Try.prog 10 #[.agg #[.int .i64 r, .slice A rs.length c], .agg #[.int .i64 K, .int .i64 I, .int .i64 J, .slice Aw nw cw]] w (ResP w 0 [] 1) := by
  have IP := Lib.hid (fun (W : World) (hb : Below w.heap.size w W) => isPres_spec r A c rs W (h.into hb) hn hrow)
  have P0 := Lib.hid (BoxG.new w 26 (.int .i64 r) (.slice A rs.length c))
  have M0 := Lib.hid (BoxT.new (w.alloc (Obj.cells #[.int .i64 r, .slice A rs.length c] 26)) 36 (.int .i64 K) (.int .i64 I) (.int .i64 J) (.slice Aw nw cw))
  have R0 := Lib.hid (BoxG.new ((w.alloc (Obj.cells #[.int .i64 r, .slice A rs.length c] 26)).alloc (Obj.cells #[.int .i64 K, .int .i64 I, .int .i64 J, .slice Aw nw cw] 36)) 26 (.int .i64 0) (.slice none 0 0))
  have F0 := Lib.hid (Free.new ((w.alloc (Obj.cells #[.int .i64 r, .slice A rs.length c] 26)).alloc (Obj.cells #[.int .i64 K, .int .i64 I, .int .i64 J, .slice Aw nw cw] 36)) 26 #[.int .i64 0, .slice none 0 0])
  have D3 := Lib.hid (al3 w (Obj.cells #[.int .i64 r, .slice A rs.length c] 26) (Obj.cells #[.int .i64 K, .int .i64 I, .int .i64 J, .slice Aw nw cw] 36) (Obj.cells #[.int .i64 0, .slice none 0 0] 26))
  obtain ⟨V, hV⟩ : ∃ V, V = (((w.alloc (Obj.cells #[.int .i64 r, .slice A rs.length c] 26)).alloc (Obj.cells #[.int .i64 K, .int .i64 I, .int .i64 J, .slice Aw nw cw] 36)).alloc (Obj.cells #[.int .i64 0, .slice none 0 0] 26)) := ⟨_, rfl⟩
  have sV : w.heap.size + 1 + 1 < V.heap.size := by rw [hV]; simp
  have X0 := Lib.hid (show BoxG V w.heap.size (.int .i64 r) (.slice A rs.length c) from by rw [hV]; exact (P0.out.below (al1 _ _) (by simp)).below (al1 _ _) (by simp; omega))
  have Y0 := Lib.hid (show BoxT V (w.heap.size + 1) (.int .i64 K) (.int .i64 I) (.int .i64 J) (.slice Aw nw cw) from by rw [hV]; simpa using M0.out.below (al1 _ _) (by simp))
  have Z0 := Lib.hid (show BoxG V (w.heap.size + 1 + 1) (.int .i64 0) (.slice none 0 0) from by rw [hV]; simpa using R0.out)
  have G0 := Lib.hid (show Free V (w.heap.size + 1 + 1) from by rw [hV]; simpa using F0.out)
  have DV := Lib.hid (show Below w.heap.size w V from by rw [hV]; exact D3.out)
  have NN := Lib.hid hn
  clear h hrow P0 M0 R0 F0 D3 hn
  have t6 : ((K == 6) : Bool) = true := by simpa using h6
  clear h6
  have LS := Lib.hid (fun (W : World) (hb : Below w.heap.size w W) => letters_spec Aw nw cw ws r w.heap.size W (hw.below hb) hwn (Wd.isP_iff.1 hp).1 (by have := (Wd.isP_iff.1 hp).2.1; omega))
  clear hw hwn
  go_enter Try.func10, Try.ntmps10
  go_upto_region 1 with fail
  rw [← hV]
  clear hV
  obtain ⟨x0, x1⟩ := X0.out
  go_wp2_with fail
  rw [hp] at IP
  refine (IP.out _ DV.out).mono ?_
  rintro e w1 ⟨rfl, hb1⟩
  have z1 : V.heap.size ≤ w1.heap.size := hb1.size
  have D1 := Lib.hid (DV.out.trans (hb1.mono (by omega)))
  have X1 := Lib.hid (X0.out.below hb1 (by omega))
  have Y1 := Lib.hid (Y0.out.below hb1 (by omega))
  have Z1 := Lib.hid (Z0.out.below hb1 (by omega))
  have G1 := Lib.hid (G0.out.below hb1 (by omega))
  clear hb1 x0 x1 X0 Y0 Z0 G0
  have DK := Lib.hid hK
  clear hK
  obtain ⟨x0, x1⟩ := X1.out
  obtain ⟨m0, m1, m2, m3⟩ := Y1.out
  go_wp2_with fail
  (with_reducible refine (in_yes K 1 6 _ DK.out.1 DK.out.2).mono ?_)
  rintro e w9 ⟨rfl, rfl⟩
  go_wp2_with fail
  refine (missing_spec r K I J A Aw rs.length c nw cw _ NN.out).mono ?_
  rintro e w2 ⟨rfl, hb2⟩
  rw [hmi]
  have z2 : w1.heap.size ≤ w2.heap.size := hb2.size
  have D2 := Lib.hid (D1.out.trans (hb2.mono (by omega)))
  have X2 := Lib.hid (X1.out.below hb2 (by omega))
  have Y2 := Lib.hid (Y1.out.below hb2 (by omega))
  have Z2 := Lib.hid (Z1.out.below hb2 (by omega))
  have G2 := Lib.hid (G1.out.below hb2 (by omega))
  clear hb2 X1 Y1 Z1 G1
  clear x0 x1 m0 m1 m2 m3
  obtain ⟨x0, x1⟩ := X2.out
  obtain ⟨m0, m1, m2, m3⟩ := Y2.out
  go_wp2_with fail
  refine (LS.out _ D2.out).mono ?_
  rintro e w3 ⟨rfl, hm3⟩
  have hb3 : Below w2.heap.size w2 w3 := by obtain ⟨m, rfl⟩ := hm3; exact Go.Joins.below_draws _ _ _
  clear hm3
  rw [hir]
  have z3 : w2.heap.size ≤ w3.heap.size := hb3.size
  have D3 := Lib.hid (D2.out.trans (hb3.mono (by omega)))
  have X3 := Lib.hid (X2.out.below hb3 (by omega))
  have Y3 := Lib.hid (Y2.out.below hb3 (by omega))
  have Z3 := Lib.hid (Z2.out.below hb3 (by omega))
  have G3 := Lib.hid (G2.out.below hb3 (by omega))
  clear hb3 X2 Y2 Z2 G2
  clear x0 x1 m0 m1 m2 m3
  obtain ⟨s0, s1⟩ := Z3.out
  have f0 := G3.out
  unfold Free at f0
  go_wp2
  refine bodyPost_ret (v := .tuple #[.agg #[.int .i64 0, .slice none 0 0], .int .i64 1]) (by simp [results, Try.results10, s0, s1, go_sem]) rfl ?_
  exact ResP.err (b := w.heap.size + 1 + 1) (by omega) D3.out

set_option maxRecDepth 100000 in
set_option maxHeartbeats 16000000 in
theorem sapply_pos (K I J r : Int) (A Aw : Option Addr) (c nw cw : Nat) (rs : List Rw) (w : World) (h : RdS w w.heap.size A rs) (hn : rs.length ≤ 1048576) (hrow : ∀ q ∈ rs, q.zs.length ≤ 1048576) (hp : Wd.isP r (vals rs) = true) (hK : 1 ≤ K ∧ K ≤ 6) (hmi : missing r rs.length K I J = false) (h6 : K ≠ 6) (hPO : ∀ W, Below w.heap.size w W → Calls Try.prog 34 #[.agg #[.int .i64 r, .slice A rs.length c], .agg #[.int .i64 K, .int .i64 I, .int .i64 J, .slice Aw nw cw]] W fun e w' => e = .returned (.bool false) ∧ Below W.heap.size W w') :
    Calls Try.prog 10 #[.agg #[.int .i64 r, .slice A rs.length c], .agg #[.int .i64 K, .int .i64 I, .int .i64 J, .slice Aw nw cw]] w (ResP w 0 [] 5) := by
  have IP := Lib.hid (fun (W : World) (hb : Below w.heap.size w W) => isPres_spec r A c rs W (h.into hb) hn hrow)
  have P0 := Lib.hid (BoxG.new w 26 (.int .i64 r) (.slice A rs.length c))
  have M0 := Lib.hid (BoxT.new (w.alloc (Obj.cells #[.int .i64 r, .slice A rs.length c] 26)) 36 (.int .i64 K) (.int .i64 I) (.int .i64 J) (.slice Aw nw cw))
  have R0 := Lib.hid (BoxG.new ((w.alloc (Obj.cells #[.int .i64 r, .slice A rs.length c] 26)).alloc (Obj.cells #[.int .i64 K, .int .i64 I, .int .i64 J, .slice Aw nw cw] 36)) 26 (.int .i64 0) (.slice none 0 0))
  have F0 := Lib.hid (Free.new ((w.alloc (Obj.cells #[.int .i64 r, .slice A rs.length c] 26)).alloc (Obj.cells #[.int .i64 K, .int .i64 I, .int .i64 J, .slice Aw nw cw] 36)) 26 #[.int .i64 0, .slice none 0 0])
  have D3 := Lib.hid (al3 w (Obj.cells #[.int .i64 r, .slice A rs.length c] 26) (Obj.cells #[.int .i64 K, .int .i64 I, .int .i64 J, .slice Aw nw cw] 36) (Obj.cells #[.int .i64 0, .slice none 0 0] 26))
  obtain ⟨V, hV⟩ : ∃ V, V = (((w.alloc (Obj.cells #[.int .i64 r, .slice A rs.length c] 26)).alloc (Obj.cells #[.int .i64 K, .int .i64 I, .int .i64 J, .slice Aw nw cw] 36)).alloc (Obj.cells #[.int .i64 0, .slice none 0 0] 26)) := ⟨_, rfl⟩
  have sV : w.heap.size + 1 + 1 < V.heap.size := by rw [hV]; simp
  have X0 := Lib.hid (show BoxG V w.heap.size (.int .i64 r) (.slice A rs.length c) from by rw [hV]; exact (P0.out.below (al1 _ _) (by simp)).below (al1 _ _) (by simp; omega))
  have Y0 := Lib.hid (show BoxT V (w.heap.size + 1) (.int .i64 K) (.int .i64 I) (.int .i64 J) (.slice Aw nw cw) from by rw [hV]; simpa using M0.out.below (al1 _ _) (by simp))
  have Z0 := Lib.hid (show BoxG V (w.heap.size + 1 + 1) (.int .i64 0) (.slice none 0 0) from by rw [hV]; simpa using R0.out)
  have G0 := Lib.hid (show Free V (w.heap.size + 1 + 1) from by rw [hV]; simpa using F0.out)
  have DV := Lib.hid (show Below w.heap.size w V from by rw [hV]; exact D3.out)
  have NN := Lib.hid hn
  clear h hrow P0 M0 R0 F0 D3 hn
  have PO := Lib.hid hPO
  clear hPO
  have t6 : ((K == 6) : Bool) = false := by simpa using h6
  clear h6
  go_enter Try.func10, Try.ntmps10
  go_upto_region 1 with fail
  rw [← hV]
  clear hV
  obtain ⟨x0, x1⟩ := X0.out
  go_wp2_with fail
  rw [hp] at IP
  refine (IP.out _ DV.out).mono ?_
  rintro e w1 ⟨rfl, hb1⟩
  have z1 : V.heap.size ≤ w1.heap.size := hb1.size
  have D1 := Lib.hid (DV.out.trans (hb1.mono (by omega)))
  have X1 := Lib.hid (X0.out.below hb1 (by omega))
  have Y1 := Lib.hid (Y0.out.below hb1 (by omega))
  have Z1 := Lib.hid (Z0.out.below hb1 (by omega))
  have G1 := Lib.hid (G0.out.below hb1 (by omega))
  clear hb1 x0 x1 X0 Y0 Z0 G0
  have DK := Lib.hid hK
  clear hK
  obtain ⟨x0, x1⟩ := X1.out
  obtain ⟨m0, m1, m2, m3⟩ := Y1.out
  go_wp2_with fail
  (with_reducible refine (in_yes K 1 6 _ DK.out.1 DK.out.2).mono ?_)
  rintro e w9 ⟨rfl, rfl⟩
  go_wp2_with fail
  refine (missing_spec r K I J A Aw rs.length c nw cw _ NN.out).mono ?_
  rintro e w2 ⟨rfl, hb2⟩
  rw [hmi]
  have z2 : w1.heap.size ≤ w2.heap.size := hb2.size
  have D2 := Lib.hid (D1.out.trans (hb2.mono (by omega)))
  have X2 := Lib.hid (X1.out.below hb2 (by omega))
  have Y2 := Lib.hid (Y1.out.below hb2 (by omega))
  have Z2 := Lib.hid (Z1.out.below hb2 (by omega))
  have G2 := Lib.hid (G1.out.below hb2 (by omega))
  clear hb2 X1 Y1 Z1 G1
  clear x0 x1 m0 m1 m2 m3
  obtain ⟨x0, x1⟩ := X2.out
  obtain ⟨m0, m1, m2, m3⟩ := Y2.out
  go_wp2_with fail
  refine (PO.out _ D2.out).mono ?_
  rintro e w3 ⟨rfl, hb3⟩
  have z3 : w2.heap.size ≤ w3.heap.size := hb3.size
  have D3 := Lib.hid (D2.out.trans (hb3.mono (by omega)))
  have X3 := Lib.hid (X2.out.below hb3 (by omega))
  have Y3 := Lib.hid (Y2.out.below hb3 (by omega))
  have Z3 := Lib.hid (Z2.out.below hb3 (by omega))
  have G3 := Lib.hid (G2.out.below hb3 (by omega))
  clear hb3 X2 Y2 Z2 G2
  clear x0 x1 m0 m1 m2 m3
  obtain ⟨s0, s1⟩ := Z3.out
  have f0 := G3.out
  unfold Free at f0
  go_wp2
  refine bodyPost_ret (v := .tuple #[.agg #[.int .i64 0, .slice none 0 0], .int .i64 5]) (by simp [results, Try.results10, s0, s1, go_sem]) rfl ?_
  exact ResP.err (b := w.heap.size + 1 + 1) (by omega) D3.out

set_option maxRecDepth 100000 in
set_option maxHeartbeats 16000000 in
theorem sapply_limN (K I J r : Int) (A Aw : Option Addr) (c nw cw : Nat) (rs : List Rw) (w : World) (h : RdS w w.heap.size A rs) (hn : rs.length ≤ 1048576) (hrow : ∀ q ∈ rs, q.zs.length ≤ 1048576) (hp : Wd.isP r (vals rs) = true) (hK : 1 ≤ K ∧ K ≤ 6) (hmi : missing r rs.length K I J = false) (h6 : K ≠ 6) (hPO : ∀ W, Below w.heap.size w W → Calls Try.prog 34 #[.agg #[.int .i64 r, .slice A rs.length c], .agg #[.int .i64 K, .int .i64 I, .int .i64 J, .slice Aw nw cw]] W fun e w' => e = .returned (.bool true) ∧ Below W.heap.size W w') (r2 : Int) (zss2 : List (List Int)) (hl2 : zss2.length ≤ 1048576) (hz2 : ∀ z ∈ zss2, z.length ≤ 1048576) (hMV : ∀ W, Below w.heap.size w W → Calls Try.prog 35 #[.agg #[.int .i64 r, .slice A rs.length c], .agg #[.int .i64 K, .int .i64 I, .int .i64 J, .slice Aw nw cw]] W (ResPr W r2 zss2)) (hp2 : Wd.isP r2 zss2 = false) :
    Calls Try.prog 10 #[.agg #[.int .i64 r, .slice A rs.length c], .agg #[.int .i64 K, .int .i64 I, .int .i64 J, .slice Aw nw cw]] w (ResP w 0 [] 3) := by
  have IP := Lib.hid (fun (W : World) (hb : Below w.heap.size w W) => isPres_spec r A c rs W (h.into hb) hn hrow)
  have P0 := Lib.hid (BoxG.new w 26 (.int .i64 r) (.slice A rs.length c))
  have M0 := Lib.hid (BoxT.new (w.alloc (Obj.cells #[.int .i64 r, .slice A rs.length c] 26)) 36 (.int .i64 K) (.int .i64 I) (.int .i64 J) (.slice Aw nw cw))
  have R0 := Lib.hid (BoxG.new ((w.alloc (Obj.cells #[.int .i64 r, .slice A rs.length c] 26)).alloc (Obj.cells #[.int .i64 K, .int .i64 I, .int .i64 J, .slice Aw nw cw] 36)) 26 (.int .i64 0) (.slice none 0 0))
  have F0 := Lib.hid (Free.new ((w.alloc (Obj.cells #[.int .i64 r, .slice A rs.length c] 26)).alloc (Obj.cells #[.int .i64 K, .int .i64 I, .int .i64 J, .slice Aw nw cw] 36)) 26 #[.int .i64 0, .slice none 0 0])
  have D3 := Lib.hid (al3 w (Obj.cells #[.int .i64 r, .slice A rs.length c] 26) (Obj.cells #[.int .i64 K, .int .i64 I, .int .i64 J, .slice Aw nw cw] 36) (Obj.cells #[.int .i64 0, .slice none 0 0] 26))
  obtain ⟨V, hV⟩ : ∃ V, V = (((w.alloc (Obj.cells #[.int .i64 r, .slice A rs.length c] 26)).alloc (Obj.cells #[.int .i64 K, .int .i64 I, .int .i64 J, .slice Aw nw cw] 36)).alloc (Obj.cells #[.int .i64 0, .slice none 0 0] 26)) := ⟨_, rfl⟩
  have sV : w.heap.size + 1 + 1 < V.heap.size := by rw [hV]; simp
  have X0 := Lib.hid (show BoxG V w.heap.size (.int .i64 r) (.slice A rs.length c) from by rw [hV]; exact (P0.out.below (al1 _ _) (by simp)).below (al1 _ _) (by simp; omega))
  have Y0 := Lib.hid (show BoxT V (w.heap.size + 1) (.int .i64 K) (.int .i64 I) (.int .i64 J) (.slice Aw nw cw) from by rw [hV]; simpa using M0.out.below (al1 _ _) (by simp))
  have Z0 := Lib.hid (show BoxG V (w.heap.size + 1 + 1) (.int .i64 0) (.slice none 0 0) from by rw [hV]; simpa using R0.out)
  have G0 := Lib.hid (show Free V (w.heap.size + 1 + 1) from by rw [hV]; simpa using F0.out)
  have DV := Lib.hid (show Below w.heap.size w V from by rw [hV]; exact D3.out)
  have NN := Lib.hid hn
  clear h hrow P0 M0 R0 F0 D3 hn
  have PO := Lib.hid hPO
  clear hPO
  have MV := Lib.hid hMV
  have HL2 := Lib.hid hl2
  have HZ2 := Lib.hid hz2
  clear hMV hl2 hz2
  have t6 : ((K == 6) : Bool) = false := by simpa using h6
  clear h6
  go_enter Try.func10, Try.ntmps10
  go_upto_region 1 with fail
  rw [← hV]
  clear hV
  obtain ⟨x0, x1⟩ := X0.out
  go_wp2_with fail
  rw [hp] at IP
  refine (IP.out _ DV.out).mono ?_
  rintro e w1 ⟨rfl, hb1⟩
  have z1 : V.heap.size ≤ w1.heap.size := hb1.size
  have D1 := Lib.hid (DV.out.trans (hb1.mono (by omega)))
  have X1 := Lib.hid (X0.out.below hb1 (by omega))
  have Y1 := Lib.hid (Y0.out.below hb1 (by omega))
  have Z1 := Lib.hid (Z0.out.below hb1 (by omega))
  have G1 := Lib.hid (G0.out.below hb1 (by omega))
  clear hb1 x0 x1 X0 Y0 Z0 G0
  have DK := Lib.hid hK
  clear hK
  obtain ⟨x0, x1⟩ := X1.out
  obtain ⟨m0, m1, m2, m3⟩ := Y1.out
  go_wp2_with fail
  (with_reducible refine (in_yes K 1 6 _ DK.out.1 DK.out.2).mono ?_)
  rintro e w9 ⟨rfl, rfl⟩
  go_wp2_with fail
  refine (missing_spec r K I J A Aw rs.length c nw cw _ NN.out).mono ?_
  rintro e w2 ⟨rfl, hb2⟩
  rw [hmi]
  have z2 : w1.heap.size ≤ w2.heap.size := hb2.size
  have D2 := Lib.hid (D1.out.trans (hb2.mono (by omega)))
  have X2 := Lib.hid (X1.out.below hb2 (by omega))
  have Y2 := Lib.hid (Y1.out.below hb2 (by omega))
  have Z2 := Lib.hid (Z1.out.below hb2 (by omega))
  have G2 := Lib.hid (G1.out.below hb2 (by omega))
  clear hb2 X1 Y1 Z1 G1
  clear x0 x1 m0 m1 m2 m3
  obtain ⟨x0, x1⟩ := X2.out
  obtain ⟨m0, m1, m2, m3⟩ := Y2.out
  go_wp2_with fail
  refine (PO.out _ D2.out).mono ?_
  rintro e w3 ⟨rfl, hb3⟩
  have z3 : w2.heap.size ≤ w3.heap.size := hb3.size
  have D3 := Lib.hid (D2.out.trans (hb3.mono (by omega)))
  have X3 := Lib.hid (X2.out.below hb3 (by omega))
  have Y3 := Lib.hid (Y2.out.below hb3 (by omega))
  have Z3 := Lib.hid (Z2.out.below hb3 (by omega))
  have G3 := Lib.hid (G2.out.below hb3 (by omega))
  clear hb3 X2 Y2 Z2 G2
  clear x0 x1 m0 m1 m2 m3
  obtain ⟨x0, x1⟩ := X3.out
  obtain ⟨m0, m1, m2, m3⟩ := Y3.out
  go_wp2_with fail
  refine (MV.out _ D3.out).mono ?_
  rintro e w4 ⟨A5, c5, rs5, rfl, ho5, hv5, hb4⟩
  have O5 := Lib.hid ho5
  have V5 := Lib.hid hv5
  have L5 := Lib.hid (show rs5.length ≤ 1048576 from by rw [← vals_len, hv5]; exact HL2.out)
  have ROW5 := Lib.hid (show ∀ q ∈ rs5, q.zs.length ≤ 1048576 from fun q hq => HZ2.out _ (by rw [← hv5]; exact List.mem_map_of_mem hq))
  clear ho5 hv5
  have z4 : w3.heap.size ≤ w4.heap.size := hb4.size
  have D4 := Lib.hid (D3.out.trans (hb4.mono (by omega)))
  have X4 := Lib.hid (X3.out.below hb4 (by omega))
  have Y4 := Lib.hid (Y3.out.below hb4 (by omega))
  have Z4 := Lib.hid (Z3.out.below hb4 (by omega))
  have G4 := Lib.hid (G3.out.below hb4 (by omega))
  clear hb4 X3 Y3 Z3 G3
  clear x0 x1 m0 m1 m2 m3
  have IS := Lib.hid (fun (W : World) (hW : Below w4.heap.size w4 W) => isPres_spec r2 A5 c5 rs5 W ((O5.out.rd).into hW) L5.out ROW5.out)
  rw [V5.out, hp2] at IS
  have B5 := Lib.hid (BoxG.new w4 26 (.int .i64 r2) (.slice A5 rs5.length c5))
  go_wp2_with fail
  refine (IS.out _ (al1 _ _)).mono ?_
  rintro e w5 ⟨rfl, hb5'⟩
  have hb5 := on1 _ hb5'
  have zz : w4.heap.size < w5.heap.size := by have := hb5'.size; simp at this; omega
  have B6 := Lib.hid (B5.out.below hb5' (by simp))
  have O6 := Lib.hid (O5.out.below hb5 (Nat.le_refl _))
  clear hb5' B5
  have z5 : w4.heap.size ≤ w5.heap.size := hb5.size
  have D5 := Lib.hid (D4.out.trans (hb5.mono (by omega)))
  have X5 := Lib.hid (X4.out.below hb5 (by omega))
  have Y5 := Lib.hid (Y4.out.below hb5 (by omega))
  have Z5 := Lib.hid (Z4.out.below hb5 (by omega))
  have G5 := Lib.hid (G4.out.below hb5 (by omega))
  clear hb5 X4 Y4 Z4 G4
  obtain ⟨s0, s1⟩ := Z5.out
  have f0 := G5.out
  unfold Free at f0
  go_wp2
  refine bodyPost_ret (v := .tuple #[.agg #[.int .i64 0, .slice none 0 0], .int .i64 3]) (by simp [results, Try.results10, s0, s1, go_sem]) rfl ?_
  exact ResP.err (b := w.heap.size + 1 + 1) (by omega) D5.out

set_option maxRecDepth 100000 in
set_option maxHeartbeats 16000000 in
theorem sapply_limA (K I J r : Int) (A Aw : Option Addr) (c nw cw : Nat) (rs : List Rw) (w : World) (h : RdS w w.heap.size A rs) (hn : rs.length ≤ 1048576) (hrow : ∀ q ∈ rs, q.zs.length ≤ 1048576) (hp : Wd.isP r (vals rs) = true) (hK : 1 ≤ K ∧ K ≤ 6) (ws : List Int) (hw : Ints w w.heap.size Aw nw ws) (hwn : nw ≤ 1048576) (hmi : missing r rs.length K I J = false) (h6 : K = 6) (hir : Wd.isR r ws = true) (hPO : ∀ W, Below w.heap.size w W → Calls Try.prog 34 #[.agg #[.int .i64 r, .slice A rs.length c], .agg #[.int .i64 K, .int .i64 I, .int .i64 J, .slice Aw nw cw]] W fun e w' => e = .returned (.bool true) ∧ Below W.heap.size W w') (r2 : Int) (zss2 : List (List Int)) (hl2 : zss2.length ≤ 1048576) (hz2 : ∀ z ∈ zss2, z.length ≤ 1048576) (hMV : ∀ W, Below w.heap.size w W → Calls Try.prog 35 #[.agg #[.int .i64 r, .slice A rs.length c], .agg #[.int .i64 K, .int .i64 I, .int .i64 J, .slice Aw nw cw]] W (ResPr W r2 zss2)) (hp2 : Wd.isP r2 zss2 = false) :
    Calls Try.prog 10 #[.agg #[.int .i64 r, .slice A rs.length c], .agg #[.int .i64 K, .int .i64 I, .int .i64 J, .slice Aw nw cw]] w (ResP w 0 [] 3) := by
  have IP := Lib.hid (fun (W : World) (hb : Below w.heap.size w W) => isPres_spec r A c rs W (h.into hb) hn hrow)
  have P0 := Lib.hid (BoxG.new w 26 (.int .i64 r) (.slice A rs.length c))
  have M0 := Lib.hid (BoxT.new (w.alloc (Obj.cells #[.int .i64 r, .slice A rs.length c] 26)) 36 (.int .i64 K) (.int .i64 I) (.int .i64 J) (.slice Aw nw cw))
  have R0 := Lib.hid (BoxG.new ((w.alloc (Obj.cells #[.int .i64 r, .slice A rs.length c] 26)).alloc (Obj.cells #[.int .i64 K, .int .i64 I, .int .i64 J, .slice Aw nw cw] 36)) 26 (.int .i64 0) (.slice none 0 0))
  have F0 := Lib.hid (Free.new ((w.alloc (Obj.cells #[.int .i64 r, .slice A rs.length c] 26)).alloc (Obj.cells #[.int .i64 K, .int .i64 I, .int .i64 J, .slice Aw nw cw] 36)) 26 #[.int .i64 0, .slice none 0 0])
  have D3 := Lib.hid (al3 w (Obj.cells #[.int .i64 r, .slice A rs.length c] 26) (Obj.cells #[.int .i64 K, .int .i64 I, .int .i64 J, .slice Aw nw cw] 36) (Obj.cells #[.int .i64 0, .slice none 0 0] 26))
  obtain ⟨V, hV⟩ : ∃ V, V = (((w.alloc (Obj.cells #[.int .i64 r, .slice A rs.length c] 26)).alloc (Obj.cells #[.int .i64 K, .int .i64 I, .int .i64 J, .slice Aw nw cw] 36)).alloc (Obj.cells #[.int .i64 0, .slice none 0 0] 26)) := ⟨_, rfl⟩
  have sV : w.heap.size + 1 + 1 < V.heap.size := by rw [hV]; simp
  have X0 := Lib.hid (show BoxG V w.heap.size (.int .i64 r) (.slice A rs.length c) from by rw [hV]; exact (P0.out.below (al1 _ _) (by simp)).below (al1 _ _) (by simp; omega))
  have Y0 := Lib.hid (show BoxT V (w.heap.size + 1) (.int .i64 K) (.int .i64 I) (.int .i64 J) (.slice Aw nw cw) from by rw [hV]; simpa using M0.out.below (al1 _ _) (by simp))
  have Z0 := Lib.hid (show BoxG V (w.heap.size + 1 + 1) (.int .i64 0) (.slice none 0 0) from by rw [hV]; simpa using R0.out)
  have G0 := Lib.hid (show Free V (w.heap.size + 1 + 1) from by rw [hV]; simpa using F0.out)
  have DV := Lib.hid (show Below w.heap.size w V from by rw [hV]; exact D3.out)
  have NN := Lib.hid hn
  clear h hrow P0 M0 R0 F0 D3 hn
  have PO := Lib.hid hPO
  clear hPO
  have MV := Lib.hid hMV
  have HL2 := Lib.hid hl2
  have HZ2 := Lib.hid hz2
  clear hMV hl2 hz2
  have t6 : ((K == 6) : Bool) = true := by simpa using h6
  clear h6
  have LS := Lib.hid (fun (W : World) (hb : Below w.heap.size w W) => letters_spec Aw nw cw ws r w.heap.size W (hw.below hb) hwn (Wd.isP_iff.1 hp).1 (by have := (Wd.isP_iff.1 hp).2.1; omega))
  clear hw hwn
  go_enter Try.func10, Try.ntmps10
  go_upto_region 1 with fail
  rw [← hV]
  clear hV
  obtain ⟨x0, x1⟩ := X0.out
  go_wp2_with fail
  rw [hp] at IP
  refine (IP.out _ DV.out).mono ?_
  rintro e w1 ⟨rfl, hb1⟩
  have z1 : V.heap.size ≤ w1.heap.size := hb1.size
  have D1 := Lib.hid (DV.out.trans (hb1.mono (by omega)))
  have X1 := Lib.hid (X0.out.below hb1 (by omega))
  have Y1 := Lib.hid (Y0.out.below hb1 (by omega))
  have Z1 := Lib.hid (Z0.out.below hb1 (by omega))
  have G1 := Lib.hid (G0.out.below hb1 (by omega))
  clear hb1 x0 x1 X0 Y0 Z0 G0
  have DK := Lib.hid hK
  clear hK
  obtain ⟨x0, x1⟩ := X1.out
  obtain ⟨m0, m1, m2, m3⟩ := Y1.out
  go_wp2_with fail
  (with_reducible refine (in_yes K 1 6 _ DK.out.1 DK.out.2).mono ?_)
  rintro e w9 ⟨rfl, rfl⟩
  go_wp2_with fail
  refine (missing_spec r K I J A Aw rs.length c nw cw _ NN.out).mono ?_
  rintro e w2 ⟨rfl, hb2⟩
  rw [hmi]
  have z2 : w1.heap.size ≤ w2.heap.size := hb2.size
  have D2 := Lib.hid (D1.out.trans (hb2.mono (by omega)))
  have X2 := Lib.hid (X1.out.below hb2 (by omega))
  have Y2 := Lib.hid (Y1.out.below hb2 (by omega))
  have Z2 := Lib.hid (Z1.out.below hb2 (by omega))
  have G2 := Lib.hid (G1.out.below hb2 (by omega))
  clear hb2 X1 Y1 Z1 G1
  clear x0 x1 m0 m1 m2 m3
  obtain ⟨x0, x1⟩ := X2.out
  obtain ⟨m0, m1, m2, m3⟩ := Y2.out
  go_wp2_with fail
  refine (LS.out _ D2.out).mono ?_
  rintro e w3 ⟨rfl, hm3⟩
  have hb3 : Below w2.heap.size w2 w3 := by obtain ⟨m, rfl⟩ := hm3; exact Go.Joins.below_draws _ _ _
  clear hm3
  rw [hir]
  have z3 : w2.heap.size ≤ w3.heap.size := hb3.size
  have D3 := Lib.hid (D2.out.trans (hb3.mono (by omega)))
  have X3 := Lib.hid (X2.out.below hb3 (by omega))
  have Y3 := Lib.hid (Y2.out.below hb3 (by omega))
  have Z3 := Lib.hid (Z2.out.below hb3 (by omega))
  have G3 := Lib.hid (G2.out.below hb3 (by omega))
  clear hb3 X2 Y2 Z2 G2
  clear x0 x1 m0 m1 m2 m3
  obtain ⟨x0, x1⟩ := X3.out
  obtain ⟨m0, m1, m2, m3⟩ := Y3.out
  go_wp2_with fail
  refine (PO.out _ D3.out).mono ?_
  rintro e w4 ⟨rfl, hb4⟩
  have z4 : w3.heap.size ≤ w4.heap.size := hb4.size
  have D4 := Lib.hid (D3.out.trans (hb4.mono (by omega)))
  have X4 := Lib.hid (X3.out.below hb4 (by omega))
  have Y4 := Lib.hid (Y3.out.below hb4 (by omega))
  have Z4 := Lib.hid (Z3.out.below hb4 (by omega))
  have G4 := Lib.hid (G3.out.below hb4 (by omega))
  clear hb4 X3 Y3 Z3 G3
  clear x0 x1 m0 m1 m2 m3
  obtain ⟨x0, x1⟩ := X4.out
  obtain ⟨m0, m1, m2, m3⟩ := Y4.out
  go_wp2_with fail
  refine (MV.out _ D4.out).mono ?_
  rintro e w5 ⟨A5, c5, rs5, rfl, ho5, hv5, hb5⟩
  have O5 := Lib.hid ho5
  have V5 := Lib.hid hv5
  have L5 := Lib.hid (show rs5.length ≤ 1048576 from by rw [← vals_len, hv5]; exact HL2.out)
  have ROW5 := Lib.hid (show ∀ q ∈ rs5, q.zs.length ≤ 1048576 from fun q hq => HZ2.out _ (by rw [← hv5]; exact List.mem_map_of_mem hq))
  clear ho5 hv5
  have z5 : w4.heap.size ≤ w5.heap.size := hb5.size
  have D5 := Lib.hid (D4.out.trans (hb5.mono (by omega)))
  have X5 := Lib.hid (X4.out.below hb5 (by omega))
  have Y5 := Lib.hid (Y4.out.below hb5 (by omega))
  have Z5 := Lib.hid (Z4.out.below hb5 (by omega))
  have G5 := Lib.hid (G4.out.below hb5 (by omega))
  clear hb5 X4 Y4 Z4 G4
  clear x0 x1 m0 m1 m2 m3
  have IS := Lib.hid (fun (W : World) (hW : Below w5.heap.size w5 W) => isPres_spec r2 A5 c5 rs5 W ((O5.out.rd).into hW) L5.out ROW5.out)
  rw [V5.out, hp2] at IS
  have B5 := Lib.hid (BoxG.new w5 26 (.int .i64 r2) (.slice A5 rs5.length c5))
  go_wp2_with fail
  refine (IS.out _ (al1 _ _)).mono ?_
  rintro e w6 ⟨rfl, hb6'⟩
  have hb6 := on1 _ hb6'
  have zz : w5.heap.size < w6.heap.size := by have := hb6'.size; simp at this; omega
  have B6 := Lib.hid (B5.out.below hb6' (by simp))
  have O6 := Lib.hid (O5.out.below hb6 (Nat.le_refl _))
  clear hb6' B5
  have z6 : w5.heap.size ≤ w6.heap.size := hb6.size
  have D6 := Lib.hid (D5.out.trans (hb6.mono (by omega)))
  have X6 := Lib.hid (X5.out.below hb6 (by omega))
  have Y6 := Lib.hid (Y5.out.below hb6 (by omega))
  have Z6 := Lib.hid (Z5.out.below hb6 (by omega))
  have G6 := Lib.hid (G5.out.below hb6 (by omega))
  clear hb6 X5 Y5 Z5 G5
  obtain ⟨s0, s1⟩ := Z6.out
  have f0 := G6.out
  unfold Free at f0
  go_wp2
  refine bodyPost_ret (v := .tuple #[.agg #[.int .i64 0, .slice none 0 0], .int .i64 3]) (by simp [results, Try.results10, s0, s1, go_sem]) rfl ?_
  exact ResP.err (b := w.heap.size + 1 + 1) (by omega) D6.out

set_option maxRecDepth 100000 in
set_option maxHeartbeats 16000000 in
theorem sapply_okN (K I J r : Int) (A Aw : Option Addr) (c nw cw : Nat) (rs : List Rw) (w : World) (h : RdS w w.heap.size A rs) (hn : rs.length ≤ 1048576) (hrow : ∀ q ∈ rs, q.zs.length ≤ 1048576) (hp : Wd.isP r (vals rs) = true) (hK : 1 ≤ K ∧ K ≤ 6) (hmi : missing r rs.length K I J = false) (h6 : K ≠ 6) (hPO : ∀ W, Below w.heap.size w W → Calls Try.prog 34 #[.agg #[.int .i64 r, .slice A rs.length c], .agg #[.int .i64 K, .int .i64 I, .int .i64 J, .slice Aw nw cw]] W fun e w' => e = .returned (.bool true) ∧ Below W.heap.size W w') (r2 : Int) (zss2 : List (List Int)) (hl2 : zss2.length ≤ 1048576) (hz2 : ∀ z ∈ zss2, z.length ≤ 1048576) (hMV : ∀ W, Below w.heap.size w W → Calls Try.prog 35 #[.agg #[.int .i64 r, .slice A rs.length c], .agg #[.int .i64 K, .int .i64 I, .int .i64 J, .slice Aw nw cw]] W (ResPr W r2 zss2)) (hp2 : Wd.isP r2 zss2 = true) :
    Calls Try.prog 10 #[.agg #[.int .i64 r, .slice A rs.length c], .agg #[.int .i64 K, .int .i64 I, .int .i64 J, .slice Aw nw cw]] w (ResP w r2 zss2 0) := by
  have IP := Lib.hid (fun (W : World) (hb : Below w.heap.size w W) => isPres_spec r A c rs W (h.into hb) hn hrow)
  have P0 := Lib.hid (BoxG.new w 26 (.int .i64 r) (.slice A rs.length c))
  have M0 := Lib.hid (BoxT.new (w.alloc (Obj.cells #[.int .i64 r, .slice A rs.length c] 26)) 36 (.int .i64 K) (.int .i64 I) (.int .i64 J) (.slice Aw nw cw))
  have R0 := Lib.hid (BoxG.new ((w.alloc (Obj.cells #[.int .i64 r, .slice A rs.length c] 26)).alloc (Obj.cells #[.int .i64 K, .int .i64 I, .int .i64 J, .slice Aw nw cw] 36)) 26 (.int .i64 0) (.slice none 0 0))
  have F0 := Lib.hid (Free.new ((w.alloc (Obj.cells #[.int .i64 r, .slice A rs.length c] 26)).alloc (Obj.cells #[.int .i64 K, .int .i64 I, .int .i64 J, .slice Aw nw cw] 36)) 26 #[.int .i64 0, .slice none 0 0])
  have D3 := Lib.hid (al3 w (Obj.cells #[.int .i64 r, .slice A rs.length c] 26) (Obj.cells #[.int .i64 K, .int .i64 I, .int .i64 J, .slice Aw nw cw] 36) (Obj.cells #[.int .i64 0, .slice none 0 0] 26))
  obtain ⟨V, hV⟩ : ∃ V, V = (((w.alloc (Obj.cells #[.int .i64 r, .slice A rs.length c] 26)).alloc (Obj.cells #[.int .i64 K, .int .i64 I, .int .i64 J, .slice Aw nw cw] 36)).alloc (Obj.cells #[.int .i64 0, .slice none 0 0] 26)) := ⟨_, rfl⟩
  have sV : w.heap.size + 1 + 1 < V.heap.size := by rw [hV]; simp
  have X0 := Lib.hid (show BoxG V w.heap.size (.int .i64 r) (.slice A rs.length c) from by rw [hV]; exact (P0.out.below (al1 _ _) (by simp)).below (al1 _ _) (by simp; omega))
  have Y0 := Lib.hid (show BoxT V (w.heap.size + 1) (.int .i64 K) (.int .i64 I) (.int .i64 J) (.slice Aw nw cw) from by rw [hV]; simpa using M0.out.below (al1 _ _) (by simp))
  have Z0 := Lib.hid (show BoxG V (w.heap.size + 1 + 1) (.int .i64 0) (.slice none 0 0) from by rw [hV]; simpa using R0.out)
  have G0 := Lib.hid (show Free V (w.heap.size + 1 + 1) from by rw [hV]; simpa using F0.out)
  have DV := Lib.hid (show Below w.heap.size w V from by rw [hV]; exact D3.out)
  have NN := Lib.hid hn
  clear h hrow P0 M0 R0 F0 D3 hn
  have PO := Lib.hid hPO
  clear hPO
  have MV := Lib.hid hMV
  have HL2 := Lib.hid hl2
  have HZ2 := Lib.hid hz2
  clear hMV hl2 hz2
  have t6 : ((K == 6) : Bool) = false := by simpa using h6
  clear h6
  go_enter Try.func10, Try.ntmps10
  go_upto_region 1 with fail
  rw [← hV]
  clear hV
  obtain ⟨x0, x1⟩ := X0.out
  go_wp2_with fail
  rw [hp] at IP
  refine (IP.out _ DV.out).mono ?_
  rintro e w1 ⟨rfl, hb1⟩
  have z1 : V.heap.size ≤ w1.heap.size := hb1.size
  have D1 := Lib.hid (DV.out.trans (hb1.mono (by omega)))
  have X1 := Lib.hid (X0.out.below hb1 (by omega))
  have Y1 := Lib.hid (Y0.out.below hb1 (by omega))
  have Z1 := Lib.hid (Z0.out.below hb1 (by omega))
  have G1 := Lib.hid (G0.out.below hb1 (by omega))
  clear hb1 x0 x1 X0 Y0 Z0 G0
  have DK := Lib.hid hK
  clear hK
  obtain ⟨x0, x1⟩ := X1.out
  obtain ⟨m0, m1, m2, m3⟩ := Y1.out
  go_wp2_with fail
  (with_reducible refine (in_yes K 1 6 _ DK.out.1 DK.out.2).mono ?_)
  rintro e w9 ⟨rfl, rfl⟩
  go_wp2_with fail
  refine (missing_spec r K I J A Aw rs.length c nw cw _ NN.out).mono ?_
  rintro e w2 ⟨rfl, hb2⟩
  rw [hmi]
  have z2 : w1.heap.size ≤ w2.heap.size := hb2.size
  have D2 := Lib.hid (D1.out.trans (hb2.mono (by omega)))
  have X2 := Lib.hid (X1.out.below hb2 (by omega))
  have Y2 := Lib.hid (Y1.out.below hb2 (by omega))
  have Z2 := Lib.hid (Z1.out.below hb2 (by omega))
  have G2 := Lib.hid (G1.out.below hb2 (by omega))
  clear hb2 X1 Y1 Z1 G1
  clear x0 x1 m0 m1 m2 m3
  obtain ⟨x0, x1⟩ := X2.out
  obtain ⟨m0, m1, m2, m3⟩ := Y2.out
  go_wp2_with fail
  refine (PO.out _ D2.out).mono ?_
  rintro e w3 ⟨rfl, hb3⟩
  have z3 : w2.heap.size ≤ w3.heap.size := hb3.size
  have D3 := Lib.hid (D2.out.trans (hb3.mono (by omega)))
  have X3 := Lib.hid (X2.out.below hb3 (by omega))
  have Y3 := Lib.hid (Y2.out.below hb3 (by omega))
  have Z3 := Lib.hid (Z2.out.below hb3 (by omega))
  have G3 := Lib.hid (G2.out.below hb3 (by omega))
  clear hb3 X2 Y2 Z2 G2
  clear x0 x1 m0 m1 m2 m3
  obtain ⟨x0, x1⟩ := X3.out
  obtain ⟨m0, m1, m2, m3⟩ := Y3.out
  go_wp2_with fail
  refine (MV.out _ D3.out).mono ?_
  rintro e w4 ⟨A5, c5, rs5, rfl, ho5, hv5, hb4⟩
  have O5 := Lib.hid ho5
  have V5 := Lib.hid hv5
  have L5 := Lib.hid (show rs5.length ≤ 1048576 from by rw [← vals_len, hv5]; exact HL2.out)
  have ROW5 := Lib.hid (show ∀ q ∈ rs5, q.zs.length ≤ 1048576 from fun q hq => HZ2.out _ (by rw [← hv5]; exact List.mem_map_of_mem hq))
  clear ho5 hv5
  have z4 : w3.heap.size ≤ w4.heap.size := hb4.size
  have D4 := Lib.hid (D3.out.trans (hb4.mono (by omega)))
  have X4 := Lib.hid (X3.out.below hb4 (by omega))
  have Y4 := Lib.hid (Y3.out.below hb4 (by omega))
  have Z4 := Lib.hid (Z3.out.below hb4 (by omega))
  have G4 := Lib.hid (G3.out.below hb4 (by omega))
  clear hb4 X3 Y3 Z3 G3
  clear x0 x1 m0 m1 m2 m3
  have IS := Lib.hid (fun (W : World) (hW : Below w4.heap.size w4 W) => isPres_spec r2 A5 c5 rs5 W ((O5.out.rd).into hW) L5.out ROW5.out)
  rw [V5.out, hp2] at IS
  have B5 := Lib.hid (BoxG.new w4 26 (.int .i64 r2) (.slice A5 rs5.length c5))
  go_wp2_with fail
  refine (IS.out _ (al1 _ _)).mono ?_
  rintro e w5 ⟨rfl, hb5'⟩
  have hb5 := on1 _ hb5'
  have zz : w4.heap.size < w5.heap.size := by have := hb5'.size; simp at this; omega
  have B6 := Lib.hid (B5.out.below hb5' (by simp))
  have O6 := Lib.hid (O5.out.below hb5 (Nat.le_refl _))
  clear hb5' B5
  have z5 : w4.heap.size ≤ w5.heap.size := hb5.size
  have D5 := Lib.hid (D4.out.trans (hb5.mono (by omega)))
  have X5 := Lib.hid (X4.out.below hb5 (by omega))
  have Y5 := Lib.hid (Y4.out.below hb5 (by omega))
  have Z5 := Lib.hid (Z4.out.below hb5 (by omega))
  have G5 := Lib.hid (G4.out.below hb5 (by omega))
  clear hb5 X4 Y4 Z4 G4
  obtain ⟨s0, s1⟩ := Z5.out
  have f0 := G5.out
  obtain ⟨y0, y1⟩ := B6.out
  unfold Free at f0
  go_wp2
  refine bodyPost_ret (v := .tuple #[.agg #[.int .i64 r2, .slice A5 rs5.length c5], .int .i64 0]) (by simp [results, Try.results10, s0, s1, go_sem]) rfl ?_
  exact ResP.ret (W := w3) (O6.out.wide (Nat.le_refl _) (by omega)) V5.out D5.out (by omega) (by omega)

set_option maxRecDepth 100000 in
set_option maxHeartbeats 16000000 in
theorem sapply_okA (K I J r : Int) (A Aw : Option Addr) (c nw cw : Nat) (rs : List Rw) (w : World) (h : RdS w w.heap.size A rs) (hn : rs.length ≤ 1048576) (hrow : ∀ q ∈ rs, q.zs.length ≤ 1048576) (hp : Wd.isP r (vals rs) = true) (hK : 1 ≤ K ∧ K ≤ 6) (ws : List Int) (hw : Ints w w.heap.size Aw nw ws) (hwn : nw ≤ 1048576) (hmi : missing r rs.length K I J = false) (h6 : K = 6) (hir : Wd.isR r ws = true) (hPO : ∀ W, Below w.heap.size w W → Calls Try.prog 34 #[.agg #[.int .i64 r, .slice A rs.length c], .agg #[.int .i64 K, .int .i64 I, .int .i64 J, .slice Aw nw cw]] W fun e w' => e = .returned (.bool true) ∧ Below W.heap.size W w') (r2 : Int) (zss2 : List (List Int)) (hl2 : zss2.length ≤ 1048576) (hz2 : ∀ z ∈ zss2, z.length ≤ 1048576) (hMV : ∀ W, Below w.heap.size w W → Calls Try.prog 35 #[.agg #[.int .i64 r, .slice A rs.length c], .agg #[.int .i64 K, .int .i64 I, .int .i64 J, .slice Aw nw cw]] W (ResPr W r2 zss2)) (hp2 : Wd.isP r2 zss2 = true) :
    Calls Try.prog 10 #[.agg #[.int .i64 r, .slice A rs.length c], .agg #[.int .i64 K, .int .i64 I, .int .i64 J, .slice Aw nw cw]] w (ResP w r2 zss2 0) := by
  have IP := Lib.hid (fun (W : World) (hb : Below w.heap.size w W) => isPres_spec r A c rs W (h.into hb) hn hrow)
  have P0 := Lib.hid (BoxG.new w 26 (.int .i64 r) (.slice A rs.length c))
  have M0 := Lib.hid (BoxT.new (w.alloc (Obj.cells #[.int .i64 r, .slice A rs.length c] 26)) 36 (.int .i64 K) (.int .i64 I) (.int .i64 J) (.slice Aw nw cw))
  have R0 := Lib.hid (BoxG.new ((w.alloc (Obj.cells #[.int .i64 r, .slice A rs.length c] 26)).alloc (Obj.cells #[.int .i64 K, .int .i64 I, .int .i64 J, .slice Aw nw cw] 36)) 26 (.int .i64 0) (.slice none 0 0))
  have F0 := Lib.hid (Free.new ((w.alloc (Obj.cells #[.int .i64 r, .slice A rs.length c] 26)).alloc (Obj.cells #[.int .i64 K, .int .i64 I, .int .i64 J, .slice Aw nw cw] 36)) 26 #[.int .i64 0, .slice none 0 0])
  have D3 := Lib.hid (al3 w (Obj.cells #[.int .i64 r, .slice A rs.length c] 26) (Obj.cells #[.int .i64 K, .int .i64 I, .int .i64 J, .slice Aw nw cw] 36) (Obj.cells #[.int .i64 0, .slice none 0 0] 26))
  obtain ⟨V, hV⟩ : ∃ V, V = (((w.alloc (Obj.cells #[.int .i64 r, .slice A rs.length c] 26)).alloc (Obj.cells #[.int .i64 K, .int .i64 I, .int .i64 J, .slice Aw nw cw] 36)).alloc (Obj.cells #[.int .i64 0, .slice none 0 0] 26)) := ⟨_, rfl⟩
  have sV : w.heap.size + 1 + 1 < V.heap.size := by rw [hV]; simp
  have X0 := Lib.hid (show BoxG V w.heap.size (.int .i64 r) (.slice A rs.length c) from by rw [hV]; exact (P0.out.below (al1 _ _) (by simp)).below (al1 _ _) (by simp; omega))
  have Y0 := Lib.hid (show BoxT V (w.heap.size + 1) (.int .i64 K) (.int .i64 I) (.int .i64 J) (.slice Aw nw cw) from by rw [hV]; simpa using M0.out.below (al1 _ _) (by simp))
  have Z0 := Lib.hid (show BoxG V (w.heap.size + 1 + 1) (.int .i64 0) (.slice none 0 0) from by rw [hV]; simpa using R0.out)
  have G0 := Lib.hid (show Free V (w.heap.size + 1 + 1) from by rw [hV]; simpa using F0.out)
  have DV := Lib.hid (show Below w.heap.size w V from by rw [hV]; exact D3.out)
  have NN := Lib.hid hn
  clear h hrow P0 M0 R0 F0 D3 hn
  have PO := Lib.hid hPO
  clear hPO
  have MV := Lib.hid hMV
  have HL2 := Lib.hid hl2
  have HZ2 := Lib.hid hz2
  clear hMV hl2 hz2
  have t6 : ((K == 6) : Bool) = true := by simpa using h6
  clear h6
  have LS := Lib.hid (fun (W : World) (hb : Below w.heap.size w W) => letters_spec Aw nw cw ws r w.heap.size W (hw.below hb) hwn (Wd.isP_iff.1 hp).1 (by have := (Wd.isP_iff.1 hp).2.1; omega))
  clear hw hwn
  go_enter Try.func10, Try.ntmps10
  go_upto_region 1 with fail
  rw [← hV]
  clear hV
  obtain ⟨x0, x1⟩ := X0.out
  go_wp2_with fail
  rw [hp] at IP
  refine (IP.out _ DV.out).mono ?_
  rintro e w1 ⟨rfl, hb1⟩
  have z1 : V.heap.size ≤ w1.heap.size := hb1.size
  have D1 := Lib.hid (DV.out.trans (hb1.mono (by omega)))
  have X1 := Lib.hid (X0.out.below hb1 (by omega))
  have Y1 := Lib.hid (Y0.out.below hb1 (by omega))
  have Z1 := Lib.hid (Z0.out.below hb1 (by omega))
  have G1 := Lib.hid (G0.out.below hb1 (by omega))
  clear hb1 x0 x1 X0 Y0 Z0 G0
  have DK := Lib.hid hK
  clear hK
  obtain ⟨x0, x1⟩ := X1.out
  obtain ⟨m0, m1, m2, m3⟩ := Y1.out
  go_wp2_with fail
  (with_reducible refine (in_yes K 1 6 _ DK.out.1 DK.out.2).mono ?_)
  rintro e w9 ⟨rfl, rfl⟩
  go_wp2_with fail
  refine (missing_spec r K I J A Aw rs.length c nw cw _ NN.out).mono ?_
  rintro e w2 ⟨rfl, hb2⟩
  rw [hmi]
  have z2 : w1.heap.size ≤ w2.heap.size := hb2.size
  have D2 := Lib.hid (D1.out.trans (hb2.mono (by omega)))
  have X2 := Lib.hid (X1.out.below hb2 (by omega))
  have Y2 := Lib.hid (Y1.out.below hb2 (by omega))
  have Z2 := Lib.hid (Z1.out.below hb2 (by omega))
  have G2 := Lib.hid (G1.out.below hb2 (by omega))
  clear hb2 X1 Y1 Z1 G1
  clear x0 x1 m0 m1 m2 m3
  obtain ⟨x0, x1⟩ := X2.out
  obtain ⟨m0, m1, m2, m3⟩ := Y2.out
  go_wp2_with fail
  refine (LS.out _ D2.out).mono ?_
  rintro e w3 ⟨rfl, hm3⟩
  have hb3 : Below w2.heap.size w2 w3 := by obtain ⟨m, rfl⟩ := hm3; exact Go.Joins.below_draws _ _ _
  clear hm3
  rw [hir]
  have z3 : w2.heap.size ≤ w3.heap.size := hb3.size
  have D3 := Lib.hid (D2.out.trans (hb3.mono (by omega)))
  have X3 := Lib.hid (X2.out.below hb3 (by omega))
  have Y3 := Lib.hid (Y2.out.below hb3 (by omega))
  have Z3 := Lib.hid (Z2.out.below hb3 (by omega))
  have G3 := Lib.hid (G2.out.below hb3 (by omega))
  clear hb3 X2 Y2 Z2 G2
  clear x0 x1 m0 m1 m2 m3
  obtain ⟨x0, x1⟩ := X3.out
  obtain ⟨m0, m1, m2, m3⟩ := Y3.out
  go_wp2_with fail
  refine (PO.out _ D3.out).mono ?_
  rintro e w4 ⟨rfl, hb4⟩
  have z4 : w3.heap.size ≤ w4.heap.size := hb4.size
  have D4 := Lib.hid (D3.out.trans (hb4.mono (by omega)))
  have X4 := Lib.hid (X3.out.below hb4 (by omega))
  have Y4 := Lib.hid (Y3.out.below hb4 (by omega))
  have Z4 := Lib.hid (Z3.out.below hb4 (by omega))
  have G4 := Lib.hid (G3.out.below hb4 (by omega))
  clear hb4 X3 Y3 Z3 G3
  clear x0 x1 m0 m1 m2 m3
  obtain ⟨x0, x1⟩ := X4.out
  obtain ⟨m0, m1, m2, m3⟩ := Y4.out
  go_wp2_with fail
  refine (MV.out _ D4.out).mono ?_
  rintro e w5 ⟨A5, c5, rs5, rfl, ho5, hv5, hb5⟩
  have O5 := Lib.hid ho5
  have V5 := Lib.hid hv5
  have L5 := Lib.hid (show rs5.length ≤ 1048576 from by rw [← vals_len, hv5]; exact HL2.out)
  have ROW5 := Lib.hid (show ∀ q ∈ rs5, q.zs.length ≤ 1048576 from fun q hq => HZ2.out _ (by rw [← hv5]; exact List.mem_map_of_mem hq))
  clear ho5 hv5
  have z5 : w4.heap.size ≤ w5.heap.size := hb5.size
  have D5 := Lib.hid (D4.out.trans (hb5.mono (by omega)))
  have X5 := Lib.hid (X4.out.below hb5 (by omega))
  have Y5 := Lib.hid (Y4.out.below hb5 (by omega))
  have Z5 := Lib.hid (Z4.out.below hb5 (by omega))
  have G5 := Lib.hid (G4.out.below hb5 (by omega))
  clear hb5 X4 Y4 Z4 G4
  clear x0 x1 m0 m1 m2 m3
  have IS := Lib.hid (fun (W : World) (hW : Below w5.heap.size w5 W) => isPres_spec r2 A5 c5 rs5 W ((O5.out.rd).into hW) L5.out ROW5.out)
  rw [V5.out, hp2] at IS
  have B5 := Lib.hid (BoxG.new w5 26 (.int .i64 r2) (.slice A5 rs5.length c5))
  go_wp2_with fail
  refine (IS.out _ (al1 _ _)).mono ?_
  rintro e w6 ⟨rfl, hb6'⟩
  have hb6 := on1 _ hb6'
  have zz : w5.heap.size < w6.heap.size := by have := hb6'.size; simp at this; omega
  have B6 := Lib.hid (B5.out.below hb6' (by simp))
  have O6 := Lib.hid (O5.out.below hb6 (Nat.le_refl _))
  clear hb6' B5
  have z6 : w5.heap.size ≤ w6.heap.size := hb6.size
  have D6 := Lib.hid (D5.out.trans (hb6.mono (by omega)))
  have X6 := Lib.hid (X5.out.below hb6 (by omega))
  have Y6 := Lib.hid (Y5.out.below hb6 (by omega))
  have Z6 := Lib.hid (Z5.out.below hb6 (by omega))
  have G6 := Lib.hid (G5.out.below hb6 (by omega))
  clear hb6 X5 Y5 Z5 G5
  obtain ⟨s0, s1⟩ := Z6.out
  have f0 := G6.out
  obtain ⟨y0, y1⟩ := B6.out
  unfold Free at f0
  go_wp2
  refine bodyPost_ret (v := .tuple #[.agg #[.int .i64 r2, .slice A5 rs5.length c5], .int .i64 0]) (by simp [results, Try.results10, s0, s1, go_sem]) rfl ?_
  exact ResP.ret (W := w4) (O6.out.wide (Nat.le_refl _) (by omega)) V5.out D6.out (by omega) (by omega)

end Go.Proofs.Ytjommpdblbbkdaa
