/- The program's ApplyTietze, from what it calls. No condition but those that each theorem names. -/
import Derived.Test.YtjommpdblbbkdaaTzJ
namespace Go.Proofs.Ytjommpdblbbkdaa
open Go.RowKit

theorem ResP.ret {w W w3 : World} {b : Nat} {pr code : Int} {pz : List (List Int)} {A : Option Addr} {c : Nat} {rs : List Rw} {x y : Value} (hown : OwnS w3 W.heap.size w3.heap.size A c rs) (hv : vals rs = pz) (hb : Below w.heap.size w w3) (hw : w.heap.size ≤ b) (hbW : b < W.heap.size) :
    ResP w pr pz code (.returned (.tuple #[.agg #[.int .i64 pr, .slice A rs.length c], .int .i64 code])) ((w3.setCell ⟨b, 0, none⟩ x).setCell ⟨b, 1, none⟩ y) :=
  ⟨A, c, rs, rfl, ((hown.far (p := ⟨b, 0, none⟩) (.inl hbW) _).far (p := ⟨b, 1, none⟩) (.inl hbW) _).wide (by omega) (by simp [World.setCell]), hv, (hb.setCell hw _).setCell hw _⟩

set_option maxRecDepth 100000 in
set_option maxHeartbeats 16000000 in
theorem apply_bad (K I J r : Int) (A Aw : Option Addr) (c nw cw : Nat) (rs : List Rw) (w : World) (h : RdS w w.heap.size A rs) (hn : rs.length ≤ 1048576) (hrow : ∀ q ∈ rs, q.zs.length ≤ 1048576) (hp : Wd.isP r (vals rs) = false) :
    Calls Try.prog 16 #[.agg #[.int .i64 r, .slice A rs.length c], .agg #[.int .i64 K, .int .i64 I, .int .i64 J, .slice Aw nw cw]] w (ResP w 0 [] 1) := by
  have IP := Lib.hid (fun (W : World) (hb : Below w.heap.size w W) => isPres_impl r A c rs W (h.into hb) hn hrow)
  have P0 := Lib.hid (BoxG.new w 26 (.int .i64 r) (.slice A rs.length c))
  have M0 := Lib.hid (BoxT.new (w.alloc (Obj.cells #[.int .i64 r, .slice A rs.length c] 26)) 36 (.int .i64 K) (.int .i64 I) (.int .i64 J) (.slice Aw nw cw))
  have R0 := Lib.hid (BoxG.new ((w.alloc (Obj.cells #[.int .i64 r, .slice A rs.length c] 26)).alloc (Obj.cells #[.int .i64 K, .int .i64 I, .int .i64 J, .slice Aw nw cw] 36)) 26 (.int .i64 0) (.slice none 0 0))
  have F0 := Lib.hid (Free.new ((w.alloc (Obj.cells #[.int .i64 r, .slice A rs.length c] 26)).alloc (Obj.cells #[.int .i64 K, .int .i64 I, .int .i64 J, .slice Aw nw cw] 36)) 26 #[.int .i64 0, .slice none 0 0])
  have D3 := Lib.hid (al3 w (Obj.cells #[.int .i64 r, .slice A rs.length c] 26) (Obj.cells #[.int .i64 K, .int .i64 I, .int .i64 J, .slice Aw nw cw] 36) (Obj.cells #[.int .i64 0, .slice none 0 0] 26))
  obtain ⟨V, hV⟩ : ∃ V, V = (((w.alloc (Obj.cells #[.int .i64 r, .slice A rs.length c] 26)).alloc (Obj.cells #[.int .i64 K, .int .i64 I, .int .i64 J, .slice Aw nw cw] 36)).alloc (Obj.cells #[.int .i64 0, .slice none 0 0] 26)) := ⟨_, rfl⟩
  have sV : w.heap.size + 1 + 1 < V.heap.size := by rw [hV]; simp
  have X0 := Lib.hid (show BoxG V w.heap.size (.int .i64 r) (.slice A rs.length c) from by rw [hV]; exact (P0.out.below (al1 _ _) (by simp)).below (al1 _ _) (by simp; omega))
  have Y0 := Lib.hid (show BoxT V (w.heap.size + 1) (.int .i64 K) (.int .i64 I) (.int .i64 J) (.slice Aw nw cw) from by rw [hV]; simpa using M0.out.below (al1 _ _) (by simp))
  have Z0 := Lib.hid (show BoxG V (w.heap.size + 1 + 1) (.int .i64 0) (.slice none 0 0) from by rw [hV]; simpa using R0.out)
  have G0 := Lib.hid (show Free V (w.heap.size + 1 + 1) from by rw [hV]; simpa using F0.out)
  have DV := Lib.hid (show Below w.heap.size w V from by rw [hV]; exact D3.out)
  clear h hrow P0 M0 R0 F0 D3
  go_enter Try.func16, Try.ntmps16
  go_upto_region 1 with fail
  rw [← hV]
  clear hV
  obtain ⟨x0, x1⟩ := X0.out
  go_wp2_with fail
  rw [hp] at IP
  refine (IP.out _ DV.out).mono ?_
  rintro e w1 ⟨rfl, hb1⟩
  have z1 : V.heap.size ≤ w1.heap.size := hb1.size
  have D1 := Lib.hid (DV.out.trans (hb1.mono (by omega)))
  have X1 := Lib.hid (X0.out.below hb1 (by omega))
  have Y1 := Lib.hid (Y0.out.below hb1 (by omega))
  have Z1 := Lib.hid (Z0.out.below hb1 (by omega))
  have G1 := Lib.hid (G0.out.below hb1 (by omega))
  clear hb1 x0 x1 X0 Y0 Z0 G0
  obtain ⟨s0, s1⟩ := Z1.out
  have f0 := G1.out
  unfold Free at f0
  go_wp2
  refine bodyPost_ret (v := .tuple #[.agg #[.int .i64 0, .slice none 0 0], .int .i64 1]) (by simp [results, Try.results16, s0, s1, go_sem]) rfl ?_
  exact ResP.err (b := w.heap.size + 1 + 1) (by omega) D1.out

set_option maxRecDepth 100000 in
set_option maxHeartbeats 16000000 in
theorem apply_no (K I J r : Int) (A Aw : Option Addr) (c nw cw : Nat) (rs : List Rw) (w : World) (h : RdS w w.heap.size A rs) (hn : rs.length ≤ 1048576) (hrow : ∀ q ∈ rs, q.zs.length ≤ 1048576) (hp : Wd.isP r (vals rs) = true) (hK : ¬ (1 ≤ K ∧ K ≤ 6)) :
    Calls Try.prog 16 #[.agg #[.int .i64 r, .slice A rs.length c], .agg #[.int .i64 K, .int .i64 I, .int .i64 J, .slice Aw nw cw]] w (ResP w 0 [] 2) := by
  have IP := Lib.hid (fun (W : World) (hb : Below w.heap.size w W) => isPres_impl r A c rs W (h.into hb) hn hrow)
  have P0 := Lib.hid (BoxG.new w 26 (.int .i64 r) (.slice A rs.length c))
  have M0 := Lib.hid (BoxT.new (w.alloc (Obj.cells #[.int .i64 r, .slice A rs.length c] 26)) 36 (.int .i64 K) (.int .i64 I) (.int .i64 J) (.slice Aw nw cw))
  have R0 := Lib.hid (BoxG.new ((w.alloc (Obj.cells #[.int .i64 r, .slice A rs.length c] 26)).alloc (Obj.cells #[.int .i64 K, .int .i64 I, .int .i64 J, .slice Aw nw cw] 36)) 26 (.int .i64 0) (.slice none 0 0))
  have F0 := Lib.hid (Free.new ((w.alloc (Obj.cells #[.int .i64 r, .slice A rs.length c] 26)).alloc (Obj.cells #[.int .i64 K, .int .i64 I, .int .i64 J, .slice Aw nw cw] 36)) 26 #[.int .i64 0, .slice none 0 0])
  have D3 := Lib.hid (al3 w (Obj.cells #[.int .i64 r, .slice A rs.length c] 26) (Obj.cells #[.int .i64 K, .int .i64 I, .int .i64 J, .slice Aw nw cw] 36) (Obj.cells #[.int .i64 0, .slice none 0 0] 26))
  obtain ⟨V, hV⟩ : ∃ V, V = (((w.alloc (Obj.cells #[.int .i64 r, .slice A rs.length c] 26)).alloc (Obj.cells #[.int .i64 K, .int .i64 I, .int .i64 J, .slice Aw nw cw] 36)).alloc (Obj.cells #[.int .i64 0, .slice none 0 0] 26)) := ⟨_, rfl⟩
  have sV : w.heap.size + 1 + 1 < V.heap.size := by rw [hV]; simp
  have X0 := Lib.hid (show BoxG V w.heap.size (.int .i64 r) (.slice A rs.length c) from by rw [hV]; exact (P0.out.below (al1 _ _) (by simp)).below (al1 _ _) (by simp; omega))
  have Y0 := Lib.hid (show BoxT V (w.heap.size + 1) (.int .i64 K) (.int .i64 I) (.int .i64 J) (.slice Aw nw cw) from by rw [hV]; simpa using M0.out.below (al1 _ _) (by simp))
  have Z0 := Lib.hid (show BoxG V (w.heap.size + 1 + 1) (.int .i64 0) (.slice none 0 0) from by rw [hV]; simpa using R0.out)
  have G0 := Lib.hid (show Free V (w.heap.size + 1 + 1) from by rw [hV]; simpa using F0.out)
  have DV := Lib.hid (show Below w.heap.size w V from by rw [hV]; exact D3.out)
  clear h hrow P0 M0 R0 F0 D3
  go_enter Try.func16, Try.ntmps16
  go_upto_region 1 with fail
  rw [← hV]
  clear hV
  obtain ⟨x0, x1⟩ := X0.out
  go_wp2_with fail
  rw [hp] at IP
  refine (IP.out _ DV.out).mono ?_
  rintro e w1 ⟨rfl, hb1⟩
  have z1 : V.heap.size ≤ w1.heap.size := hb1.size
  have D1 := Lib.hid (DV.out.trans (hb1.mono (by omega)))
  have X1 := Lib.hid (X0.out.below hb1 (by omega))
  have Y1 := Lib.hid (Y0.out.below hb1 (by omega))
  have Z1 := Lib.hid (Z0.out.below hb1 (by omega))
  have G1 := Lib.hid (G0.out.below hb1 (by omega))
  clear hb1 x0 x1 X0 Y0 Z0 G0
  obtain ⟨m0, m1, m2, m3⟩ := Y1.out
  go_wp2_with fail
  refine (kind_no K I J Aw nw cw _ hK).mono ?_
  rintro e w2 ⟨rfl, hb2⟩
  have z2 : w1.heap.size ≤ w2.heap.size := hb2.size
  have D2 := Lib.hid (D1.out.trans (hb2.mono (by omega)))
  have X2 := Lib.hid (X1.out.below hb2 (by omega))
  have Z2 := Lib.hid (Z1.out.below hb2 (by omega))
  have G2 := Lib.hid (G1.out.below hb2 (by omega))
  clear hb2 m0 m1 m2 m3 X1 Y1 Z1 G1
  obtain ⟨s0, s1⟩ := Z2.out
  have f0 := G2.out
  unfold Free at f0
  go_wp2
  refine bodyPost_ret (v := .tuple #[.agg #[.int .i64 0, .slice none 0 0], .int .i64 2]) (by simp [results, Try.results16, s0, s1, go_sem]) rfl ?_
  exact ResP.err (b := w.heap.size + 1 + 1) (by omega) D2.out

set_option maxRecDepth 100000 in
set_option maxHeartbeats 16000000 in
theorem apply_inv (K I J r : Int) (A Aw : Option Addr) (c nw cw : Nat) (rs : List Rw) (w : World) (h : RdS w w.heap.size A rs) (hn : rs.length ≤ 1048576) (hrow : ∀ q ∈ rs, q.zs.length ≤ 1048576) (f : Int × List (List Int) × Int) (hp : Wd.isP r (vals rs) = true) (hK : K = 1)
    (hAF : ∀ W, Below w.heap.size w W → Calls Try.prog 41 #[.agg #[.int .i64 r, .slice A rs.length c], .iface 86 (.agg #[.int .i64 I])] W (ResP W f.1 f.2.1 f.2.2)) :
    Calls Try.prog 16 #[.agg #[.int .i64 r, .slice A rs.length c], .agg #[.int .i64 K, .int .i64 I, .int .i64 J, .slice Aw nw cw]] w (ResP w f.1 f.2.1 f.2.2) := by
  have IP := Lib.hid (fun (W : World) (hb : Below w.heap.size w W) => isPres_impl r A c rs W (h.into hb) hn hrow)
  have P0 := Lib.hid (BoxG.new w 26 (.int .i64 r) (.slice A rs.length c))
  have M0 := Lib.hid (BoxT.new (w.alloc (Obj.cells #[.int .i64 r, .slice A rs.length c] 26)) 36 (.int .i64 K) (.int .i64 I) (.int .i64 J) (.slice Aw nw cw))
  have R0 := Lib.hid (BoxG.new ((w.alloc (Obj.cells #[.int .i64 r, .slice A rs.length c] 26)).alloc (Obj.cells #[.int .i64 K, .int .i64 I, .int .i64 J, .slice Aw nw cw] 36)) 26 (.int .i64 0) (.slice none 0 0))
  have F0 := Lib.hid (Free.new ((w.alloc (Obj.cells #[.int .i64 r, .slice A rs.length c] 26)).alloc (Obj.cells #[.int .i64 K, .int .i64 I, .int .i64 J, .slice Aw nw cw] 36)) 26 #[.int .i64 0, .slice none 0 0])
  have D3 := Lib.hid (al3 w (Obj.cells #[.int .i64 r, .slice A rs.length c] 26) (Obj.cells #[.int .i64 K, .int .i64 I, .int .i64 J, .slice Aw nw cw] 36) (Obj.cells #[.int .i64 0, .slice none 0 0] 26))
  obtain ⟨V, hV⟩ : ∃ V, V = (((w.alloc (Obj.cells #[.int .i64 r, .slice A rs.length c] 26)).alloc (Obj.cells #[.int .i64 K, .int .i64 I, .int .i64 J, .slice Aw nw cw] 36)).alloc (Obj.cells #[.int .i64 0, .slice none 0 0] 26)) := ⟨_, rfl⟩
  have sV : w.heap.size + 1 + 1 < V.heap.size := by rw [hV]; simp
  have X0 := Lib.hid (show BoxG V w.heap.size (.int .i64 r) (.slice A rs.length c) from by rw [hV]; exact (P0.out.below (al1 _ _) (by simp)).below (al1 _ _) (by simp; omega))
  have Y0 := Lib.hid (show BoxT V (w.heap.size + 1) (.int .i64 K) (.int .i64 I) (.int .i64 J) (.slice Aw nw cw) from by rw [hV]; simpa using M0.out.below (al1 _ _) (by simp))
  have Z0 := Lib.hid (show BoxG V (w.heap.size + 1 + 1) (.int .i64 0) (.slice none 0 0) from by rw [hV]; simpa using R0.out)
  have G0 := Lib.hid (show Free V (w.heap.size + 1 + 1) from by rw [hV]; simpa using F0.out)
  have DV := Lib.hid (show Below w.heap.size w V from by rw [hV]; exact D3.out)
  clear h hrow P0 M0 R0 F0 D3
  have AF := Lib.hid hAF
  have HK := Lib.hid hK
  clear hAF hK
  go_enter Try.func16, Try.ntmps16
  go_upto_region 1 with fail
  rw [← hV]
  clear hV
  obtain ⟨x0, x1⟩ := X0.out
  go_wp2_with fail
  rw [hp] at IP
  refine (IP.out _ DV.out).mono ?_
  rintro e w1 ⟨rfl, hb1⟩
  have z1 : V.heap.size ≤ w1.heap.size := hb1.size
  have D1 := Lib.hid (DV.out.trans (hb1.mono (by omega)))
  have X1 := Lib.hid (X0.out.below hb1 (by omega))
  have Y1 := Lib.hid (Y0.out.below hb1 (by omega))
  have Z1 := Lib.hid (Z0.out.below hb1 (by omega))
  have G1 := Lib.hid (G0.out.below hb1 (by omega))
  clear hb1 x0 x1 X0 Y0 Z0 G0
  obtain ⟨m0, m1, m2, m3⟩ := Y1.out
  go_wp2_with fail
  refine (kind_inv K I J Aw nw cw _ HK.out).mono ?_
  rintro e w2 ⟨rfl, hb2⟩
  have z2 : w1.heap.size ≤ w2.heap.size := hb2.size
  have D2 := Lib.hid (D1.out.trans (hb2.mono (by omega)))
  have X2 := Lib.hid (X1.out.below hb2 (by omega))
  have Z2 := Lib.hid (Z1.out.below hb2 (by omega))
  have G2 := Lib.hid (G1.out.below hb2 (by omega))
  clear hb2 m0 m1 m2 m3 X1 Y1 Z1 G1
  obtain ⟨x0, x1⟩ := X2.out
  go_wp2_with fail
  refine (AF.out _ D2.out).mono ?_
  rintro e w3 ⟨A3, c3, rs3, rfl, ho3, hv3, hb3⟩
  have z3 : w2.heap.size ≤ w3.heap.size := hb3.size
  have D3 := Lib.hid (D2.out.trans (hb3.mono (by omega)))
  obtain ⟨s0, s1⟩ := Z2.out.below hb3 (by omega)
  have f0 := G2.out.below hb3 (by omega)
  have O3 := Lib.hid ho3
  have V3 := Lib.hid hv3
  unfold Free at f0
  clear ho3 hv3 hb3 x0 x1
  go_wp2
  refine bodyPost_ret (v := .tuple #[.agg #[.int .i64 f.1, .slice A3 rs3.length c3], .int .i64 f.2.2]) (by simp [results, Try.results16, s0, s1, go_sem]) rfl ?_
  exact ResP.ret (W := w2) O3.out V3.out D3.out (by omega) (by omega)

set_option maxRecDepth 100000 in
set_option maxHeartbeats 16000000 in
theorem apply_rot (K I J r : Int) (A Aw : Option Addr) (c nw cw : Nat) (rs : List Rw) (w : World) (h : RdS w w.heap.size A rs) (hn : rs.length ≤ 1048576) (hrow : ∀ q ∈ rs, q.zs.length ≤ 1048576) (f : Int × List (List Int) × Int) (hp : Wd.isP r (vals rs) = true) (hK : K = 2)
    (hAF : ∀ W, Below w.heap.size w W → Calls Try.prog 41 #[.agg #[.int .i64 r, .slice A rs.length c], .iface 87 (.agg #[.int .i64 I])] W (ResP W f.1 f.2.1 f.2.2)) :
    Calls Try.prog 16 #[.agg #[.int .i64 r, .slice A rs.length c], .agg #[.int .i64 K, .int .i64 I, .int .i64 J, .slice Aw nw cw]] w (ResP w f.1 f.2.1 f.2.2) := by
  have IP := Lib.hid (fun (W : World) (hb : Below w.heap.size w W) => isPres_impl r A c rs W (h.into hb) hn hrow)
  have P0 := Lib.hid (BoxG.new w 26 (.int .i64 r) (.slice A rs.length c))
  have M0 := Lib.hid (BoxT.new (w.alloc (Obj.cells #[.int .i64 r, .slice A rs.length c] 26)) 36 (.int .i64 K) (.int .i64 I) (.int .i64 J) (.slice Aw nw cw))
  have R0 := Lib.hid (BoxG.new ((w.alloc (Obj.cells #[.int .i64 r, .slice A rs.length c] 26)).alloc (Obj.cells #[.int .i64 K, .int .i64 I, .int .i64 J, .slice Aw nw cw] 36)) 26 (.int .i64 0) (.slice none 0 0))
  have F0 := Lib.hid (Free.new ((w.alloc (Obj.cells #[.int .i64 r, .slice A rs.length c] 26)).alloc (Obj.cells #[.int .i64 K, .int .i64 I, .int .i64 J, .slice Aw nw cw] 36)) 26 #[.int .i64 0, .slice none 0 0])
  have D3 := Lib.hid (al3 w (Obj.cells #[.int .i64 r, .slice A rs.length c] 26) (Obj.cells #[.int .i64 K, .int .i64 I, .int .i64 J, .slice Aw nw cw] 36) (Obj.cells #[.int .i64 0, .slice none 0 0] 26))
  obtain ⟨V, hV⟩ : ∃ V, V = (((w.alloc (Obj.cells #[.int .i64 r, .slice A rs.length c] 26)).alloc (Obj.cells #[.int .i64 K, .int .i64 I, .int .i64 J, .slice Aw nw cw] 36)).alloc (Obj.cells #[.int .i64 0, .slice none 0 0] 26)) := ⟨_, rfl⟩
  have sV : w.heap.size + 1 + 1 < V.heap.size := by rw [hV]; simp
  have X0 := Lib.hid (show BoxG V w.heap.size (.int .i64 r) (.slice A rs.length c) from by rw [hV]; exact (P0.out.below (al1 _ _) (by simp)).below (al1 _ _) (by simp; omega))
  have Y0 := Lib.hid (show BoxT V (w.heap.size + 1) (.int .i64 K) (.int .i64 I) (.int .i64 J) (.slice Aw nw cw) from by rw [hV]; simpa using M0.out.below (al1 _ _) (by simp))
  have Z0 := Lib.hid (show BoxG V (w.heap.size + 1 + 1) (.int .i64 0) (.slice none 0 0) from by rw [hV]; simpa using R0.out)
  have G0 := Lib.hid (show Free V (w.heap.size + 1 + 1) from by rw [hV]; simpa using F0.out)
  have DV := Lib.hid (show Below w.heap.size w V from by rw [hV]; exact D3.out)
  clear h hrow P0 M0 R0 F0 D3
  have AF := Lib.hid hAF
  have HK := Lib.hid hK
  clear hAF hK
  go_enter Try.func16, Try.ntmps16
  go_upto_region 1 with fail
  rw [← hV]
  clear hV
  obtain ⟨x0, x1⟩ := X0.out
  go_wp2_with fail
  rw [hp] at IP
  refine (IP.out _ DV.out).mono ?_
  rintro e w1 ⟨rfl, hb1⟩
  have z1 : V.heap.size ≤ w1.heap.size := hb1.size
  have D1 := Lib.hid (DV.out.trans (hb1.mono (by omega)))
  have X1 := Lib.hid (X0.out.below hb1 (by omega))
  have Y1 := Lib.hid (Y0.out.below hb1 (by omega))
  have Z1 := Lib.hid (Z0.out.below hb1 (by omega))
  have G1 := Lib.hid (G0.out.below hb1 (by omega))
  clear hb1 x0 x1 X0 Y0 Z0 G0
  obtain ⟨m0, m1, m2, m3⟩ := Y1.out
  go_wp2_with fail
  refine (kind_rot K I J Aw nw cw _ HK.out).mono ?_
  rintro e w2 ⟨rfl, hb2⟩
  have z2 : w1.heap.size ≤ w2.heap.size := hb2.size
  have D2 := Lib.hid (D1.out.trans (hb2.mono (by omega)))
  have X2 := Lib.hid (X1.out.below hb2 (by omega))
  have Z2 := Lib.hid (Z1.out.below hb2 (by omega))
  have G2 := Lib.hid (G1.out.below hb2 (by omega))
  clear hb2 m0 m1 m2 m3 X1 Y1 Z1 G1
  obtain ⟨x0, x1⟩ := X2.out
  go_wp2_with fail
  refine (AF.out _ D2.out).mono ?_
  rintro e w3 ⟨A3, c3, rs3, rfl, ho3, hv3, hb3⟩
  have z3 : w2.heap.size ≤ w3.heap.size := hb3.size
  have D3 := Lib.hid (D2.out.trans (hb3.mono (by omega)))
  obtain ⟨s0, s1⟩ := Z2.out.below hb3 (by omega)
  have f0 := G2.out.below hb3 (by omega)
  have O3 := Lib.hid ho3
  have V3 := Lib.hid hv3
  unfold Free at f0
  clear ho3 hv3 hb3 x0 x1
  go_wp2
  refine bodyPost_ret (v := .tuple #[.agg #[.int .i64 f.1, .slice A3 rs3.length c3], .int .i64 f.2.2]) (by simp [results, Try.results16, s0, s1, go_sem]) rfl ?_
  exact ResP.ret (W := w2) O3.out V3.out D3.out (by omega) (by omega)

set_option maxRecDepth 100000 in
set_option maxHeartbeats 16000000 in
theorem apply_mul (K I J r : Int) (A Aw : Option Addr) (c nw cw : Nat) (rs : List Rw) (w : World) (h : RdS w w.heap.size A rs) (hn : rs.length ≤ 1048576) (hrow : ∀ q ∈ rs, q.zs.length ≤ 1048576) (f : Int × List (List Int) × Int) (hp : Wd.isP r (vals rs) = true) (hK : K = 3)
    (hAF : ∀ W, Below w.heap.size w W → Calls Try.prog 41 #[.agg #[.int .i64 r, .slice A rs.length c], .iface 89 (.agg #[.int .i64 I, .int .i64 J])] W (ResP W f.1 f.2.1 f.2.2)) :
    Calls Try.prog 16 #[.agg #[.int .i64 r, .slice A rs.length c], .agg #[.int .i64 K, .int .i64 I, .int .i64 J, .slice Aw nw cw]] w (ResP w f.1 f.2.1 f.2.2) := by
  have IP := Lib.hid (fun (W : World) (hb : Below w.heap.size w W) => isPres_impl r A c rs W (h.into hb) hn hrow)
  have P0 := Lib.hid (BoxG.new w 26 (.int .i64 r) (.slice A rs.length c))
  have M0 := Lib.hid (BoxT.new (w.alloc (Obj.cells #[.int .i64 r, .slice A rs.length c] 26)) 36 (.int .i64 K) (.int .i64 I) (.int .i64 J) (.slice Aw nw cw))
  have R0 := Lib.hid (BoxG.new ((w.alloc (Obj.cells #[.int .i64 r, .slice A rs.length c] 26)).alloc (Obj.cells #[.int .i64 K, .int .i64 I, .int .i64 J, .slice Aw nw cw] 36)) 26 (.int .i64 0) (.slice none 0 0))
  have F0 := Lib.hid (Free.new ((w.alloc (Obj.cells #[.int .i64 r, .slice A rs.length c] 26)).alloc (Obj.cells #[.int .i64 K, .int .i64 I, .int .i64 J, .slice Aw nw cw] 36)) 26 #[.int .i64 0, .slice none 0 0])
  have D3 := Lib.hid (al3 w (Obj.cells #[.int .i64 r, .slice A rs.length c] 26) (Obj.cells #[.int .i64 K, .int .i64 I, .int .i64 J, .slice Aw nw cw] 36) (Obj.cells #[.int .i64 0, .slice none 0 0] 26))
  obtain ⟨V, hV⟩ : ∃ V, V = (((w.alloc (Obj.cells #[.int .i64 r, .slice A rs.length c] 26)).alloc (Obj.cells #[.int .i64 K, .int .i64 I, .int .i64 J, .slice Aw nw cw] 36)).alloc (Obj.cells #[.int .i64 0, .slice none 0 0] 26)) := ⟨_, rfl⟩
  have sV : w.heap.size + 1 + 1 < V.heap.size := by rw [hV]; simp
  have X0 := Lib.hid (show BoxG V w.heap.size (.int .i64 r) (.slice A rs.length c) from by rw [hV]; exact (P0.out.below (al1 _ _) (by simp)).below (al1 _ _) (by simp; omega))
  have Y0 := Lib.hid (show BoxT V (w.heap.size + 1) (.int .i64 K) (.int .i64 I) (.int .i64 J) (.slice Aw nw cw) from by rw [hV]; simpa using M0.out.below (al1 _ _) (by simp))
  have Z0 := Lib.hid (show BoxG V (w.heap.size + 1 + 1) (.int .i64 0) (.slice none 0 0) from by rw [hV]; simpa using R0.out)
  have G0 := Lib.hid (show Free V (w.heap.size + 1 + 1) from by rw [hV]; simpa using F0.out)
  have DV := Lib.hid (show Below w.heap.size w V from by rw [hV]; exact D3.out)
  clear h hrow P0 M0 R0 F0 D3
  have AF := Lib.hid hAF
  have HK := Lib.hid hK
  clear hAF hK
  go_enter Try.func16, Try.ntmps16
  go_upto_region 1 with fail
  rw [← hV]
  clear hV
  obtain ⟨x0, x1⟩ := X0.out
  go_wp2_with fail
  rw [hp] at IP
  refine (IP.out _ DV.out).mono ?_
  rintro e w1 ⟨rfl, hb1⟩
  have z1 : V.heap.size ≤ w1.heap.size := hb1.size
  have D1 := Lib.hid (DV.out.trans (hb1.mono (by omega)))
  have X1 := Lib.hid (X0.out.below hb1 (by omega))
  have Y1 := Lib.hid (Y0.out.below hb1 (by omega))
  have Z1 := Lib.hid (Z0.out.below hb1 (by omega))
  have G1 := Lib.hid (G0.out.below hb1 (by omega))
  clear hb1 x0 x1 X0 Y0 Z0 G0
  obtain ⟨m0, m1, m2, m3⟩ := Y1.out
  go_wp2_with fail
  refine (kind_mul K I J Aw nw cw _ HK.out).mono ?_
  rintro e w2 ⟨rfl, hb2⟩
  have z2 : w1.heap.size ≤ w2.heap.size := hb2.size
  have D2 := Lib.hid (D1.out.trans (hb2.mono (by omega)))
  have X2 := Lib.hid (X1.out.below hb2 (by omega))
  have Z2 := Lib.hid (Z1.out.below hb2 (by omega))
  have G2 := Lib.hid (G1.out.below hb2 (by omega))
  clear hb2 m0 m1 m2 m3 X1 Y1 Z1 G1
  obtain ⟨x0, x1⟩ := X2.out
  go_wp2_with fail
  refine (AF.out _ D2.out).mono ?_
  rintro e w3 ⟨A3, c3, rs3, rfl, ho3, hv3, hb3⟩
  have z3 : w2.heap.size ≤ w3.heap.size := hb3.size
  have D3 := Lib.hid (D2.out.trans (hb3.mono (by omega)))
  obtain ⟨s0, s1⟩ := Z2.out.below hb3 (by omega)
  have f0 := G2.out.below hb3 (by omega)
  have O3 := Lib.hid ho3
  have V3 := Lib.hid hv3
  unfold Free at f0
  clear ho3 hv3 hb3 x0 x1
  go_wp2
  refine bodyPost_ret (v := .tuple #[.agg #[.int .i64 f.1, .slice A3 rs3.length c3], .int .i64 f.2.2]) (by simp [results, Try.results16, s0, s1, go_sem]) rfl ?_
  exact ResP.ret (W := w2) O3.out V3.out D3.out (by omega) (by omega)

set_option maxRecDepth 100000 in
set_option maxHeartbeats 16000000 in
theorem apply_drop (K I J r : Int) (A Aw : Option Addr) (c nw cw : Nat) (rs : List Rw) (w : World) (h : RdS w w.heap.size A rs) (hn : rs.length ≤ 1048576) (hrow : ∀ q ∈ rs, q.zs.length ≤ 1048576) (f : Int × List (List Int) × Int) (hp : Wd.isP r (vals rs) = true) (hK : K = 4)
    (hAF : ∀ W, Below w.heap.size w W → Calls Try.prog 41 #[.agg #[.int .i64 r, .slice A rs.length c], .iface 81 (.agg #[.int .i64 I])] W (ResP W f.1 f.2.1 f.2.2)) :
    Calls Try.prog 16 #[.agg #[.int .i64 r, .slice A rs.length c], .agg #[.int .i64 K, .int .i64 I, .int .i64 J, .slice Aw nw cw]] w (ResP w f.1 f.2.1 f.2.2) := by
  have IP := Lib.hid (fun (W : World) (hb : Below w.heap.size w W) => isPres_impl r A c rs W (h.into hb) hn hrow)
  have P0 := Lib.hid (BoxG.new w 26 (.int .i64 r) (.slice A rs.length c))
  have M0 := Lib.hid (BoxT.new (w.alloc (Obj.cells #[.int .i64 r, .slice A rs.length c] 26)) 36 (.int .i64 K) (.int .i64 I) (.int .i64 J) (.slice Aw nw cw))
  have R0 := Lib.hid (BoxG.new ((w.alloc (Obj.cells #[.int .i64 r, .slice A rs.length c] 26)).alloc (Obj.cells #[.int .i64 K, .int .i64 I, .int .i64 J, .slice Aw nw cw] 36)) 26 (.int .i64 0) (.slice none 0 0))
  have F0 := Lib.hid (Free.new ((w.alloc (Obj.cells #[.int .i64 r, .slice A rs.length c] 26)).alloc (Obj.cells #[.int .i64 K, .int .i64 I, .int .i64 J, .slice Aw nw cw] 36)) 26 #[.int .i64 0, .slice none 0 0])
  have D3 := Lib.hid (al3 w (Obj.cells #[.int .i64 r, .slice A rs.length c] 26) (Obj.cells #[.int .i64 K, .int .i64 I, .int .i64 J, .slice Aw nw cw] 36) (Obj.cells #[.int .i64 0, .slice none 0 0] 26))
  obtain ⟨V, hV⟩ : ∃ V, V = (((w.alloc (Obj.cells #[.int .i64 r, .slice A rs.length c] 26)).alloc (Obj.cells #[.int .i64 K, .int .i64 I, .int .i64 J, .slice Aw nw cw] 36)).alloc (Obj.cells #[.int .i64 0, .slice none 0 0] 26)) := ⟨_, rfl⟩
  have sV : w.heap.size + 1 + 1 < V.heap.size := by rw [hV]; simp
  have X0 := Lib.hid (show BoxG V w.heap.size (.int .i64 r) (.slice A rs.length c) from by rw [hV]; exact (P0.out.below (al1 _ _) (by simp)).below (al1 _ _) (by simp; omega))
  have Y0 := Lib.hid (show BoxT V (w.heap.size + 1) (.int .i64 K) (.int .i64 I) (.int .i64 J) (.slice Aw nw cw) from by rw [hV]; simpa using M0.out.below (al1 _ _) (by simp))
  have Z0 := Lib.hid (show BoxG V (w.heap.size + 1 + 1) (.int .i64 0) (.slice none 0 0) from by rw [hV]; simpa using R0.out)
  have G0 := Lib.hid (show Free V (w.heap.size + 1 + 1) from by rw [hV]; simpa using F0.out)
  have DV := Lib.hid (show Below w.heap.size w V from by rw [hV]; exact D3.out)
  clear h hrow P0 M0 R0 F0 D3
  have AF := Lib.hid hAF
  have HK := Lib.hid hK
  clear hAF hK
  go_enter Try.func16, Try.ntmps16
  go_upto_region 1 with fail
  rw [← hV]
  clear hV
  obtain ⟨x0, x1⟩ := X0.out
  go_wp2_with fail
  rw [hp] at IP
  refine (IP.out _ DV.out).mono ?_
  rintro e w1 ⟨rfl, hb1⟩
  have z1 : V.heap.size ≤ w1.heap.size := hb1.size
  have D1 := Lib.hid (DV.out.trans (hb1.mono (by omega)))
  have X1 := Lib.hid (X0.out.below hb1 (by omega))
  have Y1 := Lib.hid (Y0.out.below hb1 (by omega))
  have Z1 := Lib.hid (Z0.out.below hb1 (by omega))
  have G1 := Lib.hid (G0.out.below hb1 (by omega))
  clear hb1 x0 x1 X0 Y0 Z0 G0
  obtain ⟨m0, m1, m2, m3⟩ := Y1.out
  go_wp2_with fail
  refine (kind_drop K I J Aw nw cw _ HK.out).mono ?_
  rintro e w2 ⟨rfl, hb2⟩
  have z2 : w1.heap.size ≤ w2.heap.size := hb2.size
  have D2 := Lib.hid (D1.out.trans (hb2.mono (by omega)))
  have X2 := Lib.hid (X1.out.below hb2 (by omega))
  have Z2 := Lib.hid (Z1.out.below hb2 (by omega))
  have G2 := Lib.hid (G1.out.below hb2 (by omega))
  clear hb2 m0 m1 m2 m3 X1 Y1 Z1 G1
  obtain ⟨x0, x1⟩ := X2.out
  go_wp2_with fail
  refine (AF.out _ D2.out).mono ?_
  rintro e w3 ⟨A3, c3, rs3, rfl, ho3, hv3, hb3⟩
  have z3 : w2.heap.size ≤ w3.heap.size := hb3.size
  have D3 := Lib.hid (D2.out.trans (hb3.mono (by omega)))
  obtain ⟨s0, s1⟩ := Z2.out.below hb3 (by omega)
  have f0 := G2.out.below hb3 (by omega)
  have O3 := Lib.hid ho3
  have V3 := Lib.hid hv3
  unfold Free at f0
  clear ho3 hv3 hb3 x0 x1
  go_wp2
  refine bodyPost_ret (v := .tuple #[.agg #[.int .i64 f.1, .slice A3 rs3.length c3], .int .i64 f.2.2]) (by simp [results, Try.results16, s0, s1, go_sem]) rfl ?_
  exact ResP.ret (W := w2) O3.out V3.out D3.out (by omega) (by omega)

set_option maxRecDepth 100000 in
set_option maxHeartbeats 16000000 in
theorem apply_rem (K I J r : Int) (A Aw : Option Addr) (c nw cw : Nat) (rs : List Rw) (w : World) (h : RdS w w.heap.size A rs) (hn : rs.length ≤ 1048576) (hrow : ∀ q ∈ rs, q.zs.length ≤ 1048576) (f : Int × List (List Int) × Int) (hp : Wd.isP r (vals rs) = true) (hK : K = 5)
    (hAF : ∀ W, Below w.heap.size w W → Calls Try.prog 41 #[.agg #[.int .i64 r, .slice A rs.length c], .iface 83 (.agg #[.int .i64 I, .int .i64 J])] W (ResP W f.1 f.2.1 f.2.2)) :
    Calls Try.prog 16 #[.agg #[.int .i64 r, .slice A rs.length c], .agg #[.int .i64 K, .int .i64 I, .int .i64 J, .slice Aw nw cw]] w (ResP w f.1 f.2.1 f.2.2) := by
  have IP := Lib.hid (fun (W : World) (hb : Below w.heap.size w W) => isPres_impl r A c rs W (h.into hb) hn hrow)
  have P0 := Lib.hid (BoxG.new w 26 (.int .i64 r) (.slice A rs.length c))
  have M0 := Lib.hid (BoxT.new (w.alloc (Obj.cells #[.int .i64 r, .slice A rs.length c] 26)) 36 (.int .i64 K) (.int .i64 I) (.int .i64 J) (.slice Aw nw cw))
  have R0 := Lib.hid (BoxG.new ((w.alloc (Obj.cells #[.int .i64 r, .slice A rs.length c] 26)).alloc (Obj.cells #[.int .i64 K, .int .i64 I, .int .i64 J, .slice Aw nw cw] 36)) 26 (.int .i64 0) (.slice none 0 0))
  have F0 := Lib.hid (Free.new ((w.alloc (Obj.cells #[.int .i64 r, .slice A rs.length c] 26)).alloc (Obj.cells #[.int .i64 K, .int .i64 I, .int .i64 J, .slice Aw nw cw] 36)) 26 #[.int .i64 0, .slice none 0 0])
  have D3 := Lib.hid (al3 w (Obj.cells #[.int .i64 r, .slice A rs.length c] 26) (Obj.cells #[.int .i64 K, .int .i64 I, .int .i64 J, .slice Aw nw cw] 36) (Obj.cells #[.int .i64 0, .slice none 0 0] 26))
  obtain ⟨V, hV⟩ : ∃ V, V = (((w.alloc (Obj.cells #[.int .i64 r, .slice A rs.length c] 26)).alloc (Obj.cells #[.int .i64 K, .int .i64 I, .int .i64 J, .slice Aw nw cw] 36)).alloc (Obj.cells #[.int .i64 0, .slice none 0 0] 26)) := ⟨_, rfl⟩
  have sV : w.heap.size + 1 + 1 < V.heap.size := by rw [hV]; simp
  have X0 := Lib.hid (show BoxG V w.heap.size (.int .i64 r) (.slice A rs.length c) from by rw [hV]; exact (P0.out.below (al1 _ _) (by simp)).below (al1 _ _) (by simp; omega))
  have Y0 := Lib.hid (show BoxT V (w.heap.size + 1) (.int .i64 K) (.int .i64 I) (.int .i64 J) (.slice Aw nw cw) from by rw [hV]; simpa using M0.out.below (al1 _ _) (by simp))
  have Z0 := Lib.hid (show BoxG V (w.heap.size + 1 + 1) (.int .i64 0) (.slice none 0 0) from by rw [hV]; simpa using R0.out)
  have G0 := Lib.hid (show Free V (w.heap.size + 1 + 1) from by rw [hV]; simpa using F0.out)
  have DV := Lib.hid (show Below w.heap.size w V from by rw [hV]; exact D3.out)
  clear h hrow P0 M0 R0 F0 D3
  have AF := Lib.hid hAF
  have HK := Lib.hid hK
  clear hAF hK
  go_enter Try.func16, Try.ntmps16
  go_upto_region 1 with fail
  rw [← hV]
  clear hV
  obtain ⟨x0, x1⟩ := X0.out
  go_wp2_with fail
  rw [hp] at IP
  refine (IP.out _ DV.out).mono ?_
  rintro e w1 ⟨rfl, hb1⟩
  have z1 : V.heap.size ≤ w1.heap.size := hb1.size
  have D1 := Lib.hid (DV.out.trans (hb1.mono (by omega)))
  have X1 := Lib.hid (X0.out.below hb1 (by omega))
  have Y1 := Lib.hid (Y0.out.below hb1 (by omega))
  have Z1 := Lib.hid (Z0.out.below hb1 (by omega))
  have G1 := Lib.hid (G0.out.below hb1 (by omega))
  clear hb1 x0 x1 X0 Y0 Z0 G0
  obtain ⟨m0, m1, m2, m3⟩ := Y1.out
  go_wp2_with fail
  refine (kind_rem K I J Aw nw cw _ HK.out).mono ?_
  rintro e w2 ⟨rfl, hb2⟩
  have z2 : w1.heap.size ≤ w2.heap.size := hb2.size
  have D2 := Lib.hid (D1.out.trans (hb2.mono (by omega)))
  have X2 := Lib.hid (X1.out.below hb2 (by omega))
  have Z2 := Lib.hid (Z1.out.below hb2 (by omega))
  have G2 := Lib.hid (G1.out.below hb2 (by omega))
  clear hb2 m0 m1 m2 m3 X1 Y1 Z1 G1
  obtain ⟨x0, x1⟩ := X2.out
  go_wp2_with fail
  refine (AF.out _ D2.out).mono ?_
  rintro e w3 ⟨A3, c3, rs3, rfl, ho3, hv3, hb3⟩
  have z3 : w2.heap.size ≤ w3.heap.size := hb3.size
  have D3 := Lib.hid (D2.out.trans (hb3.mono (by omega)))
  obtain ⟨s0, s1⟩ := Z2.out.below hb3 (by omega)
  have f0 := G2.out.below hb3 (by omega)
  have O3 := Lib.hid ho3
  have V3 := Lib.hid hv3
  unfold Free at f0
  clear ho3 hv3 hb3 x0 x1
  go_wp2
  refine bodyPost_ret (v := .tuple #[.agg #[.int .i64 f.1, .slice A3 rs3.length c3], .int .i64 f.2.2]) (by simp [results, Try.results16, s0, s1, go_sem]) rfl ?_
  exact ResP.ret (W := w2) O3.out V3.out D3.out (by omega) (by omega)

set_option maxRecDepth 100000 in
set_option maxHeartbeats 16000000 in
theorem apply_add (K I J r : Int) (A Aw : Option Addr) (c nw cw : Nat) (rs : List Rw) (w : World) (h : RdS w w.heap.size A rs) (hn : rs.length ≤ 1048576) (hrow : ∀ q ∈ rs, q.zs.length ≤ 1048576) (f : Int × List (List Int) × Int) (hp : Wd.isP r (vals rs) = true) (hK : K = 6)
    (hAF : ∀ W, Below w.heap.size w W → Calls Try.prog 41 #[.agg #[.int .i64 r, .slice A rs.length c], .iface 91 (.agg #[.slice Aw nw cw])] W (ResP W f.1 f.2.1 f.2.2)) :
    Calls Try.prog 16 #[.agg #[.int .i64 r, .slice A rs.length c], .agg #[.int .i64 K, .int .i64 I, .int .i64 J, .slice Aw nw cw]] w (ResP w f.1 f.2.1 f.2.2) := by
  have IP := Lib.hid (fun (W : World) (hb : Below w.heap.size w W) => isPres_impl r A c rs W (h.into hb) hn hrow)
  have P0 := Lib.hid (BoxG.new w 26 (.int .i64 r) (.slice A rs.length c))
  have M0 := Lib.hid (BoxT.new (w.alloc (Obj.cells #[.int .i64 r, .slice A rs.length c] 26)) 36 (.int .i64 K) (.int .i64 I) (.int .i64 J) (.slice Aw nw cw))
  have R0 := Lib.hid (BoxG.new ((w.alloc (Obj.cells #[.int .i64 r, .slice A rs.length c] 26)).alloc (Obj.cells #[.int .i64 K, .int .i64 I, .int .i64 J, .slice Aw nw cw] 36)) 26 (.int .i64 0) (.slice none 0 0))
  have F0 := Lib.hid (Free.new ((w.alloc (Obj.cells #[.int .i64 r, .slice A rs.length c] 26)).alloc (Obj.cells #[.int .i64 K, .int .i64 I, .int .i64 J, .slice Aw nw cw] 36)) 26 #[.int .i64 0, .slice none 0 0])
  have D3 := Lib.hid (al3 w (Obj.cells #[.int .i64 r, .slice A rs.length c] 26) (Obj.cells #[.int .i64 K, .int .i64 I, .int .i64 J, .slice Aw nw cw] 36) (Obj.cells #[.int .i64 0, .slice none 0 0] 26))
  obtain ⟨V, hV⟩ : ∃ V, V = (((w.alloc (Obj.cells #[.int .i64 r, .slice A rs.length c] 26)).alloc (Obj.cells #[.int .i64 K, .int .i64 I, .int .i64 J, .slice Aw nw cw] 36)).alloc (Obj.cells #[.int .i64 0, .slice none 0 0] 26)) := ⟨_, rfl⟩
  have sV : w.heap.size + 1 + 1 < V.heap.size := by rw [hV]; simp
  have X0 := Lib.hid (show BoxG V w.heap.size (.int .i64 r) (.slice A rs.length c) from by rw [hV]; exact (P0.out.below (al1 _ _) (by simp)).below (al1 _ _) (by simp; omega))
  have Y0 := Lib.hid (show BoxT V (w.heap.size + 1) (.int .i64 K) (.int .i64 I) (.int .i64 J) (.slice Aw nw cw) from by rw [hV]; simpa using M0.out.below (al1 _ _) (by simp))
  have Z0 := Lib.hid (show BoxG V (w.heap.size + 1 + 1) (.int .i64 0) (.slice none 0 0) from by rw [hV]; simpa using R0.out)
  have G0 := Lib.hid (show Free V (w.heap.size + 1 + 1) from by rw [hV]; simpa using F0.out)
  have DV := Lib.hid (show Below w.heap.size w V from by rw [hV]; exact D3.out)
  clear h hrow P0 M0 R0 F0 D3
  have AF := Lib.hid hAF
  have HK := Lib.hid hK
  clear hAF hK
  go_enter Try.func16, Try.ntmps16
  go_upto_region 1 with fail
  rw [← hV]
  clear hV
  obtain ⟨x0, x1⟩ := X0.out
  go_wp2_with fail
  rw [hp] at IP
  refine (IP.out _ DV.out).mono ?_
  rintro e w1 ⟨rfl, hb1⟩
  have z1 : V.heap.size ≤ w1.heap.size := hb1.size
  have D1 := Lib.hid (DV.out.trans (hb1.mono (by omega)))
  have X1 := Lib.hid (X0.out.below hb1 (by omega))
  have Y1 := Lib.hid (Y0.out.below hb1 (by omega))
  have Z1 := Lib.hid (Z0.out.below hb1 (by omega))
  have G1 := Lib.hid (G0.out.below hb1 (by omega))
  clear hb1 x0 x1 X0 Y0 Z0 G0
  obtain ⟨m0, m1, m2, m3⟩ := Y1.out
  go_wp2_with fail
  refine (kind_add K I J Aw nw cw _ HK.out).mono ?_
  rintro e w2 ⟨rfl, hb2⟩
  have z2 : w1.heap.size ≤ w2.heap.size := hb2.size
  have D2 := Lib.hid (D1.out.trans (hb2.mono (by omega)))
  have X2 := Lib.hid (X1.out.below hb2 (by omega))
  have Z2 := Lib.hid (Z1.out.below hb2 (by omega))
  have G2 := Lib.hid (G1.out.below hb2 (by omega))
  clear hb2 m0 m1 m2 m3 X1 Y1 Z1 G1
  obtain ⟨x0, x1⟩ := X2.out
  go_wp2_with fail
  refine (AF.out _ D2.out).mono ?_
  rintro e w3 ⟨A3, c3, rs3, rfl, ho3, hv3, hb3⟩
  have z3 : w2.heap.size ≤ w3.heap.size := hb3.size
  have D3 := Lib.hid (D2.out.trans (hb3.mono (by omega)))
  obtain ⟨s0, s1⟩ := Z2.out.below hb3 (by omega)
  have f0 := G2.out.below hb3 (by omega)
  have O3 := Lib.hid ho3
  have V3 := Lib.hid hv3
  unfold Free at f0
  clear ho3 hv3 hb3 x0 x1
  go_wp2
  refine bodyPost_ret (v := .tuple #[.agg #[.int .i64 f.1, .slice A3 rs3.length c3], .int .i64 f.2.2]) (by simp [results, Try.results16, s0, s1, go_sem]) rfl ?_
  exact ResP.ret (W := w2) O3.out V3.out D3.out (by omega) (by omega)

end Go.Proofs.Ytjommpdblbbkdaa
