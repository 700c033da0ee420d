/- The program's moves made in a presentation: after, for each kind. No condition but those that each theorem names. -/
import Derived.Test.YtjommpdblbbkdaaTzD
namespace Go.Proofs.Ytjommpdblbbkdaa
open Go.RowKit

/-- A presentation and a code, the rows in new memory. -/
def ResP (w : World) (pr : Int) (pz : List (List Int)) (code : Int) (e : Ending) (w' : World) : Prop :=
  ∃ A c rs, e = .returned (.tuple #[.agg #[.int .i64 pr, .slice A rs.length c], .int .i64 code]) ∧ OwnS w' w.heap.size w'.heap.size A c rs ∧ vals rs = pz ∧ Below w.heap.size w w'
theorem ResP.err {w W : World} {b : Nat} {code : Int} {x y : Value} (hb : w.heap.size ≤ b) (h : Below w.heap.size w W) : ResP w 0 [] code (.returned (.tuple #[.agg #[.int .i64 0, .slice none 0 0], .int .i64 code])) ((W.setCell ⟨b, 0, none⟩ x).setCell ⟨b, 1, none⟩ y) :=
  ⟨none, 0, [], rfl, OwnS.nil _ _ _, rfl, (h.setCell hb _).setCell hb _⟩
/-- The first k relators reduced. -/
def RedK (chg : List (List Int)) (k : Nat) (qs : List Rw) : Prop := vals qs = (chg.take k).map Wd.rd ++ chg.drop k
theorem RedK.start {chg : List (List Int)} {qs : List Rw} (h : vals qs = chg) : RedK chg 0 qs := by simp [RedK, h]
theorem RedK.len {chg : List (List Int)} {k : Nat} {qs : List Rw} (h : RedK chg k qs) : qs.length = chg.length := by
  have := congrArg List.length h
  simp [vals] at this
  omega
theorem RedK.at_ {chg : List (List Int)} {k : Nat} {qs : List Rw} (h : RedK chg k qs) (hk : k < chg.length) : (qs.getD k nilRw).zs = chg.getD k [] := by
  have e : ((chg.take k).map Wd.rd).length = k := by simp; omega
  rw [← vals_getD, h, List.getD_eq_getElem?_getD, List.getElem?_append_right (by omega), e, Nat.sub_self, List.getElem?_drop, Nat.add_zero, ← List.getD_eq_getElem?_getD]
theorem RedK.set_ {chg : List (List Int)} {k : Nat} {qs : List Rw} (h : RedK chg k qs) (hk : k < chg.length) {r : Rw} (hr : r.zs = Wd.rd (chg.getD k [])) : RedK chg (k + 1) (qs.set k r) := by
  have e : ((chg.take k).map Wd.rd).length = k := by simp; omega
  have e2 : chg.drop k = chg.getD k [] :: chg.drop (k + 1) := by
    rw [List.drop_eq_getElem_cons hk, List.getD_eq_getElem?_getD, List.getElem?_eq_getElem hk]; rfl
  have e3 : chg.take (k + 1) = chg.take k ++ [chg.getD k []] := by
    rw [List.take_succ_eq_append_getElem hk, List.getD_eq_getElem?_getD, List.getElem?_eq_getElem hk]; rfl
  unfold RedK at h ⊢
  rw [vals_set, h, List.set_append_right _ _ (by omega), e, Nat.sub_self, e2, List.set_cons_zero, e3, List.map_append, List.append_assoc, hr]
  rfl
theorem RedK.all {chg : List (List Int)} {qs : List Rw} {n : Nat} (h : RedK chg n qs) (hn : chg.length = n) : vals qs = chg.map Wd.rd := by
  unfold RedK at h
  rw [h, List.take_of_length_le (by omega), List.drop_of_length_le (by omega), List.append_nil]
theorem BoxG.farA {W : World} {b : Nat} {x y : Value} (h : BoxG W b x y) {p : Addr} (hp : b ≠ p.block) (u : Value) : BoxG (W.setCell p u) b x y :=
  ⟨by rw [World.cell?_setCell_other W _ _ _ (fun e => hp (by rw [e]))]; exact h.1, by rw [World.cell?_setCell_other W _ _ _ (fun e => hp (by rw [e]))]; exact h.2⟩
/-- What the code and the change lead to. -/
def fin (b r2 : Int) (chg : List (List Int)) : Int × List (List Int) × Int :=
  if b ≠ 0 then (0, [], b) else if Wd.isP r2 (chg.map Wd.rd) = true then (r2, chg.map Wd.rd, 0) else (0, [], 3)

set_option maxRecDepth 100000 in
set_option maxHeartbeats 16000000 in
theorem after_drop (i : Int) (r r2 b : Int) (A : Option Addr) (c : Nat) (rs : List Rw) (chg : List (List Int)) (w : World) (hck : ∀ W, Below w.heap.size w W → Calls Try.prog 92 #[.agg #[.int .i64 i], .agg #[.int .i64 r, .slice A rs.length c]] W fun e w' => e = .returned (.int .i64 b) ∧ Below W.heap.size W w')
    (hch : b = 0 → ∀ W, Below w.heap.size w W → Calls Try.prog 60 #[.agg #[.int .i64 r, .slice A rs.length c], .iface 81 (.agg #[.int .i64 i])] W (ResPr W r2 chg)) (hsz : ∀ z ∈ chg, z.length ≤ 1048576 ∧ Wd.Sm z) (hn : chg.length ≤ 1000) :
    Calls Try.prog 41 #[.agg #[.int .i64 r, .slice A rs.length c], .iface 81 (.agg #[.int .i64 i])] w (ResP w (fin b r2 chg).1 (fin b r2 chg).2.1 (fin b r2 chg).2.2) := by
  have CK := Lib.hid hck
  have CH := Lib.hid hch
  have SZ := Lib.hid hsz
  clear hck hch hsz
  obtain ⟨FV, hFV⟩ : ∃ v, v = fin b r2 chg := ⟨_, rfl⟩
  rw [← hFV]
  have FH := Lib.hid hFV
  clear hFV
  have P1 := Lib.hid (BoxG.new (w.alloc (Obj.cells #[.int .i64 r, .slice A rs.length c] 26)) 26 (.int .i64 0) (.slice none 0 0))
  have P0 := Lib.hid (BoxG.new w 26 (.int .i64 r) (.slice A rs.length c))
  have F1 := Lib.hid (Free.new (w.alloc (Obj.cells #[.int .i64 r, .slice A rs.length c] 26)) 26 #[.int .i64 0, .slice none 0 0])
  go_enter Try.func41, Try.ntmps41
  have hm : ∀ w, (method 286 81 (.agg #[.int .i64 i]) "loop.example/g00870/impl.check").run Try.prog w = .ok (92, .agg #[.int .i64 i]) w := fun w => by kernel_rfl
  go_wp2_with fail
  refine (CK.out _ (al2 _ _ _)).mono ?_
  rintro e w1 ⟨rfl, hb1⟩
  have z1 : w.heap.size + 1 < w1.heap.size := by have := hb1.size; simp at this; omega
  have X0 := Lib.hid ((P0.out.below (al1 _ _) (by simp)).below hb1 (by simp; omega))
  have X1 := Lib.hid (show BoxG w1 (w.heap.size + 1) (.int .i64 0) (.slice none 0 0) from by simpa using P1.out.below hb1 (by simp))
  have Y1 := Lib.hid (show Free w1 (w.heap.size + 1) from by simpa using F1.out.below hb1 (by simp))
  have D1 := Lib.hid (on2 _ _ hb1)
  clear hb1 P0 P1 F1 CK hm
  by_cases hb0 : b = 0
  case neg =>
    have t1 : (b != 0) = true := by simpa using hb0
    have FI := Lib.hid (show FV = (0, [], b) from by rw [FH.out]; unfold fin; rw [if_pos hb0])
    obtain ⟨s0, s1⟩ := X1.out
    have f0 := Y1.out
    unfold Free at f0
    clear hb0
    go_wp2
    refine bodyPost_ret (v := .tuple #[.agg #[.int .i64 0, .slice none 0 0], .int .i64 b]) (by simp [results, Try.results41, s0, s1, go_sem]) rfl ?_
    rw [FI.out]
    exact ResP.err (b := w.heap.size + 1) (by omega) D1.out
  have CHB := Lib.hid (CH.out hb0)
  have FI := Lib.hid (show FV = (if Wd.isP r2 (chg.map Wd.rd) = true then (r2, chg.map Wd.rd, 0) else (0, [], 3)) from by rw [FH.out]; unfold fin; rw [if_neg (by omega)])
  clear FH
  subst hb0
  obtain ⟨x0, x1⟩ := X0.out
  go_wp2_with fail
  refine (CHB.out _ D1.out).mono ?_
  rintro e w2 ⟨A2, c2, rs2, rfl, ho2, hv2, hb2⟩
  have z2 : w1.heap.size ≤ w2.heap.size := hb2.size
  have X2 := Lib.hid (X1.out.below hb2 (by omega))
  have Y2 := Lib.hid (Y1.out.below hb2 (by omega))
  have D2 := Lib.hid (D1.out.trans (hb2.mono (by omega)))
  have LC := Lib.hid (show rs2.length = chg.length from by rw [← vals_len, hv2])
  have RK := Lib.hid (RedK.start hv2)
  have O2 := Lib.hid ho2
  obtain ⟨n, hn2⟩ : ∃ n, chg.length = n := ⟨_, rfl⟩
  have LN := Lib.hid hn2
  rw [hn2] at LC hn
  rw [LC.out]
  clear X0 X1 Y1 D1 CH CHB ho2 hv2 hb2 x0 x1 hn2
  go_wp2
  obtain ⟨V, hV⟩ : ∃ V, V = w2.alloc (Obj.cells #[.int .i64 r2, .slice A2 n c2] 26) := ⟨_, rfl⟩
  have sV : w2.heap.size < V.heap.size := by rw [hV]; simp
  have C3 := Lib.hid (show BoxG V w2.heap.size (.int .i64 r2) (.slice A2 n c2) from by rw [hV]; exact BoxG.new _ _ _ _)
  have X3 := Lib.hid (show BoxG V (w.heap.size + 1) (.int .i64 0) (.slice none 0 0) from by rw [hV]; exact X2.out.below (al1 _ _) (by omega))
  have Y3 := Lib.hid (show Free V (w.heap.size + 1) from by rw [hV]; exact Y2.out.below (al1 _ _) (by omega))
  have D3 := Lib.hid (show Below w.heap.size w V from by rw [hV]; exact D2.out.alloc (by omega) _)
  have O3 := Lib.hid (show OwnS V w1.heap.size w2.heap.size A2 c2 rs2 from by rw [hV]; exact O2.out.below (al1 _ _) (Nat.le_refl _))
  rw [← hV]
  clear hV X2 Y2 D2 O2
  go_loopw [23] (fun x W => ∃ (k : Nat) (qs : List Rw), k ≤ n ∧ x = .int .i64 k ∧ RedK chg k qs ∧ OwnS W w1.heap.size W.heap.size A2 c2 qs ∧ BoxG W w2.heap.size (.int .i64 r2) (.slice A2 n c2) ∧ BoxG W (w.heap.size + 1) (.int .i64 0) (.slice none 0 0) ∧ Free W (w.heap.size + 1) ∧ Below w.heap.size w W ∧ V.heap.size ≤ W.heap.size ∧ (∀ a, A2 = some a → a.block < w2.heap.size)) (fun x _ => n - (intOf x).toNat)
  case atStart => exact ⟨0, rs2, Nat.zero_le _, rfl, RK.out, O3.out.wide (Nat.le_refl _) (by omega), C3.out, X3.out, Y3.out, D3.out, Nat.le_refl _, O3.out.top⟩
  case round =>
    obtain ⟨k, qs, hk, rfl, hrk, ho, hc, hx, hy, hd, hzz, htop⟩ := hrel
    have R := Lib.hid hrk
    have O := Lib.hid ho
    have C := Lib.hid hc
    have X := Lib.hid hx
    have Y := Lib.hid hy
    have D := Lib.hid hd
    have TP := Lib.hid htop
    have QL := Lib.hid (show qs.length = n from by rw [hrk.len, LN.out])
    clear hrk ho hc hx hy hd htop C3 X3 Y3 D3 O3 RK
    obtain ⟨q0, q1⟩ := C.out
    by_cases hlt : k < n
    · obtain ⟨g, hA, g1, g2, gc⟩ := O.out.at_ (by rw [QL.out]; omega)
      obtain ⟨gk1, gk2⟩ := gc k (by rw [QL.out]; exact hlt)
      have g3 := TP.out _ hA
      dsimp only at g3
      subst hA
      obtain ⟨row, hrow⟩ : ∃ row, qs.getD k nilRw = row := ⟨_, rfl⟩
      have hin := O.out.mine row (by rw [← hrow]; exact getD_mem (by rw [QL.out]; exact hlt))
      have hzs := R.out.at_ (by rw [LN.out]; exact hlt)
      rw [hrow] at hzs gk1
      obtain ⟨Aj, cj, zj⟩ := row
      dsimp only at hzs
      have hmem : zj ∈ chg := by
        rw [hzs, List.getD_eq_getElem?_getD, List.getElem?_eq_getElem (by rw [LN.out]; exact hlt)]
        exact List.getElem_mem _
      obtain ⟨zl, zS⟩ := SZ.out _ hmem
      have RD := Lib.hid (fun (W : World) (hI : Ints W W.heap.size Aj zj.length zj) => reduced_impl Aj zj.length cj zj W hI zl zS)
      have HJ := Lib.hid (show Ints wr.drew wr.drew.heap.size Aj zj.length zj from hin.mine.ints)
      have SETK := Lib.hid (fun (rw : Rw) (h : rw.zs = Wd.rd zj) => R.out.set_ (by rw [LN.out]; exact hlt) (show rw.zs = Wd.rd (chg.getD k []) by rw [← hzs]; exact h))
      obtain ⟨zo, hzo⟩ : ∃ zo, Wd.rd zj = zo := ⟨_, rfl⟩
      rw [hzo] at RD SETK
      have GK1 := Lib.hid gk1
      have GK2 := Lib.hid gk2
      dsimp only [Rw.sv] at gk1
      have i0 : (0 : Int) ≤ (k : Int) := by omega
      have i1 : (k : Int) < (n : Int) := by omega
      have n1 : ¬ g = w2.heap.size := by omega
      have n2 : ¬ w2.heap.size = g := by omega
      clear gc hin hzs hmem hrow hzo zS
      go_wp2_with fail
      go_region_held3 (fun W => W.cell? ⟨w2.heap.size, 1, none⟩ = some (.slice (some ⟨g, 0, none⟩) n c2)) (go_keep)
        (first
          | (go_at_call 61; (with_reducible refine (RD.out _ HJ.out).mono ?_); rintro e w6 ⟨R6, t6, rfl, hc6, hm6, hb6'⟩; have hb6 := undrew hb6'; have B6 := Lib.hid hb6; have z6 := hb6.size; have M6 := Lib.hid (show Rw.In ⟨R6, t6, zo⟩ w6 wr.heap.size w6.heap.size from ⟨hc6.1, hc6.2, hm6⟩); obtain ⟨e0, e1⟩ := C.out.below hb6 (by omega); have e6 := (hb6.cell (p := ⟨g, k, none⟩) g2).trans GK1.out; have e7 := (hb6.frozen (p := ⟨g, k, none⟩) g2).trans GK2.out; clear hb6 hb6' hc6 hm6))
      all_goals
        have O6 := Lib.hid (((O.out.below B6.out (Nat.le_refl _)).wide (Nat.le_refl _) z6).set_ k ⟨R6, t6, zo⟩ (M6.out.wide (by omega) (Nat.le_refl _)) (M6.out.off (.inl g2)) (fun r' hr' => Apart.of_in M6.out (O.out.mine r' hr') (.inr (Nat.le_refl _))))
        have CX := Lib.hid (C.out.below B6.out (by omega))
        have XX := Lib.hid (X.out.below B6.out (by omega))
        have YX := Lib.hid (Y.out.below B6.out (by omega))
        have DX := Lib.hid (D.out.trans (B6.out.mono (by omega)))
        clear gk1 gk2 e0 e1 e6 e7 q0 q1
        go_wp2
        go_roundw
        case rel => exact ⟨k + 1, _, by omega, by go_num, SETK.out ⟨R6, t6, zo⟩ rfl, O6.out.wide (Nat.le_refl _) (by simp [World.setCell]), CX.out.farA (p := ⟨g, k, none⟩) n2 _, XX.out.farA (p := ⟨g, k, none⟩) (by dsimp only; omega) _, YX.out.setA _ _, DX.out.setCell (by dsimp only; omega) _, by simp [World.setCell]; omega, TP.out⟩
        case measure => simp [intOf]; omega
    · obtain rfl : k = n := by omega
      have VF := Lib.hid (R.out.all LN.out)
      have IP := Lib.hid (isPres_impl r2 A2 c2 qs wr O.out.rd (by rw [QL.out]; omega) (fun q hq => by
        obtain ⟨j, hj, rfl⟩ := List.mem_iff_getElem.1 hq
        have h2 : qs[j].zs ∈ vals qs := List.mem_map_of_mem (List.getElem_mem hj)
        rw [VF.out] at h2
        obtain ⟨z, hz1, hz2⟩ := List.mem_map.1 h2
        rw [← hz2]
        exact Nat.le_trans (Wd.rd_len z) (SZ.out z hz1).1))
      rw [QL.out, VF.out] at IP
      rcases hres : Wd.isP r2 (chg.map Wd.rd) with _ | _
      · rw [hres] at IP
        have FJ := Lib.hid (show FV = (0, [], 3) from by rw [FI.out, hres]; rfl)
        clear hres FI
        go_wp2_with fail
        refine IP.out.mono ?_
        rintro e w4 ⟨rfl, hb4⟩
        have z4 := hb4.size
        obtain ⟨s0, s1⟩ := X.out.below hb4 (by omega)
        have f0 := Y.out.below hb4 (by omega)
        have D4 := Lib.hid (D.out.trans (hb4.mono (by omega)))
        unfold Free at f0
        clear hb4 q0 q1
        go_wp2
        refine bodyPost_ret (v := .tuple #[.agg #[.int .i64 0, .slice none 0 0], .int .i64 3]) (by simp [results, Try.results41, s0, s1, go_sem]) rfl ?_
        rw [FJ.out]
        exact ResP.err (b := w.heap.size + 1) (by omega) D4.out
      · rw [hres] at IP
        have FJ := Lib.hid (show FV = (r2, chg.map Wd.rd, 0) from by rw [FI.out, hres]; rfl)
        clear hres FI
        go_wp2_with fail
        refine IP.out.mono ?_
        rintro e w4 ⟨rfl, hb4⟩
        have z4 := hb4.size
        obtain ⟨s0, s1⟩ := X.out.below hb4 (by omega)
        have f0 := Y.out.below hb4 (by omega)
        obtain ⟨p0, p1⟩ := C.out.below hb4 (by omega)
        have D4 := Lib.hid (D.out.trans (hb4.mono (by omega)))
        have O4 := Lib.hid (O.out.below hb4 (Nat.le_refl _))
        unfold Free at f0
        clear hb4 q0 q1
        go_wp2
        refine bodyPost_ret (v := .tuple #[.agg #[.int .i64 r2, .slice A2 k c2], .int .i64 0]) (by simp [results, Try.results41, s0, s1, go_sem]) rfl ?_
        rw [FJ.out]
        refine ⟨A2, c2, qs, by rw [QL.out], ?_, VF.out, (D4.out.setCell (by dsimp only; omega) _).setCell (by dsimp only; omega) _⟩
        exact ((O4.out.far (p := ⟨w.heap.size + 1, 0, none⟩) (.inl (by dsimp only; omega)) _).far (p := ⟨w.heap.size + 1, 1, none⟩) (.inl (by dsimp only; omega)) _).wide (by omega) (by simp [World.setCell]; omega)

set_option maxRecDepth 100000 in
set_option maxHeartbeats 16000000 in
theorem after_inv (i : Int) (r r2 b : Int) (A : Option Addr) (c : Nat) (rs : List Rw) (chg : List (List Int)) (w : World) (hck : ∀ W, Below w.heap.size w W → Calls Try.prog 95 #[.agg #[.int .i64 i], .agg #[.int .i64 r, .slice A rs.length c]] W fun e w' => e = .returned (.int .i64 b) ∧ Below W.heap.size W w')
    (hch : b = 0 → ∀ W, Below w.heap.size w W → Calls Try.prog 60 #[.agg #[.int .i64 r, .slice A rs.length c], .iface 86 (.agg #[.int .i64 i])] W (ResPr W r2 chg)) (hsz : ∀ z ∈ chg, z.length ≤ 1048576 ∧ Wd.Sm z) (hn : chg.length ≤ 1000) :
    Calls Try.prog 41 #[.agg #[.int .i64 r, .slice A rs.length c], .iface 86 (.agg #[.int .i64 i])] w (ResP w (fin b r2 chg).1 (fin b r2 chg).2.1 (fin b r2 chg).2.2) := by
  have CK := Lib.hid hck
  have CH := Lib.hid hch
  have SZ := Lib.hid hsz
  clear hck hch hsz
  obtain ⟨FV, hFV⟩ : ∃ v, v = fin b r2 chg := ⟨_, rfl⟩
  rw [← hFV]
  have FH := Lib.hid hFV
  clear hFV
  have P1 := Lib.hid (BoxG.new (w.alloc (Obj.cells #[.int .i64 r, .slice A rs.length c] 26)) 26 (.int .i64 0) (.slice none 0 0))
  have P0 := Lib.hid (BoxG.new w 26 (.int .i64 r) (.slice A rs.length c))
  have F1 := Lib.hid (Free.new (w.alloc (Obj.cells #[.int .i64 r, .slice A rs.length c] 26)) 26 #[.int .i64 0, .slice none 0 0])
  go_enter Try.func41, Try.ntmps41
  have hm : ∀ w, (method 286 86 (.agg #[.int .i64 i]) "loop.example/g00870/impl.check").run Try.prog w = .ok (95, .agg #[.int .i64 i]) w := fun w => by kernel_rfl
  go_wp2_with fail
  refine (CK.out _ (al2 _ _ _)).mono ?_
  rintro e w1 ⟨rfl, hb1⟩
  have z1 : w.heap.size + 1 < w1.heap.size := by have := hb1.size; simp at this; omega
  have X0 := Lib.hid ((P0.out.below (al1 _ _) (by simp)).below hb1 (by simp; omega))
  have X1 := Lib.hid (show BoxG w1 (w.heap.size + 1) (.int .i64 0) (.slice none 0 0) from by simpa using P1.out.below hb1 (by simp))
  have Y1 := Lib.hid (show Free w1 (w.heap.size + 1) from by simpa using F1.out.below hb1 (by simp))
  have D1 := Lib.hid (on2 _ _ hb1)
  clear hb1 P0 P1 F1 CK hm
  by_cases hb0 : b = 0
  case neg =>
    have t1 : (b != 0) = true := by simpa using hb0
    have FI := Lib.hid (show FV = (0, [], b) from by rw [FH.out]; unfold fin; rw [if_pos hb0])
    obtain ⟨s0, s1⟩ := X1.out
    have f0 := Y1.out
    unfold Free at f0
    clear hb0
    go_wp2
    refine bodyPost_ret (v := .tuple #[.agg #[.int .i64 0, .slice none 0 0], .int .i64 b]) (by simp [results, Try.results41, s0, s1, go_sem]) rfl ?_
    rw [FI.out]
    exact ResP.err (b := w.heap.size + 1) (by omega) D1.out
  have CHB := Lib.hid (CH.out hb0)
  have FI := Lib.hid (show FV = (if Wd.isP r2 (chg.map Wd.rd) = true then (r2, chg.map Wd.rd, 0) else (0, [], 3)) from by rw [FH.out]; unfold fin; rw [if_neg (by omega)])
  clear FH
  subst hb0
  obtain ⟨x0, x1⟩ := X0.out
  go_wp2_with fail
  refine (CHB.out _ D1.out).mono ?_
  rintro e w2 ⟨A2, c2, rs2, rfl, ho2, hv2, hb2⟩
  have z2 : w1.heap.size ≤ w2.heap.size := hb2.size
  have X2 := Lib.hid (X1.out.below hb2 (by omega))
  have Y2 := Lib.hid (Y1.out.below hb2 (by omega))
  have D2 := Lib.hid (D1.out.trans (hb2.mono (by omega)))
  have LC := Lib.hid (show rs2.length = chg.length from by rw [← vals_len, hv2])
  have RK := Lib.hid (RedK.start hv2)
  have O2 := Lib.hid ho2
  obtain ⟨n, hn2⟩ : ∃ n, chg.length = n := ⟨_, rfl⟩
  have LN := Lib.hid hn2
  rw [hn2] at LC hn
  rw [LC.out]
  clear X0 X1 Y1 D1 CH CHB ho2 hv2 hb2 x0 x1 hn2
  go_wp2
  obtain ⟨V, hV⟩ : ∃ V, V = w2.alloc (Obj.cells #[.int .i64 r2, .slice A2 n c2] 26) := ⟨_, rfl⟩
  have sV : w2.heap.size < V.heap.size := by rw [hV]; simp
  have C3 := Lib.hid (show BoxG V w2.heap.size (.int .i64 r2) (.slice A2 n c2) from by rw [hV]; exact BoxG.new _ _ _ _)
  have X3 := Lib.hid (show BoxG V (w.heap.size + 1) (.int .i64 0) (.slice none 0 0) from by rw [hV]; exact X2.out.below (al1 _ _) (by omega))
  have Y3 := Lib.hid (show Free V (w.heap.size + 1) from by rw [hV]; exact Y2.out.below (al1 _ _) (by omega))
  have D3 := Lib.hid (show Below w.heap.size w V from by rw [hV]; exact D2.out.alloc (by omega) _)
  have O3 := Lib.hid (show OwnS V w1.heap.size w2.heap.size A2 c2 rs2 from by rw [hV]; exact O2.out.below (al1 _ _) (Nat.le_refl _))
  rw [← hV]
  clear hV X2 Y2 D2 O2
  go_loopw [23] (fun x W => ∃ (k : Nat) (qs : List Rw), k ≤ n ∧ x = .int .i64 k ∧ RedK chg k qs ∧ OwnS W w1.heap.size W.heap.size A2 c2 qs ∧ BoxG W w2.heap.size (.int .i64 r2) (.slice A2 n c2) ∧ BoxG W (w.heap.size + 1) (.int .i64 0) (.slice none 0 0) ∧ Free W (w.heap.size + 1) ∧ Below w.heap.size w W ∧ V.heap.size ≤ W.heap.size ∧ (∀ a, A2 = some a → a.block < w2.heap.size)) (fun x _ => n - (intOf x).toNat)
  case atStart => exact ⟨0, rs2, Nat.zero_le _, rfl, RK.out, O3.out.wide (Nat.le_refl _) (by omega), C3.out, X3.out, Y3.out, D3.out, Nat.le_refl _, O3.out.top⟩
  case round =>
    obtain ⟨k, qs, hk, rfl, hrk, ho, hc, hx, hy, hd, hzz, htop⟩ := hrel
    have R := Lib.hid hrk
    have O := Lib.hid ho
    have C := Lib.hid hc
    have X := Lib.hid hx
    have Y := Lib.hid hy
    have D := Lib.hid hd
    have TP := Lib.hid htop
    have QL := Lib.hid (show qs.length = n from by rw [hrk.len, LN.out])
    clear hrk ho hc hx hy hd htop C3 X3 Y3 D3 O3 RK
    obtain ⟨q0, q1⟩ := C.out
    by_cases hlt : k < n
    · obtain ⟨g, hA, g1, g2, gc⟩ := O.out.at_ (by rw [QL.out]; omega)
      obtain ⟨gk1, gk2⟩ := gc k (by rw [QL.out]; exact hlt)
      have g3 := TP.out _ hA
      dsimp only at g3
      subst hA
      obtain ⟨row, hrow⟩ : ∃ row, qs.getD k nilRw = row := ⟨_, rfl⟩
      have hin := O.out.mine row (by rw [← hrow]; exact getD_mem (by rw [QL.out]; exact hlt))
      have hzs := R.out.at_ (by rw [LN.out]; exact hlt)
      rw [hrow] at hzs gk1
      obtain ⟨Aj, cj, zj⟩ := row
      dsimp only at hzs
      have hmem : zj ∈ chg := by
        rw [hzs, List.getD_eq_getElem?_getD, List.getElem?_eq_getElem (by rw [LN.out]; exact hlt)]
        exact List.getElem_mem _
      obtain ⟨zl, zS⟩ := SZ.out _ hmem
      have RD := Lib.hid (fun (W : World) (hI : Ints W W.heap.size Aj zj.length zj) => reduced_impl Aj zj.length cj zj W hI zl zS)
      have HJ := Lib.hid (show Ints wr.drew wr.drew.heap.size Aj zj.length zj from hin.mine.ints)
      have SETK := Lib.hid (fun (rw : Rw) (h : rw.zs = Wd.rd zj) => R.out.set_ (by rw [LN.out]; exact hlt) (show rw.zs = Wd.rd (chg.getD k []) by rw [← hzs]; exact h))
      obtain ⟨zo, hzo⟩ : ∃ zo, Wd.rd zj = zo := ⟨_, rfl⟩
      rw [hzo] at RD SETK
      have GK1 := Lib.hid gk1
      have GK2 := Lib.hid gk2
      dsimp only [Rw.sv] at gk1
      have i0 : (0 : Int) ≤ (k : Int) := by omega
      have i1 : (k : Int) < (n : Int) := by omega
      have n1 : ¬ g = w2.heap.size := by omega
      have n2 : ¬ w2.heap.size = g := by omega
      clear gc hin hzs hmem hrow hzo zS
      go_wp2_with fail
      go_region_held3 (fun W => W.cell? ⟨w2.heap.size, 1, none⟩ = some (.slice (some ⟨g, 0, none⟩) n c2)) (go_keep)
        (first
          | (go_at_call 61; (with_reducible refine (RD.out _ HJ.out).mono ?_); rintro e w6 ⟨R6, t6, rfl, hc6, hm6, hb6'⟩; have hb6 := undrew hb6'; have B6 := Lib.hid hb6; have z6 := hb6.size; have M6 := Lib.hid (show Rw.In ⟨R6, t6, zo⟩ w6 wr.heap.size w6.heap.size from ⟨hc6.1, hc6.2, hm6⟩); obtain ⟨e0, e1⟩ := C.out.below hb6 (by omega); have e6 := (hb6.cell (p := ⟨g, k, none⟩) g2).trans GK1.out; have e7 := (hb6.frozen (p := ⟨g, k, none⟩) g2).trans GK2.out; clear hb6 hb6' hc6 hm6))
      all_goals
        have O6 := Lib.hid (((O.out.below B6.out (Nat.le_refl _)).wide (Nat.le_refl _) z6).set_ k ⟨R6, t6, zo⟩ (M6.out.wide (by omega) (Nat.le_refl _)) (M6.out.off (.inl g2)) (fun r' hr' => Apart.of_in M6.out (O.out.mine r' hr') (.inr (Nat.le_refl _))))
        have CX := Lib.hid (C.out.below B6.out (by omega))
        have XX := Lib.hid (X.out.below B6.out (by omega))
        have YX := Lib.hid (Y.out.below B6.out (by omega))
        have DX := Lib.hid (D.out.trans (B6.out.mono (by omega)))
        clear gk1 gk2 e0 e1 e6 e7 q0 q1
        go_wp2
        go_roundw
        case rel => exact ⟨k + 1, _, by omega, by go_num, SETK.out ⟨R6, t6, zo⟩ rfl, O6.out.wide (Nat.le_refl _) (by simp [World.setCell]), CX.out.farA (p := ⟨g, k, none⟩) n2 _, XX.out.farA (p := ⟨g, k, none⟩) (by dsimp only; omega) _, YX.out.setA _ _, DX.out.setCell (by dsimp only; omega) _, by simp [World.setCell]; omega, TP.out⟩
        case measure => simp [intOf]; omega
    · obtain rfl : k = n := by omega
      have VF := Lib.hid (R.out.all LN.out)
      have IP := Lib.hid (isPres_impl r2 A2 c2 qs wr O.out.rd (by rw [QL.out]; omega) (fun q hq => by
        obtain ⟨j, hj, rfl⟩ := List.mem_iff_getElem.1 hq
        have h2 : qs[j].zs ∈ vals qs := List.mem_map_of_mem (List.getElem_mem hj)
        rw [VF.out] at h2
        obtain ⟨z, hz1, hz2⟩ := List.mem_map.1 h2
        rw [← hz2]
        exact Nat.le_trans (Wd.rd_len z) (SZ.out z hz1).1))
      rw [QL.out, VF.out] at IP
      rcases hres : Wd.isP r2 (chg.map Wd.rd) with _ | _
      · rw [hres] at IP
        have FJ := Lib.hid (show FV = (0, [], 3) from by rw [FI.out, hres]; rfl)
        clear hres FI
        go_wp2_with fail
        refine IP.out.mono ?_
        rintro e w4 ⟨rfl, hb4⟩
        have z4 := hb4.size
        obtain ⟨s0, s1⟩ := X.out.below hb4 (by omega)
        have f0 := Y.out.below hb4 (by omega)
        have D4 := Lib.hid (D.out.trans (hb4.mono (by omega)))
        unfold Free at f0
        clear hb4 q0 q1
        go_wp2
        refine bodyPost_ret (v := .tuple #[.agg #[.int .i64 0, .slice none 0 0], .int .i64 3]) (by simp [results, Try.results41, s0, s1, go_sem]) rfl ?_
        rw [FJ.out]
        exact ResP.err (b := w.heap.size + 1) (by omega) D4.out
      · rw [hres] at IP
        have FJ := Lib.hid (show FV = (r2, chg.map Wd.rd, 0) from by rw [FI.out, hres]; rfl)
        clear hres FI
        go_wp2_with fail
        refine IP.out.mono ?_
        rintro e w4 ⟨rfl, hb4⟩
        have z4 := hb4.size
        obtain ⟨s0, s1⟩ := X.out.below hb4 (by omega)
        have f0 := Y.out.below hb4 (by omega)
        obtain ⟨p0, p1⟩ := C.out.below hb4 (by omega)
        have D4 := Lib.hid (D.out.trans (hb4.mono (by omega)))
        have O4 := Lib.hid (O.out.below hb4 (Nat.le_refl _))
        unfold Free at f0
        clear hb4 q0 q1
        go_wp2
        refine bodyPost_ret (v := .tuple #[.agg #[.int .i64 r2, .slice A2 k c2], .int .i64 0]) (by simp [results, Try.results41, s0, s1, go_sem]) rfl ?_
        rw [FJ.out]
        refine ⟨A2, c2, qs, by rw [QL.out], ?_, VF.out, (D4.out.setCell (by dsimp only; omega) _).setCell (by dsimp only; omega) _⟩
        exact ((O4.out.far (p := ⟨w.heap.size + 1, 0, none⟩) (.inl (by dsimp only; omega)) _).far (p := ⟨w.heap.size + 1, 1, none⟩) (.inl (by dsimp only; omega)) _).wide (by omega) (by simp [World.setCell]; omega)

set_option maxRecDepth 100000 in
set_option maxHeartbeats 16000000 in
theorem after_rot (i : Int) (r r2 b : Int) (A : Option Addr) (c : Nat) (rs : List Rw) (chg : List (List Int)) (w : World) (hck : ∀ W, Below w.heap.size w W → Calls Try.prog 96 #[.agg #[.int .i64 i], .agg #[.int .i64 r, .slice A rs.length c]] W fun e w' => e = .returned (.int .i64 b) ∧ Below W.heap.size W w')
    (hch : b = 0 → ∀ W, Below w.heap.size w W → Calls Try.prog 60 #[.agg #[.int .i64 r, .slice A rs.length c], .iface 87 (.agg #[.int .i64 i])] W (ResPr W r2 chg)) (hsz : ∀ z ∈ chg, z.length ≤ 1048576 ∧ Wd.Sm z) (hn : chg.length ≤ 1000) :
    Calls Try.prog 41 #[.agg #[.int .i64 r, .slice A rs.length c], .iface 87 (.agg #[.int .i64 i])] w (ResP w (fin b r2 chg).1 (fin b r2 chg).2.1 (fin b r2 chg).2.2) := by
  have CK := Lib.hid hck
  have CH := Lib.hid hch
  have SZ := Lib.hid hsz
  clear hck hch hsz
  obtain ⟨FV, hFV⟩ : ∃ v, v = fin b r2 chg := ⟨_, rfl⟩
  rw [← hFV]
  have FH := Lib.hid hFV
  clear hFV
  have P1 := Lib.hid (BoxG.new (w.alloc (Obj.cells #[.int .i64 r, .slice A rs.length c] 26)) 26 (.int .i64 0) (.slice none 0 0))
  have P0 := Lib.hid (BoxG.new w 26 (.int .i64 r) (.slice A rs.length c))
  have F1 := Lib.hid (Free.new (w.alloc (Obj.cells #[.int .i64 r, .slice A rs.length c] 26)) 26 #[.int .i64 0, .slice none 0 0])
  go_enter Try.func41, Try.ntmps41
  have hm : ∀ w, (method 286 87 (.agg #[.int .i64 i]) "loop.example/g00870/impl.check").run Try.prog w = .ok (96, .agg #[.int .i64 i]) w := fun w => by kernel_rfl
  go_wp2_with fail
  refine (CK.out _ (al2 _ _ _)).mono ?_
  rintro e w1 ⟨rfl, hb1⟩
  have z1 : w.heap.size + 1 < w1.heap.size := by have := hb1.size; simp at this; omega
  have X0 := Lib.hid ((P0.out.below (al1 _ _) (by simp)).below hb1 (by simp; omega))
  have X1 := Lib.hid (show BoxG w1 (w.heap.size + 1) (.int .i64 0) (.slice none 0 0) from by simpa using P1.out.below hb1 (by simp))
  have Y1 := Lib.hid (show Free w1 (w.heap.size + 1) from by simpa using F1.out.below hb1 (by simp))
  have D1 := Lib.hid (on2 _ _ hb1)
  clear hb1 P0 P1 F1 CK hm
  by_cases hb0 : b = 0
  case neg =>
    have t1 : (b != 0) = true := by simpa using hb0
    have FI := Lib.hid (show FV = (0, [], b) from by rw [FH.out]; unfold fin; rw [if_pos hb0])
    obtain ⟨s0, s1⟩ := X1.out
    have f0 := Y1.out
    unfold Free at f0
    clear hb0
    go_wp2
    refine bodyPost_ret (v := .tuple #[.agg #[.int .i64 0, .slice none 0 0], .int .i64 b]) (by simp [results, Try.results41, s0, s1, go_sem]) rfl ?_
    rw [FI.out]
    exact ResP.err (b := w.heap.size + 1) (by omega) D1.out
  have CHB := Lib.hid (CH.out hb0)
  have FI := Lib.hid (show FV = (if Wd.isP r2 (chg.map Wd.rd) = true then (r2, chg.map Wd.rd, 0) else (0, [], 3)) from by rw [FH.out]; unfold fin; rw [if_neg (by omega)])
  clear FH
  subst hb0
  obtain ⟨x0, x1⟩ := X0.out
  go_wp2_with fail
  refine (CHB.out _ D1.out).mono ?_
  rintro e w2 ⟨A2, c2, rs2, rfl, ho2, hv2, hb2⟩
  have z2 : w1.heap.size ≤ w2.heap.size := hb2.size
  have X2 := Lib.hid (X1.out.below hb2 (by omega))
  have Y2 := Lib.hid (Y1.out.below hb2 (by omega))
  have D2 := Lib.hid (D1.out.trans (hb2.mono (by omega)))
  have LC := Lib.hid (show rs2.length = chg.length from by rw [← vals_len, hv2])
  have RK := Lib.hid (RedK.start hv2)
  have O2 := Lib.hid ho2
  obtain ⟨n, hn2⟩ : ∃ n, chg.length = n := ⟨_, rfl⟩
  have LN := Lib.hid hn2
  rw [hn2] at LC hn
  rw [LC.out]
  clear X0 X1 Y1 D1 CH CHB ho2 hv2 hb2 x0 x1 hn2
  go_wp2
  obtain ⟨V, hV⟩ : ∃ V, V = w2.alloc (Obj.cells #[.int .i64 r2, .slice A2 n c2] 26) := ⟨_, rfl⟩
  have sV : w2.heap.size < V.heap.size := by rw [hV]; simp
  have C3 := Lib.hid (show BoxG V w2.heap.size (.int .i64 r2) (.slice A2 n c2) from by rw [hV]; exact BoxG.new _ _ _ _)
  have X3 := Lib.hid (show BoxG V (w.heap.size + 1) (.int .i64 0) (.slice none 0 0) from by rw [hV]; exact X2.out.below (al1 _ _) (by omega))
  have Y3 := Lib.hid (show Free V (w.heap.size + 1) from by rw [hV]; exact Y2.out.below (al1 _ _) (by omega))
  have D3 := Lib.hid (show Below w.heap.size w V from by rw [hV]; exact D2.out.alloc (by omega) _)
  have O3 := Lib.hid (show OwnS V w1.heap.size w2.heap.size A2 c2 rs2 from by rw [hV]; exact O2.out.below (al1 _ _) (Nat.le_refl _))
  rw [← hV]
  clear hV X2 Y2 D2 O2
  go_loopw [23] (fun x W => ∃ (k : Nat) (qs : List Rw), k ≤ n ∧ x = .int .i64 k ∧ RedK chg k qs ∧ OwnS W w1.heap.size W.heap.size A2 c2 qs ∧ BoxG W w2.heap.size (.int .i64 r2) (.slice A2 n c2) ∧ BoxG W (w.heap.size + 1) (.int .i64 0) (.slice none 0 0) ∧ Free W (w.heap.size + 1) ∧ Below w.heap.size w W ∧ V.heap.size ≤ W.heap.size ∧ (∀ a, A2 = some a → a.block < w2.heap.size)) (fun x _ => n - (intOf x).toNat)
  case atStart => exact ⟨0, rs2, Nat.zero_le _, rfl, RK.out, O3.out.wide (Nat.le_refl _) (by omega), C3.out, X3.out, Y3.out, D3.out, Nat.le_refl _, O3.out.top⟩
  case round =>
    obtain ⟨k, qs, hk, rfl, hrk, ho, hc, hx, hy, hd, hzz, htop⟩ := hrel
    have R := Lib.hid hrk
    have O := Lib.hid ho
    have C := Lib.hid hc
    have X := Lib.hid hx
    have Y := Lib.hid hy
    have D := Lib.hid hd
    have TP := Lib.hid htop
    have QL := Lib.hid (show qs.length = n from by rw [hrk.len, LN.out])
    clear hrk ho hc hx hy hd htop C3 X3 Y3 D3 O3 RK
    obtain ⟨q0, q1⟩ := C.out
    by_cases hlt : k < n
    · obtain ⟨g, hA, g1, g2, gc⟩ := O.out.at_ (by rw [QL.out]; omega)
      obtain ⟨gk1, gk2⟩ := gc k (by rw [QL.out]; exact hlt)
      have g3 := TP.out _ hA
      dsimp only at g3
      subst hA
      obtain ⟨row, hrow⟩ : ∃ row, qs.getD k nilRw = row := ⟨_, rfl⟩
      have hin := O.out.mine row (by rw [← hrow]; exact getD_mem (by rw [QL.out]; exact hlt))
      have hzs := R.out.at_ (by rw [LN.out]; exact hlt)
      rw [hrow] at hzs gk1
      obtain ⟨Aj, cj, zj⟩ := row
      dsimp only at hzs
      have hmem : zj ∈ chg := by
        rw [hzs, List.getD_eq_getElem?_getD, List.getElem?_eq_getElem (by rw [LN.out]; exact hlt)]
        exact List.getElem_mem _
      obtain ⟨zl, zS⟩ := SZ.out _ hmem
      have RD := Lib.hid (fun (W : World) (hI : Ints W W.heap.size Aj zj.length zj) => reduced_impl Aj zj.length cj zj W hI zl zS)
      have HJ := Lib.hid (show Ints wr.drew wr.drew.heap.size Aj zj.length zj from hin.mine.ints)
      have SETK := Lib.hid (fun (rw : Rw) (h : rw.zs = Wd.rd zj) => R.out.set_ (by rw [LN.out]; exact hlt) (show rw.zs = Wd.rd (chg.getD k []) by rw [← hzs]; exact h))
      obtain ⟨zo, hzo⟩ : ∃ zo, Wd.rd zj = zo := ⟨_, rfl⟩
      rw [hzo] at RD SETK
      have GK1 := Lib.hid gk1
      have GK2 := Lib.hid gk2
      dsimp only [Rw.sv] at gk1
      have i0 : (0 : Int) ≤ (k : Int) := by omega
      have i1 : (k : Int) < (n : Int) := by omega
      have n1 : ¬ g = w2.heap.size := by omega
      have n2 : ¬ w2.heap.size = g := by omega
      clear gc hin hzs hmem hrow hzo zS
      go_wp2_with fail
      go_region_held3 (fun W => W.cell? ⟨w2.heap.size, 1, none⟩ = some (.slice (some ⟨g, 0, none⟩) n c2)) (go_keep)
        (first
          | (go_at_call 61; (with_reducible refine (RD.out _ HJ.out).mono ?_); rintro e w6 ⟨R6, t6, rfl, hc6, hm6, hb6'⟩; have hb6 := undrew hb6'; have B6 := Lib.hid hb6; have z6 := hb6.size; have M6 := Lib.hid (show Rw.In ⟨R6, t6, zo⟩ w6 wr.heap.size w6.heap.size from ⟨hc6.1, hc6.2, hm6⟩); obtain ⟨e0, e1⟩ := C.out.below hb6 (by omega); have e6 := (hb6.cell (p := ⟨g, k, none⟩) g2).trans GK1.out; have e7 := (hb6.frozen (p := ⟨g, k, none⟩) g2).trans GK2.out; clear hb6 hb6' hc6 hm6))
      all_goals
        have O6 := Lib.hid (((O.out.below B6.out (Nat.le_refl _)).wide (Nat.le_refl _) z6).set_ k ⟨R6, t6, zo⟩ (M6.out.wide (by omega) (Nat.le_refl _)) (M6.out.off (.inl g2)) (fun r' hr' => Apart.of_in M6.out (O.out.mine r' hr') (.inr (Nat.le_refl _))))
        have CX := Lib.hid (C.out.below B6.out (by omega))
        have XX := Lib.hid (X.out.below B6.out (by omega))
        have YX := Lib.hid (Y.out.below B6.out (by omega))
        have DX := Lib.hid (D.out.trans (B6.out.mono (by omega)))
        clear gk1 gk2 e0 e1 e6 e7 q0 q1
        go_wp2
        go_roundw
        case rel => exact ⟨k + 1, _, by omega, by go_num, SETK.out ⟨R6, t6, zo⟩ rfl, O6.out.wide (Nat.le_refl _) (by simp [World.setCell]), CX.out.farA (p := ⟨g, k, none⟩) n2 _, XX.out.farA (p := ⟨g, k, none⟩) (by dsimp only; omega) _, YX.out.setA _ _, DX.out.setCell (by dsimp only; omega) _, by simp [World.setCell]; omega, TP.out⟩
        case measure => simp [intOf]; omega
    · obtain rfl : k = n := by omega
      have VF := Lib.hid (R.out.all LN.out)
      have IP := Lib.hid (isPres_impl r2 A2 c2 qs wr O.out.rd (by rw [QL.out]; omega) (fun q hq => by
        obtain ⟨j, hj, rfl⟩ := List.mem_iff_getElem.1 hq
        have h2 : qs[j].zs ∈ vals qs := List.mem_map_of_mem (List.getElem_mem hj)
        rw [VF.out] at h2
        obtain ⟨z, hz1, hz2⟩ := List.mem_map.1 h2
        rw [← hz2]
        exact Nat.le_trans (Wd.rd_len z) (SZ.out z hz1).1))
      rw [QL.out, VF.out] at IP
      rcases hres : Wd.isP r2 (chg.map Wd.rd) with _ | _
      · rw [hres] at IP
        have FJ := Lib.hid (show FV = (0, [], 3) from by rw [FI.out, hres]; rfl)
        clear hres FI
        go_wp2_with fail
        refine IP.out.mono ?_
        rintro e w4 ⟨rfl, hb4⟩
        have z4 := hb4.size
        obtain ⟨s0, s1⟩ := X.out.below hb4 (by omega)
        have f0 := Y.out.below hb4 (by omega)
        have D4 := Lib.hid (D.out.trans (hb4.mono (by omega)))
        unfold Free at f0
        clear hb4 q0 q1
        go_wp2
        refine bodyPost_ret (v := .tuple #[.agg #[.int .i64 0, .slice none 0 0], .int .i64 3]) (by simp [results, Try.results41, s0, s1, go_sem]) rfl ?_
        rw [FJ.out]
        exact ResP.err (b := w.heap.size + 1) (by omega) D4.out
      · rw [hres] at IP
        have FJ := Lib.hid (show FV = (r2, chg.map Wd.rd, 0) from by rw [FI.out, hres]; rfl)
        clear hres FI
        go_wp2_with fail
        refine IP.out.mono ?_
        rintro e w4 ⟨rfl, hb4⟩
        have z4 := hb4.size
        obtain ⟨s0, s1⟩ := X.out.below hb4 (by omega)
        have f0 := Y.out.below hb4 (by omega)
        obtain ⟨p0, p1⟩ := C.out.below hb4 (by omega)
        have D4 := Lib.hid (D.out.trans (hb4.mono (by omega)))
        have O4 := Lib.hid (O.out.below hb4 (Nat.le_refl _))
        unfold Free at f0
        clear hb4 q0 q1
        go_wp2
        refine bodyPost_ret (v := .tuple #[.agg #[.int .i64 r2, .slice A2 k c2], .int .i64 0]) (by simp [results, Try.results41, s0, s1, go_sem]) rfl ?_
        rw [FJ.out]
        refine ⟨A2, c2, qs, by rw [QL.out], ?_, VF.out, (D4.out.setCell (by dsimp only; omega) _).setCell (by dsimp only; omega) _⟩
        exact ((O4.out.far (p := ⟨w.heap.size + 1, 0, none⟩) (.inl (by dsimp only; omega)) _).far (p := ⟨w.heap.size + 1, 1, none⟩) (.inl (by dsimp only; omega)) _).wide (by omega) (by simp [World.setCell]; omega)

set_option maxRecDepth 100000 in
set_option maxHeartbeats 16000000 in
theorem after_mul (i j : Int) (r r2 b : Int) (A : Option Addr) (c : Nat) (rs : List Rw) (chg : List (List Int)) (w : World) (hck : ∀ W, Below w.heap.size w W → Calls Try.prog 97 #[.agg #[.int .i64 i, .int .i64 j], .agg #[.int .i64 r, .slice A rs.length c]] W fun e w' => e = .returned (.int .i64 b) ∧ Below W.heap.size W w')
    (hch : b = 0 → ∀ W, Below w.heap.size w W → Calls Try.prog 60 #[.agg #[.int .i64 r, .slice A rs.length c], .iface 89 (.agg #[.int .i64 i, .int .i64 j])] W (ResPr W r2 chg)) (hsz : ∀ z ∈ chg, z.length ≤ 1048576 ∧ Wd.Sm z) (hn : chg.length ≤ 1000) :
    Calls Try.prog 41 #[.agg #[.int .i64 r, .slice A rs.length c], .iface 89 (.agg #[.int .i64 i, .int .i64 j])] w (ResP w (fin b r2 chg).1 (fin b r2 chg).2.1 (fin b r2 chg).2.2) := by
  have CK := Lib.hid hck
  have CH := Lib.hid hch
  have SZ := Lib.hid hsz
  clear hck hch hsz
  obtain ⟨FV, hFV⟩ : ∃ v, v = fin b r2 chg := ⟨_, rfl⟩
  rw [← hFV]
  have FH := Lib.hid hFV
  clear hFV
  have P1 := Lib.hid (BoxG.new (w.alloc (Obj.cells #[.int .i64 r, .slice A rs.length c] 26)) 26 (.int .i64 0) (.slice none 0 0))
  have P0 := Lib.hid (BoxG.new w 26 (.int .i64 r) (.slice A rs.length c))
  have F1 := Lib.hid (Free.new (w.alloc (Obj.cells #[.int .i64 r, .slice A rs.length c] 26)) 26 #[.int .i64 0, .slice none 0 0])
  go_enter Try.func41, Try.ntmps41
  have hm : ∀ w, (method 286 89 (.agg #[.int .i64 i, .int .i64 j]) "loop.example/g00870/impl.check").run Try.prog w = .ok (97, .agg #[.int .i64 i, .int .i64 j]) w := fun w => by kernel_rfl
  go_wp2_with fail
  refine (CK.out _ (al2 _ _ _)).mono ?_
  rintro e w1 ⟨rfl, hb1⟩
  have z1 : w.heap.size + 1 < w1.heap.size := by have := hb1.size; simp at this; omega
  have X0 := Lib.hid ((P0.out.below (al1 _ _) (by simp)).below hb1 (by simp; omega))
  have X1 := Lib.hid (show BoxG w1 (w.heap.size + 1) (.int .i64 0) (.slice none 0 0) from by simpa using P1.out.below hb1 (by simp))
  have Y1 := Lib.hid (show Free w1 (w.heap.size + 1) from by simpa using F1.out.below hb1 (by simp))
  have D1 := Lib.hid (on2 _ _ hb1)
  clear hb1 P0 P1 F1 CK hm
  by_cases hb0 : b = 0
  case neg =>
    have t1 : (b != 0) = true := by simpa using hb0
    have FI := Lib.hid (show FV = (0, [], b) from by rw [FH.out]; unfold fin; rw [if_pos hb0])
    obtain ⟨s0, s1⟩ := X1.out
    have f0 := Y1.out
    unfold Free at f0
    clear hb0
    go_wp2
    refine bodyPost_ret (v := .tuple #[.agg #[.int .i64 0, .slice none 0 0], .int .i64 b]) (by simp [results, Try.results41, s0, s1, go_sem]) rfl ?_
    rw [FI.out]
    exact ResP.err (b := w.heap.size + 1) (by omega) D1.out
  have CHB := Lib.hid (CH.out hb0)
  have FI := Lib.hid (show FV = (if Wd.isP r2 (chg.map Wd.rd) = true then (r2, chg.map Wd.rd, 0) else (0, [], 3)) from by rw [FH.out]; unfold fin; rw [if_neg (by omega)])
  clear FH
  subst hb0
  obtain ⟨x0, x1⟩ := X0.out
  go_wp2_with fail
  refine (CHB.out _ D1.out).mono ?_
  rintro e w2 ⟨A2, c2, rs2, rfl, ho2, hv2, hb2⟩
  have z2 : w1.heap.size ≤ w2.heap.size := hb2.size
  have X2 := Lib.hid (X1.out.below hb2 (by omega))
  have Y2 := Lib.hid (Y1.out.below hb2 (by omega))
  have D2 := Lib.hid (D1.out.trans (hb2.mono (by omega)))
  have LC := Lib.hid (show rs2.length = chg.length from by rw [← vals_len, hv2])
  have RK := Lib.hid (RedK.start hv2)
  have O2 := Lib.hid ho2
  obtain ⟨n, hn2⟩ : ∃ n, chg.length = n := ⟨_, rfl⟩
  have LN := Lib.hid hn2
  rw [hn2] at LC hn
  rw [LC.out]
  clear X0 X1 Y1 D1 CH CHB ho2 hv2 hb2 x0 x1 hn2
  go_wp2
  obtain ⟨V, hV⟩ : ∃ V, V = w2.alloc (Obj.cells #[.int .i64 r2, .slice A2 n c2] 26) := ⟨_, rfl⟩
  have sV : w2.heap.size < V.heap.size := by rw [hV]; simp
  have C3 := Lib.hid (show BoxG V w2.heap.size (.int .i64 r2) (.slice A2 n c2) from by rw [hV]; exact BoxG.new _ _ _ _)
  have X3 := Lib.hid (show BoxG V (w.heap.size + 1) (.int .i64 0) (.slice none 0 0) from by rw [hV]; exact X2.out.below (al1 _ _) (by omega))
  have Y3 := Lib.hid (show Free V (w.heap.size + 1) from by rw [hV]; exact Y2.out.below (al1 _ _) (by omega))
  have D3 := Lib.hid (show Below w.heap.size w V from by rw [hV]; exact D2.out.alloc (by omega) _)
  have O3 := Lib.hid (show OwnS V w1.heap.size w2.heap.size A2 c2 rs2 from by rw [hV]; exact O2.out.below (al1 _ _) (Nat.le_refl _))
  rw [← hV]
  clear hV X2 Y2 D2 O2
  go_loopw [23] (fun x W => ∃ (k : Nat) (qs : List Rw), k ≤ n ∧ x = .int .i64 k ∧ RedK chg k qs ∧ OwnS W w1.heap.size W.heap.size A2 c2 qs ∧ BoxG W w2.heap.size (.int .i64 r2) (.slice A2 n c2) ∧ BoxG W (w.heap.size + 1) (.int .i64 0) (.slice none 0 0) ∧ Free W (w.heap.size + 1) ∧ Below w.heap.size w W ∧ V.heap.size ≤ W.heap.size ∧ (∀ a, A2 = some a → a.block < w2.heap.size)) (fun x _ => n - (intOf x).toNat)
  case atStart => exact ⟨0, rs2, Nat.zero_le _, rfl, RK.out, O3.out.wide (Nat.le_refl _) (by omega), C3.out, X3.out, Y3.out, D3.out, Nat.le_refl _, O3.out.top⟩
  case round =>
    obtain ⟨k, qs, hk, rfl, hrk, ho, hc, hx, hy, hd, hzz, htop⟩ := hrel
    have R := Lib.hid hrk
    have O := Lib.hid ho
    have C := Lib.hid hc
    have X := Lib.hid hx
    have Y := Lib.hid hy
    have D := Lib.hid hd
    have TP := Lib.hid htop
    have QL := Lib.hid (show qs.length = n from by rw [hrk.len, LN.out])
    clear hrk ho hc hx hy hd htop C3 X3 Y3 D3 O3 RK
    obtain ⟨q0, q1⟩ := C.out
    by_cases hlt : k < n
    · obtain ⟨g, hA, g1, g2, gc⟩ := O.out.at_ (by rw [QL.out]; omega)
      obtain ⟨gk1, gk2⟩ := gc k (by rw [QL.out]; exact hlt)
      have g3 := TP.out _ hA
      dsimp only at g3
      subst hA
      obtain ⟨row, hrow⟩ : ∃ row, qs.getD k nilRw = row := ⟨_, rfl⟩
      have hin := O.out.mine row (by rw [← hrow]; exact getD_mem (by rw [QL.out]; exact hlt))
      have hzs := R.out.at_ (by rw [LN.out]; exact hlt)
      rw [hrow] at hzs gk1
      obtain ⟨Aj, cj, zj⟩ := row
      dsimp only at hzs
      have hmem : zj ∈ chg := by
        rw [hzs, List.getD_eq_getElem?_getD, List.getElem?_eq_getElem (by rw [LN.out]; exact hlt)]
        exact List.getElem_mem _
      obtain ⟨zl, zS⟩ := SZ.out _ hmem
      have RD := Lib.hid (fun (W : World) (hI : Ints W W.heap.size Aj zj.length zj) => reduced_impl Aj zj.length cj zj W hI zl zS)
      have HJ := Lib.hid (show Ints wr.drew wr.drew.heap.size Aj zj.length zj from hin.mine.ints)
      have SETK := Lib.hid (fun (rw : Rw) (h : rw.zs = Wd.rd zj) => R.out.set_ (by rw [LN.out]; exact hlt) (show rw.zs = Wd.rd (chg.getD k []) by rw [← hzs]; exact h))
      obtain ⟨zo, hzo⟩ : ∃ zo, Wd.rd zj = zo := ⟨_, rfl⟩
      rw [hzo] at RD SETK
      have GK1 := Lib.hid gk1
      have GK2 := Lib.hid gk2
      dsimp only [Rw.sv] at gk1
      have i0 : (0 : Int) ≤ (k : Int) := by omega
      have i1 : (k : Int) < (n : Int) := by omega
      have n1 : ¬ g = w2.heap.size := by omega
      have n2 : ¬ w2.heap.size = g := by omega
      clear gc hin hzs hmem hrow hzo zS
      go_wp2_with fail
      go_region_held3 (fun W => W.cell? ⟨w2.heap.size, 1, none⟩ = some (.slice (some ⟨g, 0, none⟩) n c2)) (go_keep)
        (first
          | (go_at_call 61; (with_reducible refine (RD.out _ HJ.out).mono ?_); rintro e w6 ⟨R6, t6, rfl, hc6, hm6, hb6'⟩; have hb6 := undrew hb6'; have B6 := Lib.hid hb6; have z6 := hb6.size; have M6 := Lib.hid (show Rw.In ⟨R6, t6, zo⟩ w6 wr.heap.size w6.heap.size from ⟨hc6.1, hc6.2, hm6⟩); obtain ⟨e0, e1⟩ := C.out.below hb6 (by omega); have e6 := (hb6.cell (p := ⟨g, k, none⟩) g2).trans GK1.out; have e7 := (hb6.frozen (p := ⟨g, k, none⟩) g2).trans GK2.out; clear hb6 hb6' hc6 hm6))
      all_goals
        have O6 := Lib.hid (((O.out.below B6.out (Nat.le_refl _)).wide (Nat.le_refl _) z6).set_ k ⟨R6, t6, zo⟩ (M6.out.wide (by omega) (Nat.le_refl _)) (M6.out.off (.inl g2)) (fun r' hr' => Apart.of_in M6.out (O.out.mine r' hr') (.inr (Nat.le_refl _))))
        have CX := Lib.hid (C.out.below B6.out (by omega))
        have XX := Lib.hid (X.out.below B6.out (by omega))
        have YX := Lib.hid (Y.out.below B6.out (by omega))
        have DX := Lib.hid (D.out.trans (B6.out.mono (by omega)))
        clear gk1 gk2 e0 e1 e6 e7 q0 q1
        go_wp2
        go_roundw
        case rel => exact ⟨k + 1, _, by omega, by go_num, SETK.out ⟨R6, t6, zo⟩ rfl, O6.out.wide (Nat.le_refl _) (by simp [World.setCell]), CX.out.farA (p := ⟨g, k, none⟩) n2 _, XX.out.farA (p := ⟨g, k, none⟩) (by dsimp only; omega) _, YX.out.setA _ _, DX.out.setCell (by dsimp only; omega) _, by simp [World.setCell]; omega, TP.out⟩
        case measure => simp [intOf]; omega
    · obtain rfl : k = n := by omega
      have VF := Lib.hid (R.out.all LN.out)
      have IP := Lib.hid (isPres_impl r2 A2 c2 qs wr O.out.rd (by rw [QL.out]; omega) (fun q hq => by
        obtain ⟨j, hj, rfl⟩ := List.mem_iff_getElem.1 hq
        have h2 : qs[j].zs ∈ vals qs := List.mem_map_of_mem (List.getElem_mem hj)
        rw [VF.out] at h2
        obtain ⟨z, hz1, hz2⟩ := List.mem_map.1 h2
        rw [← hz2]
        exact Nat.le_trans (Wd.rd_len z) (SZ.out z hz1).1))
      rw [QL.out, VF.out] at IP
      rcases hres : Wd.isP r2 (chg.map Wd.rd) with _ | _
      · rw [hres] at IP
        have FJ := Lib.hid (show FV = (0, [], 3) from by rw [FI.out, hres]; rfl)
        clear hres FI
        go_wp2_with fail
        refine IP.out.mono ?_
        rintro e w4 ⟨rfl, hb4⟩
        have z4 := hb4.size
        obtain ⟨s0, s1⟩ := X.out.below hb4 (by omega)
        have f0 := Y.out.below hb4 (by omega)
        have D4 := Lib.hid (D.out.trans (hb4.mono (by omega)))
        unfold Free at f0
        clear hb4 q0 q1
        go_wp2
        refine bodyPost_ret (v := .tuple #[.agg #[.int .i64 0, .slice none 0 0], .int .i64 3]) (by simp [results, Try.results41, s0, s1, go_sem]) rfl ?_
        rw [FJ.out]
        exact ResP.err (b := w.heap.size + 1) (by omega) D4.out
      · rw [hres] at IP
        have FJ := Lib.hid (show FV = (r2, chg.map Wd.rd, 0) from by rw [FI.out, hres]; rfl)
        clear hres FI
        go_wp2_with fail
        refine IP.out.mono ?_
        rintro e w4 ⟨rfl, hb4⟩
        have z4 := hb4.size
        obtain ⟨s0, s1⟩ := X.out.below hb4 (by omega)
        have f0 := Y.out.below hb4 (by omega)
        obtain ⟨p0, p1⟩ := C.out.below hb4 (by omega)
        have D4 := Lib.hid (D.out.trans (hb4.mono (by omega)))
        have O4 := Lib.hid (O.out.below hb4 (Nat.le_refl _))
        unfold Free at f0
        clear hb4 q0 q1
        go_wp2
        refine bodyPost_ret (v := .tuple #[.agg #[.int .i64 r2, .slice A2 k c2], .int .i64 0]) (by simp [results, Try.results41, s0, s1, go_sem]) rfl ?_
        rw [FJ.out]
        refine ⟨A2, c2, qs, by rw [QL.out], ?_, VF.out, (D4.out.setCell (by dsimp only; omega) _).setCell (by dsimp only; omega) _⟩
        exact ((O4.out.far (p := ⟨w.heap.size + 1, 0, none⟩) (.inl (by dsimp only; omega)) _).far (p := ⟨w.heap.size + 1, 1, none⟩) (.inl (by dsimp only; omega)) _).wide (by omega) (by simp [World.setCell]; omega)

set_option maxRecDepth 100000 in
set_option maxHeartbeats 16000000 in
theorem after_rem (i g : Int) (r r2 b : Int) (A : Option Addr) (c : Nat) (rs : List Rw) (chg : List (List Int)) (w : World) (hck : ∀ W, Below w.heap.size w W → Calls Try.prog 94 #[.agg #[.int .i64 i, .int .i64 g], .agg #[.int .i64 r, .slice A rs.length c]] W fun e w' => e = .returned (.int .i64 b) ∧ Below W.heap.size W w')
    (hch : b = 0 → ∀ W, Below w.heap.size w W → Calls Try.prog 60 #[.agg #[.int .i64 r, .slice A rs.length c], .iface 83 (.agg #[.int .i64 i, .int .i64 g])] W (ResPr W r2 chg)) (hsz : ∀ z ∈ chg, z.length ≤ 1048576 ∧ Wd.Sm z) (hn : chg.length ≤ 1000) :
    Calls Try.prog 41 #[.agg #[.int .i64 r, .slice A rs.length c], .iface 83 (.agg #[.int .i64 i, .int .i64 g])] w (ResP w (fin b r2 chg).1 (fin b r2 chg).2.1 (fin b r2 chg).2.2) := by
  have CK := Lib.hid hck
  have CH := Lib.hid hch
  have SZ := Lib.hid hsz
  clear hck hch hsz
  obtain ⟨FV, hFV⟩ : ∃ v, v = fin b r2 chg := ⟨_, rfl⟩
  rw [← hFV]
  have FH := Lib.hid hFV
  clear hFV
  have P1 := Lib.hid (BoxG.new (w.alloc (Obj.cells #[.int .i64 r, .slice A rs.length c] 26)) 26 (.int .i64 0) (.slice none 0 0))
  have P0 := Lib.hid (BoxG.new w 26 (.int .i64 r) (.slice A rs.length c))
  have F1 := Lib.hid (Free.new (w.alloc (Obj.cells #[.int .i64 r, .slice A rs.length c] 26)) 26 #[.int .i64 0, .slice none 0 0])
  go_enter Try.func41, Try.ntmps41
  have hm : ∀ w, (method 286 83 (.agg #[.int .i64 i, .int .i64 g]) "loop.example/g00870/impl.check").run Try.prog w = .ok (94, .agg #[.int .i64 i, .int .i64 g]) w := fun w => by kernel_rfl
  go_wp2_with fail
  refine (CK.out _ (al2 _ _ _)).mono ?_
  rintro e w1 ⟨rfl, hb1⟩
  have z1 : w.heap.size + 1 < w1.heap.size := by have := hb1.size; simp at this; omega
  have X0 := Lib.hid ((P0.out.below (al1 _ _) (by simp)).below hb1 (by simp; omega))
  have X1 := Lib.hid (show BoxG w1 (w.heap.size + 1) (.int .i64 0) (.slice none 0 0) from by simpa using P1.out.below hb1 (by simp))
  have Y1 := Lib.hid (show Free w1 (w.heap.size + 1) from by simpa using F1.out.below hb1 (by simp))
  have D1 := Lib.hid (on2 _ _ hb1)
  clear hb1 P0 P1 F1 CK hm
  by_cases hb0 : b = 0
  case neg =>
    have t1 : (b != 0) = true := by simpa using hb0
    have FI := Lib.hid (show FV = (0, [], b) from by rw [FH.out]; unfold fin; rw [if_pos hb0])
    obtain ⟨s0, s1⟩ := X1.out
    have f0 := Y1.out
    unfold Free at f0
    clear hb0
    go_wp2
    refine bodyPost_ret (v := .tuple #[.agg #[.int .i64 0, .slice none 0 0], .int .i64 b]) (by simp [results, Try.results41, s0, s1, go_sem]) rfl ?_
    rw [FI.out]
    exact ResP.err (b := w.heap.size + 1) (by omega) D1.out
  have CHB := Lib.hid (CH.out hb0)
  have FI := Lib.hid (show FV = (if Wd.isP r2 (chg.map Wd.rd) = true then (r2, chg.map Wd.rd, 0) else (0, [], 3)) from by rw [FH.out]; unfold fin; rw [if_neg (by omega)])
  clear FH
  subst hb0
  obtain ⟨x0, x1⟩ := X0.out
  go_wp2_with fail
  refine (CHB.out _ D1.out).mono ?_
  rintro e w2 ⟨A2, c2, rs2, rfl, ho2, hv2, hb2⟩
  have z2 : w1.heap.size ≤ w2.heap.size := hb2.size
  have X2 := Lib.hid (X1.out.below hb2 (by omega))
  have Y2 := Lib.hid (Y1.out.below hb2 (by omega))
  have D2 := Lib.hid (D1.out.trans (hb2.mono (by omega)))
  have LC := Lib.hid (show rs2.length = chg.length from by rw [← vals_len, hv2])
  have RK := Lib.hid (RedK.start hv2)
  have O2 := Lib.hid ho2
  obtain ⟨n, hn2⟩ : ∃ n, chg.length = n := ⟨_, rfl⟩
  have LN := Lib.hid hn2
  rw [hn2] at LC hn
  rw [LC.out]
  clear X0 X1 Y1 D1 CH CHB ho2 hv2 hb2 x0 x1 hn2
  go_wp2
  obtain ⟨V, hV⟩ : ∃ V, V = w2.alloc (Obj.cells #[.int .i64 r2, .slice A2 n c2] 26) := ⟨_, rfl⟩
  have sV : w2.heap.size < V.heap.size := by rw [hV]; simp
  have C3 := Lib.hid (show BoxG V w2.heap.size (.int .i64 r2) (.slice A2 n c2) from by rw [hV]; exact BoxG.new _ _ _ _)
  have X3 := Lib.hid (show BoxG V (w.heap.size + 1) (.int .i64 0) (.slice none 0 0) from by rw [hV]; exact X2.out.below (al1 _ _) (by omega))
  have Y3 := Lib.hid (show Free V (w.heap.size + 1) from by rw [hV]; exact Y2.out.below (al1 _ _) (by omega))
  have D3 := Lib.hid (show Below w.heap.size w V from by rw [hV]; exact D2.out.alloc (by omega) _)
  have O3 := Lib.hid (show OwnS V w1.heap.size w2.heap.size A2 c2 rs2 from by rw [hV]; exact O2.out.below (al1 _ _) (Nat.le_refl _))
  rw [← hV]
  clear hV X2 Y2 D2 O2
  go_loopw [23] (fun x W => ∃ (k : Nat) (qs : List Rw), k ≤ n ∧ x = .int .i64 k ∧ RedK chg k qs ∧ OwnS W w1.heap.size W.heap.size A2 c2 qs ∧ BoxG W w2.heap.size (.int .i64 r2) (.slice A2 n c2) ∧ BoxG W (w.heap.size + 1) (.int .i64 0) (.slice none 0 0) ∧ Free W (w.heap.size + 1) ∧ Below w.heap.size w W ∧ V.heap.size ≤ W.heap.size ∧ (∀ a, A2 = some a → a.block < w2.heap.size)) (fun x _ => n - (intOf x).toNat)
  case atStart => exact ⟨0, rs2, Nat.zero_le _, rfl, RK.out, O3.out.wide (Nat.le_refl _) (by omega), C3.out, X3.out, Y3.out, D3.out, Nat.le_refl _, O3.out.top⟩
  case round =>
    obtain ⟨k, qs, hk, rfl, hrk, ho, hc, hx, hy, hd, hzz, htop⟩ := hrel
    have R := Lib.hid hrk
    have O := Lib.hid ho
    have C := Lib.hid hc
    have X := Lib.hid hx
    have Y := Lib.hid hy
    have D := Lib.hid hd
    have TP := Lib.hid htop
    have QL := Lib.hid (show qs.length = n from by rw [hrk.len, LN.out])
    clear hrk ho hc hx hy hd htop C3 X3 Y3 D3 O3 RK
    obtain ⟨q0, q1⟩ := C.out
    by_cases hlt : k < n
    · obtain ⟨g, hA, g1, g2, gc⟩ := O.out.at_ (by rw [QL.out]; omega)
      obtain ⟨gk1, gk2⟩ := gc k (by rw [QL.out]; exact hlt)
      have g3 := TP.out _ hA
      dsimp only at g3
      subst hA
      obtain ⟨row, hrow⟩ : ∃ row, qs.getD k nilRw = row := ⟨_, rfl⟩
      have hin := O.out.mine row (by rw [← hrow]; exact getD_mem (by rw [QL.out]; exact hlt))
      have hzs := R.out.at_ (by rw [LN.out]; exact hlt)
      rw [hrow] at hzs gk1
      obtain ⟨Aj, cj, zj⟩ := row
      dsimp only at hzs
      have hmem : zj ∈ chg := by
        rw [hzs, List.getD_eq_getElem?_getD, List.getElem?_eq_getElem (by rw [LN.out]; exact hlt)]
        exact List.getElem_mem _
      obtain ⟨zl, zS⟩ := SZ.out _ hmem
      have RD := Lib.hid (fun (W : World) (hI : Ints W W.heap.size Aj zj.length zj) => reduced_impl Aj zj.length cj zj W hI zl zS)
      have HJ := Lib.hid (show Ints wr.drew wr.drew.heap.size Aj zj.length zj from hin.mine.ints)
      have SETK := Lib.hid (fun (rw : Rw) (h : rw.zs = Wd.rd zj) => R.out.set_ (by rw [LN.out]; exact hlt) (show rw.zs = Wd.rd (chg.getD k []) by rw [← hzs]; exact h))
      obtain ⟨zo, hzo⟩ : ∃ zo, Wd.rd zj = zo := ⟨_, rfl⟩
      rw [hzo] at RD SETK
      have GK1 := Lib.hid gk1
      have GK2 := Lib.hid gk2
      dsimp only [Rw.sv] at gk1
      have i0 : (0 : Int) ≤ (k : Int) := by omega
      have i1 : (k : Int) < (n : Int) := by omega
      have n1 : ¬ g = w2.heap.size := by omega
      have n2 : ¬ w2.heap.size = g := by omega
      clear gc hin hzs hmem hrow hzo zS
      go_wp2_with fail
      go_region_held3 (fun W => W.cell? ⟨w2.heap.size, 1, none⟩ = some (.slice (some ⟨g, 0, none⟩) n c2)) (go_keep)
        (first
          | (go_at_call 61; (with_reducible refine (RD.out _ HJ.out).mono ?_); rintro e w6 ⟨R6, t6, rfl, hc6, hm6, hb6'⟩; have hb6 := undrew hb6'; have B6 := Lib.hid hb6; have z6 := hb6.size; have M6 := Lib.hid (show Rw.In ⟨R6, t6, zo⟩ w6 wr.heap.size w6.heap.size from ⟨hc6.1, hc6.2, hm6⟩); obtain ⟨e0, e1⟩ := C.out.below hb6 (by omega); have e6 := (hb6.cell (p := ⟨g, k, none⟩) g2).trans GK1.out; have e7 := (hb6.frozen (p := ⟨g, k, none⟩) g2).trans GK2.out; clear hb6 hb6' hc6 hm6))
      all_goals
        have O6 := Lib.hid (((O.out.below B6.out (Nat.le_refl _)).wide (Nat.le_refl _) z6).set_ k ⟨R6, t6, zo⟩ (M6.out.wide (by omega) (Nat.le_refl _)) (M6.out.off (.inl g2)) (fun r' hr' => Apart.of_in M6.out (O.out.mine r' hr') (.inr (Nat.le_refl _))))
        have CX := Lib.hid (C.out.below B6.out (by omega))
        have XX := Lib.hid (X.out.below B6.out (by omega))
        have YX := Lib.hid (Y.out.below B6.out (by omega))
        have DX := Lib.hid (D.out.trans (B6.out.mono (by omega)))
        clear gk1 gk2 e0 e1 e6 e7 q0 q1
        go_wp2
        go_roundw
        case rel => exact ⟨k + 1, _, by omega, by go_num, SETK.out ⟨R6, t6, zo⟩ rfl, O6.out.wide (Nat.le_refl _) (by simp [World.setCell]), CX.out.farA (p := ⟨g, k, none⟩) n2 _, XX.out.farA (p := ⟨g, k, none⟩) (by dsimp only; omega) _, YX.out.setA _ _, DX.out.setCell (by dsimp only; omega) _, by simp [World.setCell]; omega, TP.out⟩
        case measure => simp [intOf]; omega
    · obtain rfl : k = n := by omega
      have VF := Lib.hid (R.out.all LN.out)
      have IP := Lib.hid (isPres_impl r2 A2 c2 qs wr O.out.rd (by rw [QL.out]; omega) (fun q hq => by
        obtain ⟨j, hj, rfl⟩ := List.mem_iff_getElem.1 hq
        have h2 : qs[j].zs ∈ vals qs := List.mem_map_of_mem (List.getElem_mem hj)
        rw [VF.out] at h2
        obtain ⟨z, hz1, hz2⟩ := List.mem_map.1 h2
        rw [← hz2]
        exact Nat.le_trans (Wd.rd_len z) (SZ.out z hz1).1))
      rw [QL.out, VF.out] at IP
      rcases hres : Wd.isP r2 (chg.map Wd.rd) with _ | _
      · rw [hres] at IP
        have FJ := Lib.hid (show FV = (0, [], 3) from by rw [FI.out, hres]; rfl)
        clear hres FI
        go_wp2_with fail
        refine IP.out.mono ?_
        rintro e w4 ⟨rfl, hb4⟩
        have z4 := hb4.size
        obtain ⟨s0, s1⟩ := X.out.below hb4 (by omega)
        have f0 := Y.out.below hb4 (by omega)
        have D4 := Lib.hid (D.out.trans (hb4.mono (by omega)))
        unfold Free at f0
        clear hb4 q0 q1
        go_wp2
        refine bodyPost_ret (v := .tuple #[.agg #[.int .i64 0, .slice none 0 0], .int .i64 3]) (by simp [results, Try.results41, s0, s1, go_sem]) rfl ?_
        rw [FJ.out]
        exact ResP.err (b := w.heap.size + 1) (by omega) D4.out
      · rw [hres] at IP
        have FJ := Lib.hid (show FV = (r2, chg.map Wd.rd, 0) from by rw [FI.out, hres]; rfl)
        clear hres FI
        go_wp2_with fail
        refine IP.out.mono ?_
        rintro e w4 ⟨rfl, hb4⟩
        have z4 := hb4.size
        obtain ⟨s0, s1⟩ := X.out.below hb4 (by omega)
        have f0 := Y.out.below hb4 (by omega)
        obtain ⟨p0, p1⟩ := C.out.below hb4 (by omega)
        have D4 := Lib.hid (D.out.trans (hb4.mono (by omega)))
        have O4 := Lib.hid (O.out.below hb4 (Nat.le_refl _))
        unfold Free at f0
        clear hb4 q0 q1
        go_wp2
        refine bodyPost_ret (v := .tuple #[.agg #[.int .i64 r2, .slice A2 k c2], .int .i64 0]) (by simp [results, Try.results41, s0, s1, go_sem]) rfl ?_
        rw [FJ.out]
        refine ⟨A2, c2, qs, by rw [QL.out], ?_, VF.out, (D4.out.setCell (by dsimp only; omega) _).setCell (by dsimp only; omega) _⟩
        exact ((O4.out.far (p := ⟨w.heap.size + 1, 0, none⟩) (.inl (by dsimp only; omega)) _).far (p := ⟨w.heap.size + 1, 1, none⟩) (.inl (by dsimp only; omega)) _).wide (by omega) (by simp [World.setCell]; omega)

set_option maxRecDepth 100000 in
set_option maxHeartbeats 16000000 in
theorem after_add (Aw : Option Addr) (nw cw : Nat) (r r2 b : Int) (A : Option Addr) (c : Nat) (rs : List Rw) (chg : List (List Int)) (w : World) (hck : ∀ W, Below w.heap.size w W → Calls Try.prog 98 #[.agg #[.slice Aw nw cw], .agg #[.int .i64 r, .slice A rs.length c]] W fun e w' => e = .returned (.int .i64 b) ∧ Below W.heap.size W w')
    (hch : b = 0 → ∀ W, Below w.heap.size w W → Calls Try.prog 60 #[.agg #[.int .i64 r, .slice A rs.length c], .iface 91 (.agg #[.slice Aw nw cw])] W (ResPr W r2 chg)) (hsz : ∀ z ∈ chg, z.length ≤ 1048576 ∧ Wd.Sm z) (hn : chg.length ≤ 1000) :
    Calls Try.prog 41 #[.agg #[.int .i64 r, .slice A rs.length c], .iface 91 (.agg #[.slice Aw nw cw])] w (ResP w (fin b r2 chg).1 (fin b r2 chg).2.1 (fin b r2 chg).2.2) := by
  have CK := Lib.hid hck
  have CH := Lib.hid hch
  have SZ := Lib.hid hsz
  clear hck hch hsz
  obtain ⟨FV, hFV⟩ : ∃ v, v = fin b r2 chg := ⟨_, rfl⟩
  rw [← hFV]
  have FH := Lib.hid hFV
  clear hFV
  have P1 := Lib.hid (BoxG.new (w.alloc (Obj.cells #[.int .i64 r, .slice A rs.length c] 26)) 26 (.int .i64 0) (.slice none 0 0))
  have P0 := Lib.hid (BoxG.new w 26 (.int .i64 r) (.slice A rs.length c))
  have F1 := Lib.hid (Free.new (w.alloc (Obj.cells #[.int .i64 r, .slice A rs.length c] 26)) 26 #[.int .i64 0, .slice none 0 0])
  go_enter Try.func41, Try.ntmps41
  have hm : ∀ w, (method 286 91 (.agg #[.slice Aw nw cw]) "loop.example/g00870/impl.check").run Try.prog w = .ok (98, .agg #[.slice Aw nw cw]) w := fun w => by kernel_rfl
  go_wp2_with fail
  refine (CK.out _ (al2 _ _ _)).mono ?_
  rintro e w1 ⟨rfl, hb1⟩
  have z1 : w.heap.size + 1 < w1.heap.size := by have := hb1.size; simp at this; omega
  have X0 := Lib.hid ((P0.out.below (al1 _ _) (by simp)).below hb1 (by simp; omega))
  have X1 := Lib.hid (show BoxG w1 (w.heap.size + 1) (.int .i64 0) (.slice none 0 0) from by simpa using P1.out.below hb1 (by simp))
  have Y1 := Lib.hid (show Free w1 (w.heap.size + 1) from by simpa using F1.out.below hb1 (by simp))
  have D1 := Lib.hid (on2 _ _ hb1)
  clear hb1 P0 P1 F1 CK hm
  by_cases hb0 : b = 0
  case neg =>
    have t1 : (b != 0) = true := by simpa using hb0
    have FI := Lib.hid (show FV = (0, [], b) from by rw [FH.out]; unfold fin; rw [if_pos hb0])
    obtain ⟨s0, s1⟩ := X1.out
    have f0 := Y1.out
    unfold Free at f0
    clear hb0
    go_wp2
    refine bodyPost_ret (v := .tuple #[.agg #[.int .i64 0, .slice none 0 0], .int .i64 b]) (by simp [results, Try.results41, s0, s1, go_sem]) rfl ?_
    rw [FI.out]
    exact ResP.err (b := w.heap.size + 1) (by omega) D1.out
  have CHB := Lib.hid (CH.out hb0)
  have FI := Lib.hid (show FV = (if Wd.isP r2 (chg.map Wd.rd) = true then (r2, chg.map Wd.rd, 0) else (0, [], 3)) from by rw [FH.out]; unfold fin; rw [if_neg (by omega)])
  clear FH
  subst hb0
  obtain ⟨x0, x1⟩ := X0.out
  go_wp2_with fail
  refine (CHB.out _ D1.out).mono ?_
  rintro e w2 ⟨A2, c2, rs2, rfl, ho2, hv2, hb2⟩
  have z2 : w1.heap.size ≤ w2.heap.size := hb2.size
  have X2 := Lib.hid (X1.out.below hb2 (by omega))
  have Y2 := Lib.hid (Y1.out.below hb2 (by omega))
  have D2 := Lib.hid (D1.out.trans (hb2.mono (by omega)))
  have LC := Lib.hid (show rs2.length = chg.length from by rw [← vals_len, hv2])
  have RK := Lib.hid (RedK.start hv2)
  have O2 := Lib.hid ho2
  obtain ⟨n, hn2⟩ : ∃ n, chg.length = n := ⟨_, rfl⟩
  have LN := Lib.hid hn2
  rw [hn2] at LC hn
  rw [LC.out]
  clear X0 X1 Y1 D1 CH CHB ho2 hv2 hb2 x0 x1 hn2
  go_wp2
  obtain ⟨V, hV⟩ : ∃ V, V = w2.alloc (Obj.cells #[.int .i64 r2, .slice A2 n c2] 26) := ⟨_, rfl⟩
  have sV : w2.heap.size < V.heap.size := by rw [hV]; simp
  have C3 := Lib.hid (show BoxG V w2.heap.size (.int .i64 r2) (.slice A2 n c2) from by rw [hV]; exact BoxG.new _ _ _ _)
  have X3 := Lib.hid (show BoxG V (w.heap.size + 1) (.int .i64 0) (.slice none 0 0) from by rw [hV]; exact X2.out.below (al1 _ _) (by omega))
  have Y3 := Lib.hid (show Free V (w.heap.size + 1) from by rw [hV]; exact Y2.out.below (al1 _ _) (by omega))
  have D3 := Lib.hid (show Below w.heap.size w V from by rw [hV]; exact D2.out.alloc (by omega) _)
  have O3 := Lib.hid (show OwnS V w1.heap.size w2.heap.size A2 c2 rs2 from by rw [hV]; exact O2.out.below (al1 _ _) (Nat.le_refl _))
  rw [← hV]
  clear hV X2 Y2 D2 O2
  go_loopw [23] (fun x W => ∃ (k : Nat) (qs : List Rw), k ≤ n ∧ x = .int .i64 k ∧ RedK chg k qs ∧ OwnS W w1.heap.size W.heap.size A2 c2 qs ∧ BoxG W w2.heap.size (.int .i64 r2) (.slice A2 n c2) ∧ BoxG W (w.heap.size + 1) (.int .i64 0) (.slice none 0 0) ∧ Free W (w.heap.size + 1) ∧ Below w.heap.size w W ∧ V.heap.size ≤ W.heap.size ∧ (∀ a, A2 = some a → a.block < w2.heap.size)) (fun x _ => n - (intOf x).toNat)
  case atStart => exact ⟨0, rs2, Nat.zero_le _, rfl, RK.out, O3.out.wide (Nat.le_refl _) (by omega), C3.out, X3.out, Y3.out, D3.out, Nat.le_refl _, O3.out.top⟩
  case round =>
    obtain ⟨k, qs, hk, rfl, hrk, ho, hc, hx, hy, hd, hzz, htop⟩ := hrel
    have R := Lib.hid hrk
    have O := Lib.hid ho
    have C := Lib.hid hc
    have X := Lib.hid hx
    have Y := Lib.hid hy
    have D := Lib.hid hd
    have TP := Lib.hid htop
    have QL := Lib.hid (show qs.length = n from by rw [hrk.len, LN.out])
    clear hrk ho hc hx hy hd htop C3 X3 Y3 D3 O3 RK
    obtain ⟨q0, q1⟩ := C.out
    by_cases hlt : k < n
    · obtain ⟨g, hA, g1, g2, gc⟩ := O.out.at_ (by rw [QL.out]; omega)
      obtain ⟨gk1, gk2⟩ := gc k (by rw [QL.out]; exact hlt)
      have g3 := TP.out _ hA
      dsimp only at g3
      subst hA
      obtain ⟨row, hrow⟩ : ∃ row, qs.getD k nilRw = row := ⟨_, rfl⟩
      have hin := O.out.mine row (by rw [← hrow]; exact getD_mem (by rw [QL.out]; exact hlt))
      have hzs := R.out.at_ (by rw [LN.out]; exact hlt)
      rw [hrow] at hzs gk1
      obtain ⟨Aj, cj, zj⟩ := row
      dsimp only at hzs
      have hmem : zj ∈ chg := by
        rw [hzs, List.getD_eq_getElem?_getD, List.getElem?_eq_getElem (by rw [LN.out]; exact hlt)]
        exact List.getElem_mem _
      obtain ⟨zl, zS⟩ := SZ.out _ hmem
      have RD := Lib.hid (fun (W : World) (hI : Ints W W.heap.size Aj zj.length zj) => reduced_impl Aj zj.length cj zj W hI zl zS)
      have HJ := Lib.hid (show Ints wr.drew wr.drew.heap.size Aj zj.length zj from hin.mine.ints)
      have SETK := Lib.hid (fun (rw : Rw) (h : rw.zs = Wd.rd zj) => R.out.set_ (by rw [LN.out]; exact hlt) (show rw.zs = Wd.rd (chg.getD k []) by rw [← hzs]; exact h))
      obtain ⟨zo, hzo⟩ : ∃ zo, Wd.rd zj = zo := ⟨_, rfl⟩
      rw [hzo] at RD SETK
      have GK1 := Lib.hid gk1
      have GK2 := Lib.hid gk2
      dsimp only [Rw.sv] at gk1
      have i0 : (0 : Int) ≤ (k : Int) := by omega
      have i1 : (k : Int) < (n : Int) := by omega
      have n1 : ¬ g = w2.heap.size := by omega
      have n2 : ¬ w2.heap.size = g := by omega
      clear gc hin hzs hmem hrow hzo zS
      go_wp2_with fail
      go_region_held3 (fun W => W.cell? ⟨w2.heap.size, 1, none⟩ = some (.slice (some ⟨g, 0, none⟩) n c2)) (go_keep)
        (first
          | (go_at_call 61; (with_reducible refine (RD.out _ HJ.out).mono ?_); rintro e w6 ⟨R6, t6, rfl, hc6, hm6, hb6'⟩; have hb6 := undrew hb6'; have B6 := Lib.hid hb6; have z6 := hb6.size; have M6 := Lib.hid (show Rw.In ⟨R6, t6, zo⟩ w6 wr.heap.size w6.heap.size from ⟨hc6.1, hc6.2, hm6⟩); obtain ⟨e0, e1⟩ := C.out.below hb6 (by omega); have e6 := (hb6.cell (p := ⟨g, k, none⟩) g2).trans GK1.out; have e7 := (hb6.frozen (p := ⟨g, k, none⟩) g2).trans GK2.out; clear hb6 hb6' hc6 hm6))
      all_goals
        have O6 := Lib.hid (((O.out.below B6.out (Nat.le_refl _)).wide (Nat.le_refl _) z6).set_ k ⟨R6, t6, zo⟩ (M6.out.wide (by omega) (Nat.le_refl _)) (M6.out.off (.inl g2)) (fun r' hr' => Apart.of_in M6.out (O.out.mine r' hr') (.inr (Nat.le_refl _))))
        have CX := Lib.hid (C.out.below B6.out (by omega))
        have XX := Lib.hid (X.out.below B6.out (by omega))
        have YX := Lib.hid (Y.out.below B6.out (by omega))
        have DX := Lib.hid (D.out.trans (B6.out.mono (by omega)))
        clear gk1 gk2 e0 e1 e6 e7 q0 q1
        go_wp2
        go_roundw
        case rel => exact ⟨k + 1, _, by omega, by go_num, SETK.out ⟨R6, t6, zo⟩ rfl, O6.out.wide (Nat.le_refl _) (by simp [World.setCell]), CX.out.farA (p := ⟨g, k, none⟩) n2 _, XX.out.farA (p := ⟨g, k, none⟩) (by dsimp only; omega) _, YX.out.setA _ _, DX.out.setCell (by dsimp only; omega) _, by simp [World.setCell]; omega, TP.out⟩
        case measure => simp [intOf]; omega
    · obtain rfl : k = n := by omega
      have VF := Lib.hid (R.out.all LN.out)
      have IP := Lib.hid (isPres_impl r2 A2 c2 qs wr O.out.rd (by rw [QL.out]; omega) (fun q hq => by
        obtain ⟨j, hj, rfl⟩ := List.mem_iff_getElem.1 hq
        have h2 : qs[j].zs ∈ vals qs := List.mem_map_of_mem (List.getElem_mem hj)
        rw [VF.out] at h2
        obtain ⟨z, hz1, hz2⟩ := List.mem_map.1 h2
        rw [← hz2]
        exact Nat.le_trans (Wd.rd_len z) (SZ.out z hz1).1))
      rw [QL.out, VF.out] at IP
      rcases hres : Wd.isP r2 (chg.map Wd.rd) with _ | _
      · rw [hres] at IP
        have FJ := Lib.hid (show FV = (0, [], 3) from by rw [FI.out, hres]; rfl)
        clear hres FI
        go_wp2_with fail
        refine IP.out.mono ?_
        rintro e w4 ⟨rfl, hb4⟩
        have z4 := hb4.size
        obtain ⟨s0, s1⟩ := X.out.below hb4 (by omega)
        have f0 := Y.out.below hb4 (by omega)
        have D4 := Lib.hid (D.out.trans (hb4.mono (by omega)))
        unfold Free at f0
        clear hb4 q0 q1
        go_wp2
        refine bodyPost_ret (v := .tuple #[.agg #[.int .i64 0, .slice none 0 0], .int .i64 3]) (by simp [results, Try.results41, s0, s1, go_sem]) rfl ?_
        rw [FJ.out]
        exact ResP.err (b := w.heap.size + 1) (by omega) D4.out
      · rw [hres] at IP
        have FJ := Lib.hid (show FV = (r2, chg.map Wd.rd, 0) from by rw [FI.out, hres]; rfl)
        clear hres FI
        go_wp2_with fail
        refine IP.out.mono ?_
        rintro e w4 ⟨rfl, hb4⟩
        have z4 := hb4.size
        obtain ⟨s0, s1⟩ := X.out.below hb4 (by omega)
        have f0 := Y.out.below hb4 (by omega)
        obtain ⟨p0, p1⟩ := C.out.below hb4 (by omega)
        have D4 := Lib.hid (D.out.trans (hb4.mono (by omega)))
        have O4 := Lib.hid (O.out.below hb4 (Nat.le_refl _))
        unfold Free at f0
        clear hb4 q0 q1
        go_wp2
        refine bodyPost_ret (v := .tuple #[.agg #[.int .i64 r2, .slice A2 k c2], .int .i64 0]) (by simp [results, Try.results41, s0, s1, go_sem]) rfl ?_
        rw [FJ.out]
        refine ⟨A2, c2, qs, by rw [QL.out], ?_, VF.out, (D4.out.setCell (by dsimp only; omega) _).setCell (by dsimp only; omega) _⟩
        exact ((O4.out.far (p := ⟨w.heap.size + 1, 0, none⟩) (.inl (by dsimp only; omega)) _).far (p := ⟨w.heap.size + 1, 1, none⟩) (.inl (by dsimp only; omega)) _).wide (by omega) (by simp [World.setCell]; omega)

end Go.Proofs.Ytjommpdblbbkdaa
