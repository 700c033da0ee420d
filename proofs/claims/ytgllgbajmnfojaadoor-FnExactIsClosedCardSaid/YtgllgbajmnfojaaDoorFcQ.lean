/- The program's BoundaryFaces. No condition but those that each theorem names. -/
import Derived.Test.YtgllgbajmnfojaaDoorFcR
namespace Go.Proofs.YtgllgbajmnfojaaDoor
open Go.RowKit Go.Shelf
attribute [local go_sem] Oper.semAt_some

namespace Tr
/-- The pairs of the boundary faces among those that have come. -/
def prs (T : List (List Int)) {n : Nat} : List (Fc.Ix n) → List (List Int)
  | [] => []
  | x :: xs => bp T (x.1 / 4) (x.1 % 4) ++ prs T xs
theorem prs_snoc (T : List (List Int)) {n : Nat} (pre : List (Fc.Ix n)) (x : Fc.Ix n) : prs T (pre ++ [x]) = prs T pre ++ bp T (x.1 / 4) (x.1 % 4) := by
  induction pre with
  | nil => simp [prs]
  | cons y pre ih => simp only [List.cons_append, prs, ih, List.append_assoc]
theorem prs_len (T : List (List Int)) {n : Nat} (pre : List (Fc.Ix n)) : (prs T pre).length ≤ pre.length := by
  induction pre with
  | nil => simp [prs]
  | cons y pre ih => simp only [prs, List.length_append, List.length_cons]; unfold bp; split <;> simp <;> omega
theorem prs_up4 (T : List (List Int)) (n a f : Nat) (ha : a < n) (hf : f ≤ 4) : prs T (Fc.up n (a * 4 + f)) = prs T (Fc.up n (a * 4)) ++ bd4 T a f := by
  induction f with
  | zero => simp [bd4]
  | succ f ih =>
    rw [← Nat.add_assoc, Fc.up_succ (by omega), prs_snoc, ih (by omega)]
    dsimp only
    rw [show (a * 4 + f) / 4 = a from by omega, show (a * 4 + f) % 4 = f from by omega, List.append_assoc]
    rfl
theorem prs_up (T : List (List Int)) (n a : Nat) (ha : a ≤ n) : prs T (Fc.up n (a * 4)) = bdl T a := by
  induction a with
  | zero => simp [Fc.up, prs, bdl]
  | succ a ih => rw [show (a + 1) * 4 = a * 4 + 4 from by omega, prs_up4 T n a 4 (by omega) (Nat.le_refl _), ih (by omega)]; rfl
end Tr

theorem far_cell {W w7 : World} {o1 o2 : Obj} {b lo : Nat} {row : Option Nat} {v : Value} (hG : ((W.alloc o1).alloc o2).grownBy w7 row) (hOb : ∀ k, row = some k → lo ≤ k) (hb : b < lo) (hW : b < W.heap.size) (h : W.cell? ⟨b, 0, none⟩ = some v) : w7.cell? ⟨b, 0, none⟩ = some v := by
  have h1 := ((al2 W o1 o2).cell (p := ⟨b, 0, none⟩) hW).trans h
  refine (hG.cell_far ⟨b, 0, none⟩ ?_ fun e => ?_).trans h1
  · have := (al2 W o1 o2).size
    exact Nat.lt_of_lt_of_le hW this
  · have h2 : lo ≤ b := hOb b e.symm
    omega
theorem far_frozen {W w7 : World} {o1 o2 : Obj} {b lo : Nat} {row : Option Nat} (hG : ((W.alloc o1).alloc o2).grownBy w7 row) (hOb : ∀ k, row = some k → lo ≤ k) (hb : b < lo) (hW : b < W.heap.size) (h : W.frozen? ⟨b, 0, none⟩ = false) : w7.frozen? ⟨b, 0, none⟩ = false := by
  have h1 := ((al2 W o1 o2).frozen (p := ⟨b, 0, none⟩) hW).trans h
  refine (hG.frozen_far ⟨b, 0, none⟩ ?_ fun e => ?_).trans h1
  · have := (al2 W o1 o2).size
    exact Nat.lt_of_lt_of_le hW this
  · have h2 : lo ≤ b := hOb b e.symm
    omega

set_option maxRecDepth 100000 in
set_option maxHeartbeats 8000000 in
theorem boundary_implT (A : Option Addr) (n c : Nat) (T : List (List Int)) (w : World) (h : Fc.RdT w w.heap.size A n T) (hv : Fc.Vs w) (hn : n ≤ 1048576) :
    Calls Tryd.prog 23 #[.agg #[.slice A n c]] w (ResRw w (Tr.bdry T)) := by
  have h0 := hv.pos
  have HT := Lib.hid h
  have LN := Lib.hid h.len
  have HV := Lib.hid hv
  clear h hv
  refine (callsIn_wide (n := 5)).1 ?_
  refine callsIn_of_wp_marks Tryd.func23 rfl trivial ?_ rfl
  simp only [Tryd.ntmps23, List.size_toArray, List.length_cons, List.length_nil, Nat.reduceAdd, Nat.reduceSub, Array.replicate_succ, Array.replicate_zero, List.push_toArray, List.append_toArray, List.nil_append, List.cons_append]
  obtain ⟨U, hU⟩ : ∃ U, U = w.alloc (Obj.cells #[.slice A n c] 29) := ⟨_, rfl⟩
  have hB : Below w.heap.size w U := by rw [hU]; exact al1 _ _
  have z : w.heap.size < U.heap.size := by rw [hU]; simp
  have k0 : U.cell? ⟨w.heap.size, 0, none⟩ = some (.slice A n c) := by rw [hU]; simp [go_sem]
  have TI := Lib.hid (Fc.isTri_implT A n c T U (HT.out.into hB) (HV.out.below hB h0.1) hn)
  have RT := Lib.hid (HT.out.below hB)
  have DU := Lib.hid hB
  clear hB
  gi_wp2
  rw [← hU]
  clear hU
  refine ⟨trivial, ?_⟩
  refine (callsIn_wide.2 TI.out).mono ?_
  rintro e X ⟨rfl, hb6⟩
  have k0 := (hb6.cell (p := ⟨w.heap.size, 0, none⟩) (by dsimp only; omega)).trans k0
  have zX : U.heap.size ≤ X.heap.size := hb6.size
  have zwX : w.heap.size < X.heap.size := by omega
  have RX := Lib.hid (RT.out.below (hb6.mono (by omega)))
  have DX := Lib.hid (DU.out.trans (hb6.mono (by omega)))
  clear hb6 RT DU TI
  by_cases hok : Tr.Is T
  case neg =>
    rw [decide_eq_false hok]
    have R := Lib.hid (show Tr.bdry T = [] from by unfold Tr.bdry; rw [if_neg hok])
    gi_wp2
    refine Fc.leave0 (v := .slice none 0 0) (by simp [results, Tryd.results23, go_sem]) ⟨none, 0, [], rfl, OwnS.nil _ _ _, by rw [R.out]; rfl, DX.out⟩
  rw [decide_eq_true hok]
  have h8 : n ≤ 8 := by rw [← LN.out]; exact hok.1
  have R := Lib.hid (show Tr.bdry T = Tr.bdl T n from by unfold Tr.bdry; rw [if_pos hok, LN.out])
  have H4 := Lib.hid hok.2.1
  have BDI := Lib.hid (show ∀ a, a < n → ∀ f, f < 4 → (Tr.Bd T a f ↔ Tr.tt T a f < 0) from fun a ha f hf => hok.bd_iff (by rw [LN.out]; exact ha) hf)
  clear hok
  obtain ⟨V, hV⟩ : ∃ V, V = (X.alloc (Obj.cells #[.slice none 0 0] 33)).alloc (Obj.cells #[.slice A n c] 29) := ⟨_, rfl⟩
  have zV : X.heap.size + 1 < V.heap.size := by rw [hV]; simp
  have hBX : Below X.heap.size X V := by rw [hV]; exact al2 _ _ _
  have DV := Lib.hid (DX.out.trans (hBX.mono (by omega)))
  have KB := Lib.hid (show V.cell? ⟨X.heap.size + 1, 0, none⟩ = some (.slice A n c) from by rw [hV]; simp [go_sem])
  have A0 := Lib.hid (show V.cell? ⟨w.heap.size, 0, none⟩ = some (.slice A n c) from (hBX.cell (p := ⟨w.heap.size, 0, none⟩) (by dsimp only; omega)).trans k0)
  have A1 := Lib.hid (show V.cell? ⟨X.heap.size, 0, none⟩ = some (.slice none 0 0) from by rw [hV]; simp [go_sem])
  have A2 := Lib.hid (show V.frozen? ⟨X.heap.size, 0, none⟩ = false from by rw [hV]; simp [go_sem])
  have RV := Lib.hid (RX.out.below (hBX.mono (by omega)))
  gi_wp2_with (refine ⟨trivial, ?_⟩; gi_at_call 62; refine (Fc.facesOf_in Fence.wide _ trivial rfl _ _ _ _).mono ?_; rintro e w' ⟨rfl, rfl⟩)
  rw [← hV]
  clear hV hBX RX
  refine Fc.rangeC (by omega) (X.heap.size + 1) w.heap.size c A T H4.out hn zV (by omega) rfl rfl KB.out RV.out
    (fun pre W => (W.cell? ⟨w.heap.size, 0, none⟩ = some (.slice A n c) ∧ ∃ A' c' rs, (W.cell? ⟨X.heap.size, 0, none⟩ = some (.slice A' rs.length c') ∧ W.frozen? ⟨X.heap.size, 0, none⟩ = false) ∧ OwnS W V.heap.size W.heap.size A' c' rs ∧ vals rs = Tr.prs T pre) ∧ Below w.heap.size w W)
    (OwnFrom.and (fun s Y Z row hs hg hr => by
      obtain ⟨h1, A', c', rs, ⟨h2, h3⟩, h4, h5⟩ := hs
      have hr' : ∀ r, row = some r → ∃ o : Obj, Y.heap[r]? = some o ∧ o.isCells = false := fun r e => (hr r e).2
      exact ⟨cell_kept h1 hg hr', A', c', rs, ⟨cell_kept h2 hg hr', (frozen_kept h2 hg hr').trans h3⟩, (h4.grownC hg hr').wide (Nat.le_refl _) hg.size, h5⟩) (ownFrom_below (Nat.le_refl _) (by omega)))
    ⟨⟨A0.out, none, 0, [], ⟨A1.out, A2.out⟩, OwnS.nil _ _ _, rfl⟩, DV.out⟩
    (fun x Bx W => (W.cell? ⟨Bx, 0, none⟩ = some (.int .i64 ((x.1 : Int) / 4)) ∧ W.cell? ⟨Bx, 1, none⟩ = some (.int .i64 ((x.1 : Int) % 4))) ∧ W.cell? ⟨Bx + 1, 0, none⟩ = some (.int .i64 (Tr.tt T (x.1 / 4) (x.1 % 4))) ∧ W.cell? ⟨Bx + 1, 1, none⟩ = some (.int .i64 (Tr.pp T (x.1 / 4) (x.1 % 4))))
    (fun x Bx => Own.from (fun s X Y row hs hg hr => ⟨⟨cell_kept hs.1.1 hg hr, cell_kept hs.1.2 hg hr⟩, cell_kept hs.2.1 hg hr, cell_kept hs.2.2 hg hr⟩) _) ?acts ?assign ?body ?done
  case assign =>
    rintro l pre x W K ⟨⟨b0, A', c', rs, ⟨b1, b2⟩, hO, hVl⟩, hB⟩ hK
    dsimp only [Fc.encF]
    have zW : w.heap.size ≤ W.heap.size := hB.size
    gi_wp2
    obtain ⟨Y, hY⟩ : ∃ Y, Y = (W.alloc (Obj.cells #[.int .i64 ((x.1 : Int) / 4), .int .i64 ((x.1 : Int) % 4)] 75)).alloc (Obj.cells #[.int .i64 (Tr.tt T (x.1 / 4) (x.1 % 4)), .int .i64 (Tr.pp T (x.1 / 4) (x.1 % 4))] 67) := ⟨_, rfl⟩
    have m0 : Y.cell? ⟨W.heap.size, 0, none⟩ = some (.int .i64 ((x.1 : Int) / 4)) := by rw [hY]; simp [go_sem]
    have m1 : Y.cell? ⟨W.heap.size, 1, none⟩ = some (.int .i64 ((x.1 : Int) % 4)) := by rw [hY]; simp [go_sem]
    have n0 : Y.cell? ⟨W.heap.size + 1, 0, none⟩ = some (.int .i64 (Tr.tt T (x.1 / 4) (x.1 % 4))) := by rw [hY]; simp [go_sem]
    have n1 : Y.cell? ⟨W.heap.size + 1, 1, none⟩ = some (.int .i64 (Tr.pp T (x.1 / 4) (x.1 % 4))) := by rw [hY]; simp [go_sem]
    have hA : Below w.heap.size W Y := by rw [hY]; exact ((Below.refl _ W).alloc zW _).alloc (by simp; omega) _
    have hAA : Below W.heap.size W Y := by rw [hY]; exact al2 _ _ _
    have hF : KeepsFrom V.heap.size W Y := by rw [hY]; exact ((KeepsOthers.alloc W _).trans (KeepsOthers.alloc _ _)).from _
    have hI : Y.cell? ⟨w.heap.size, 0, none⟩ = some (.slice A n c) := by rw [hY]; exact Fc.cell_al _ (Fc.cell_al _ b0)
    have hI1 : Y.cell? ⟨X.heap.size, 0, none⟩ = some (.slice A' rs.length c') := by rw [hY]; exact Fc.cell_al _ (Fc.cell_al _ b1)
    have hI2 : Y.frozen? ⟨X.heap.size, 0, none⟩ = false := by rw [hY]; exact Fc.frozen_al _ (Fc.cell_al _ b1) (Fc.frozen_al _ b1 b2)
    have hOY : OwnS Y V.heap.size Y.heap.size A' c' rs := (hO.below hAA (Nat.le_refl _)).wide (Nat.le_refl _) hAA.size
    rw [← hY]
    clear hY
    revert m0 m1 n0 n1
    generalize W.heap.size = Bx
    intro m0 m1 n0 n1
    exact hK Bx _ hF hA ⟨⟨hI, A', c', rs, ⟨hI1, hI2⟩, hOY, hVl⟩, hB.trans hA⟩ ⟨⟨m0, m1⟩, n0, n1⟩
  case body =>
    rintro l pre x Bx W hl ⟨r, hr⟩ ⟨⟨b0, A', c', rs, ⟨b1, b2⟩, hO, hVl⟩, hB⟩ ⟨⟨m0, m1⟩, c0, c1⟩ hlen
    have xlt := x.2
    obtain ⟨a, hae⟩ : ∃ a, x.1 / 4 = a := ⟨_, rfl⟩
    obtain ⟨f, hfe⟩ : ∃ f, x.1 % 4 = f := ⟨_, rfl⟩
    have ha : a < n := by omega
    have hf : f < 4 := by omega
    have ia : ((x.1 : Int) / 4) = (a : Int) := by omega
    have jf : ((x.1 : Int) % 4) = (f : Int) := by omega
    rw [ia] at m0
    rw [jf] at m1
    rw [hae, hfe] at c0 c1
    have SN := Lib.hid (show Tr.prs T (pre ++ [x]) = Tr.prs T pre ++ Tr.bp T a f from by rw [Tr.prs_snoc, hae, hfe])
    have rl : rs.length ≤ 32 := by
      have h1 := congrArg List.length hVl
      rw [vals_len] at h1
      have h2 := Tr.prs_len T pre
      omega
    have zW : w.heap.size ≤ W.heap.size := hB.size
    have zW1 : X.heap.size < W.heap.size := World.block_lt_of_cell? W _ b1
    have zB : Bx + 1 < W.heap.size := World.block_lt_of_cell? W _ c0
    obtain ⟨v0, v1⟩ := HV.out.2.below hB h0.2
    have zVW : V.heap.size ≤ W.heap.size := by
      have := (Array.getElem?_eq_some_iff.1 hr).1
      omega
    have zXV : X.heap.size < V.heap.size := by omega
    have zwV : w.heap.size < V.heap.size := by omega
    have zwW : w.heap.size < W.heap.size := by omega
    have OW := Lib.hid hO
    have VL := Lib.hid hVl
    have HBW := Lib.hid hB
    have DB := BDI.out a ha f hf
    clear ia jf hae hfe xlt hO hVl hr hB
    by_cases hneg : Tr.tt T a f < 0
    · have NX := Lib.hid (show Tr.bp T a f = [[(a : Int), (f : Int)]] from by unfold Tr.bp; rw [if_pos hneg])
      obtain ⟨h1, h2⟩ := DB.2 hneg
      rw [h1] at c0
      rw [h2] at c1
      clear h1 h2 hneg DB
      gi_wp2_with (gi_at_builtin; refine push_rowI rfl _ _ rfl V.heap.size W.heap.size W.heap.size c' rs.length (W.heap.size + 1) A' rs ⟨some ⟨W.heap.size, 0, none⟩, 2, [(a : Int), (f : Int)]⟩ rfl rfl (OW.out.below (al2 W _ _) (Nat.le_refl _)) rfl (by simp [go_sem, Rw.sv]) ((pair_in W _ _ _).wide (Nat.le_refl _) (by simp)) (Nat.le_refl _) (by omega) (by simp; omega) (by simp; omega) (by omega) ?_; intro A7 c7 w7 hO hG hOb; have O7 := Lib.hid hO; have G7 := Lib.hid hG; have B7 := Lib.hid hOb; have e1 := far_cell hG (fun k hk => (hOb k hk).1) zXV zW1 b1; have e2 := far_frozen hG (fun k hk => (hOb k hk).1) zXV zW1 b2; have e0 := far_cell hG (fun k hk => (hOb k hk).1) zwV zwW b0; clear hO hG hOb)
      have KG : KeepsFrom V.heap.size ((W.alloc (Obj.cells #[.int .i64 (a : Int), .int .i64 (f : Int)] 2)).alloc (Obj.cells #[.slice (some ⟨W.heap.size, 0, none⟩) 2 2] 44)) w7 := ⟨G7.out.size, fun k o hB hk ho => (G7.out.block k (Array.getElem?_eq_some_iff.1 hk).1 (fun e => by
        obtain ⟨o', h1, h2⟩ := (B7.out k e.symm).2.2
        rw [hk] at h1
        cases h1
        rw [ho] at h2
        cases h2)).trans hk⟩
      have hG2 : Below w.heap.size W w7 := (((al2 W (Obj.cells #[.int .i64 (a : Int), .int .i64 (f : Int)] 2) (Obj.cells #[.slice (some ⟨W.heap.size, 0, none⟩) 2 2] 44)).mono zW).grown G7.out (by simp; omega) (fun k e => by have h := (B7.out k e).1; omega))
      exact ⟨((((KeepsOthers.alloc W _).trans (KeepsOthers.alloc _ _)).from _).trans KG).trans ((KeepsOthers.setCell _ _ _).from _), hG2.setCell (by dsimp only; omega) _,
        ⟨by rw [World.cell?_setCell_other _ _ _ _ (by simp <;> omega)]; exact e0, A7, c7, rs ++ [⟨some ⟨W.heap.size, 0, none⟩, 2, [(a : Int), (f : Int)]⟩], ⟨by rw [List.length_append]; exact World.cell?_setCell_same' _ _ _ (by rw [e1]; rfl), by rw [World.frozen?_setCell]; exact e2⟩,
          (O7.out.far (p := ⟨X.heap.size, 0, none⟩) (.inl (by dsimp only; omega)) _).wide (Nat.le_refl _) (by simp [World.setCell]), by rw [SN.out, NX.out, ← VL.out]; simp [vals]⟩, (HBW.out.trans hG2).setCell (by dsimp only; omega) _⟩
    · have NX := Lib.hid (show Tr.bp T a f = [] from by unfold Tr.bp; rw [if_neg hneg])
      obtain ⟨tv, htv⟩ : ∃ tv, Tr.tt T a f = tv := ⟨_, rfl⟩
      rw [htv] at c0 hneg
      have nb : ¬ tv = -1 := by omega
      have b8 : (tv == -1) = false := by simpa using nb
      clear DB htv
      gi_wp2
      exact ⟨KeepsFrom.refl _ _, Below.refl _ _, ⟨b0, A', c', rs, ⟨b1, b2⟩, OW.out, by rw [SN.out, NX.out, VL.out, List.append_nil]⟩, HBW.out⟩
  case done =>
    rintro D W hD ⟨⟨b0, A', c', rs, ⟨b1, b2⟩, hO, hVl⟩, hB⟩ hK
    have VN := Lib.hid (show vals rs = Tr.bdl T n from by rw [hVl]; exact Tr.prs_up T n n (Nat.le_refl _))
    gi_wp2
    have hBD := hB.trans (belowK_b (w := w) (Nat.le_refl _) W D (.deferred (some [])) (.deferred none) (by omega) hK rfl rfl)
    exact Fc.leave1 (v := .slice A' rs.length c') hK (by simp [results, Tryd.results23, go_sem]) ⟨A', c', rs, rfl, (hO.grownC (grownBy_putObj' _ D (.deferred none)) (fun r e => by cases e; exact ⟨_, hK, rfl⟩)).wide (by omega) (by simp [World.putObj]), by rw [VN.out, R.out], hBD⟩

end Go.Proofs.YtgllgbajmnfojaaDoor
