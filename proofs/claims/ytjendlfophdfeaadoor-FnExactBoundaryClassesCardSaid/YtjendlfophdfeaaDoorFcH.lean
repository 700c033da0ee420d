/- The program's test whether the other face says the same. No condition but those that each theorem names. -/
import Derived.Test.YtjendlfophdfeaaDoorFcG
namespace Go.Proofs.YtjendlfophdfeaaDoor
open Go.RowKit
namespace Fc

theorem im_four (p : Nat) (hp : p < 24) : ∃ x0 x1 x2 x3 : Nat, P4.im p = [(x0 : Int), (x1 : Int), (x2 : Int), (x3 : Int)] ∧ (x0 < 4 ∧ x1 < 4 ∧ x2 < 4 ∧ x3 < 4) := by
  obtain ⟨x0, x1, x2, x3, e, b⟩ := L4.four (L4.im hp)
  exact ⟨x0, x1, x2, x3, e, b⟩

set_option maxRecDepth 100000 in
set_option maxHeartbeats 8000000 in
theorem gluedBack_impl (A : Option Addr) (n c a f b g p q : Nat) (T : List (List Int)) (x0 x1 x2 x3 : Nat) (w : World) (h : RdT w w.heap.size A n T) (hv : Vs w) (hbn : b < n) (hf : f < 4) (hg : g < 4) (hp : p < 24) (hq : q < 24) (h4 : (T.getD b []).length = 8)
    (hx : P4.im p = [(x0 : Int), (x1 : Int), (x2 : Int), (x3 : Int)]) (hfg : (P4.im p).getD f 0 = (g : Int)) (hpq : Tr.pp T b g = (q : Int)) :
    Calls Tryd.prog 104 #[.agg #[.slice A n c], .agg #[.int .i64 (a : Int), .int .i64 (f : Int), .int .i64 (b : Int), .int .i64 (g : Int), .int .u8 (x0 : Int), .int .u8 (x1 : Int), .int .u8 (x2 : Int), .int .u8 (x3 : Int)]] w fun e w' =>
      e = .returned (.bool (decide ((Tr.tt T b g = a ∧ q = P4.ivt p) ∧ ¬ (b = a ∧ g = f)))) ∧ Below w.heap.size w w' := by
  have h0 := hv.pos
  obtain ⟨y0, y1, y2, y3, hy, hyb⟩ := im_four (P4.ivt p) (Tr.ivt_lt p hp)
  obtain ⟨z0, z1, z2, z3, hz, hzb⟩ := im_four q hq
  have hiv : P4.invk [(x0 : Int), (x1 : Int), (x2 : Int), (x3 : Int)] 4 = [(y0 : Int), (y1 : Int), (y2 : Int), (y3 : Int)] := by rw [← hx, ← P4.ivt_im hp, hy]
  have RV := Lib.hid (fun (W : World) => reversed_impl a f b g x0 x1 x2 x3 y0 y1 y2 y3 W (by rw [← hx]; exact L4.im hp) (by rw [← hy]; exact L4.im (Tr.ivt_lt p hp)) hiv)
  obtain ⟨t, ht⟩ : ∃ t, Tr.tt T b g = t := ⟨_, rfl⟩
  have DT := Lib.hid (fun (W : World) (hW : RdT W W.heap.size A n T) => (show Calls Tryd.prog 93 #[.agg #[.slice A n c], .agg #[.int .i64 (b : Int), .int .i64 (g : Int)]] W (fun e w' => e = .returned (.agg #[.int .i64 t, .int .i64 (q : Int)]) ∧ Below W.heap.size W w') from by
    have := dat_impl A n c b g T W hW hbn hg h4
    rw [ht, hpq] at this
    exact this))
  obtain ⟨G, hG⟩ : ∃ G : Nat, (P4.im q).getD g 0 = (G : Int) := ⟨((P4.im q).getD g 0).toNat, by have := P4.im_in q hq g hg; omega⟩
  have GO := Lib.hid (fun (W : World) (hW : Tb W) => (show Calls Tryd.prog 92 #[.agg #[.int .i64 (b : Int), .int .i64 (g : Int)], .agg #[.int .i64 t, .int .i64 (q : Int)]] W (fun e w' => e = .returned (.agg #[.int .i64 (b : Int), .int .i64 (g : Int), .int .i64 t, .int .i64 (G : Int), .int .u8 (z0 : Int), .int .u8 (z1 : Int), .int .u8 (z2 : Int), .int .u8 (z3 : Int)]) ∧ Below W.heap.size W w') from by
    have := gluingOf_impl (b : Int) g q t z0 z1 z2 z3 W hg hq hz hW
    rw [hG] at this
    exact this))
  have TE := tetFace_eq (a : Int) (f : Int) (b : Int) (g : Int) 9998
  rw [ht]
  by_cases hE : b = a ∧ g = f
  · obtain ⟨rfl, rfl⟩ := hE
    have R := Lib.hid (show decide ((t = (b : Int) ∧ q = P4.ivt p) ∧ ¬ (b = b ∧ g = g)) = false from decide_eq_false fun e => e.2 ⟨rfl, rfl⟩)
    rw [R.out]
    have D2 := Lib.hid (al2 w (Obj.cells #[.slice A n c] 29) (Obj.cells #[.int .i64 (b : Int), .int .i64 (g : Int), .int .i64 (b : Int), .int .i64 (g : Int), .int .u8 (x0 : Int), .int .u8 (x1 : Int), .int .u8 (x2 : Int), .int .u8 (x3 : Int)] 123))
    clear h hv hx hy hz hiv hfg hpq ht hG hyb hzb TE
    go_enter Tryd.func104, Tryd.ntmps104
    go_wp2
    go_region
    all_goals
      go_wp2
      go_ret
      exact ⟨rfl, by first | exact D2.out | exact D2.out.drew⟩
  · have TN := Lib.hid (show ∀ w : World, (Op.equalIn 10000 94 (.agg #[.int .i64 (a : Int), .int .i64 (f : Int)]) (.agg #[.int .i64 (b : Int), .int .i64 (g : Int)])).run Tryd.prog w = .ok false w from fun w => by
      rw [TE w]
      congr 1
      simp
      intro e1 e2
      exact hE ⟨by omega, by omega⟩)
    have GE := Lib.hid (show ∀ w : World, (Op.equalIn 10000 123 (.agg #[.int .i64 (b : Int), .int .i64 (g : Int), .int .i64 t, .int .i64 (G : Int), .int .u8 (z0 : Int), .int .u8 (z1 : Int), .int .u8 (z2 : Int), .int .u8 (z3 : Int)]) (.agg #[.int .i64 (b : Int), .int .i64 (g : Int), .int .i64 (a : Int), .int .i64 (f : Int), .int .u8 (y0 : Int), .int .u8 (y1 : Int), .int .u8 (y2 : Int), .int .u8 (y3 : Int)])).run Tryd.prog w = .ok (decide ((t = (a : Int) ∧ q = P4.ivt p) ∧ ¬ (b = a ∧ g = f))) w from fun w => by
      rw [gluing_eq]
      congr 1
      by_cases hQ : t = (a : Int) ∧ q = P4.ivt p
      · rw [decide_eq_true ⟨hQ, hE⟩]
        obtain ⟨rfl, rfl⟩ := hQ
        have e1 := Tr.ivt_at p hp f hf
        rw [hfg] at e1
        have e2 : (g : Int).toNat = g := by omega
        rw [e2, hG] at e1
        rw [hy] at hz
        simp at hz
        obtain ⟨e3, e4, e5, e6⟩ := hz
        simp
        omega
      · rw [decide_eq_false (fun e => hQ e.1)]
        by_cases ht' : t = (a : Int)
        · have hqn : ¬ q = P4.ivt p := fun e => hQ ⟨ht', e⟩
          have : ¬ ((z0 : Int) = y0 ∧ (z1 : Int) = y1 ∧ (z2 : Int) = y2 ∧ (z3 : Int) = y3) := fun ⟨e0, e1, e2, e3⟩ => hqn (P4.im_inj hq (Tr.ivt_lt p hp) (by rw [hz, hy, e0, e1, e2, e3]))
          have e9 : (((z0 : Int) == y0 && (z1 : Int) == y1) && ((z2 : Int) == y2 && (z3 : Int) == y3)) = false := by
            cases hh : (((z0 : Int) == y0 && (z1 : Int) == y1) && ((z2 : Int) == y2 && (z3 : Int) == y3)) with
            | false => rfl
            | true =>
              simp at hh
              exact absurd ⟨by omega, by omega, by omega, by omega⟩ this
          rw [e9]
          simp
        · have e9 : (t == (a : Int)) = false := by simpa using ht'
          rw [e9]
          simp)
    obtain ⟨r, hr⟩ : ∃ r, decide ((t = (a : Int) ∧ q = P4.ivt p) ∧ ¬ (b = a ∧ g = f)) = r := ⟨_, rfl⟩
    rw [hr] at GE ⊢
    have HT := Lib.hid h
    have HV := Lib.hid hv
    clear h hv hx hy hz hiv hfg hpq ht hG hyb hzb TE hr hE hf hg hp hq h4
    go_enter Tryd.func104, Tryd.ntmps104
    go_upto_region 1 with fail
    obtain ⟨U, hU⟩ : ∃ U, U = ((w.alloc (Obj.cells #[.slice A n c] 29)).alloc (Obj.cells #[.int .i64 (a : Int), .int .i64 (f : Int), .int .i64 (b : Int), .int .i64 (g : Int), .int .u8 (x0 : Int), .int .u8 (x1 : Int), .int .u8 (x2 : Int), .int .u8 (x3 : Int)] 123)) := ⟨_, rfl⟩
    have hB : Below w.heap.size w U := by rw [hU]; exact al2 _ _ _
    have z : w.heap.size + 1 < U.heap.size := by rw [hU]; simp
    have KB : U.heap[w.heap.size + 1]? = some (Obj.cells #[.int .i64 (a : Int), .int .i64 (f : Int), .int .i64 (b : Int), .int .i64 (g : Int), .int .u8 (x0 : Int), .int .u8 (x1 : Int), .int .u8 (x2 : Int), .int .u8 (x3 : Int)] 123 (0, 0)) := by
      rw [hU]
      have e := World.alloc_heap_new (w.alloc (Obj.cells #[.slice A n c] 29)) (Obj.cells #[.int .i64 (a : Int), .int .i64 (f : Int), .int .i64 (b : Int), .int .i64 (g : Int), .int .u8 (x0 : Int), .int .u8 (x1 : Int), .int .u8 (x2 : Int), .int .u8 (x3 : Int)] 123)
      rw [World.size_alloc] at e
      exact e
    have SB : U.cell? ⟨w.heap.size, 0, none⟩ = some (.slice A n c) := by rw [hU]; simp [go_sem]
    have KX := Lib.hid (fun (W : World) (hb : Below U.heap.size U W) => (hb.block (w.heap.size + 1) (by omega)).trans KB)
    have SX := Lib.hid (fun (W : World) (hb : Below U.heap.size U W) => (hb.cell (p := ⟨w.heap.size, 0, none⟩) (by dsimp only; omega)).trans SB)
    have k0 := cell_of_row U _ 0 _ _ _ KB
    have k1 := cell_of_row U _ 1 _ _ _ KB
    have k2 := cell_of_row U _ 2 _ _ _ KB
    have k3 := cell_of_row U _ 3 _ _ _ KB
    have k4 := cell_of_row U _ 4 _ _ _ KB
    have k5 := cell_of_row U _ 5 _ _ _ KB
    have k6 := cell_of_row U _ 6 _ _ _ KB
    have k7 := cell_of_row U _ 7 _ _ _ KB
    simp only [List.getElem?_toArray, List.getElem?_cons_zero, List.getElem?_cons_succ] at k0 k1 k2 k3 k4 k5 k6 k7
    have RT := Lib.hid (fun (W : World) (hb : Below U.heap.size U W) => (HT.out.into (hB.trans (hb.mono (by omega)))))
    have VX := Lib.hid (fun (W : World) (hb : Below U.heap.size U W) => (HV.out.1.below (hB.trans (hb.mono (by omega))) h0.1))
    rw [← hU]
    have DU := Lib.hid (fun (W : World) (hb : Below U.heap.size U W) => (hB.trans (hb.mono (by omega))))
    have CUR := Lib.hid (Below.refl U.heap.size U)
    have te := TN.out
    have ge := GE.out
    clear hU hB KB

    go_region_held3 (fun W => W.cell? ⟨w.heap.size, 0, none⟩ = some (.slice A n c) ∧ W.cell? ⟨w.heap.size + 1, 0, none⟩ = some (.int .i64 (a : Int)) ∧ W.cell? ⟨w.heap.size + 1, 1, none⟩ = some (.int .i64 (f : Int)) ∧ W.cell? ⟨w.heap.size + 1, 2, none⟩ = some (.int .i64 (b : Int)) ∧ W.cell? ⟨w.heap.size + 1, 3, none⟩ = some (.int .i64 (g : Int)) ∧ W.cell? ⟨w.heap.size + 1, 4, none⟩ = some (.int .u8 (x0 : Int)) ∧ W.cell? ⟨w.heap.size + 1, 5, none⟩ = some (.int .u8 (x1 : Int)) ∧ W.cell? ⟨w.heap.size + 1, 6, none⟩ = some (.int .u8 (x2 : Int)) ∧ W.cell? ⟨w.heap.size + 1, 7, none⟩ = some (.int .u8 (x3 : Int))) (go_keep) (first
      | (go_at_call 93; (with_reducible refine (DT.out _ (by first | exact RT.out _ CUR.out | exact RT.out _ CUR.out.drew)).mono ?_); rintro e w6 ⟨rfl, hb6'⟩; (first | have hb6 := undrew hb6' | have hb6 := hb6'); replace CUR := Lib.hid (CUR.out.trans (hb6.mono CUR.out.size)); have KB := KX.out w6 CUR.out; have SB := SX.out w6 CUR.out; have k0 := cell_of_row w6 _ 0 _ _ _ KB; have k1 := cell_of_row w6 _ 1 _ _ _ KB; have k2 := cell_of_row w6 _ 2 _ _ _ KB; have k3 := cell_of_row w6 _ 3 _ _ _ KB; have k4 := cell_of_row w6 _ 4 _ _ _ KB; have k5 := cell_of_row w6 _ 5 _ _ _ KB; have k6 := cell_of_row w6 _ 6 _ _ _ KB; have k7 := cell_of_row w6 _ 7 _ _ _ KB; simp only [List.getElem?_toArray, List.getElem?_cons_zero, List.getElem?_cons_succ] at k0 k1 k2 k3 k4 k5 k6 k7; clear KB hb6 hb6')
      | (go_at_call 92; (with_reducible refine (GO.out _ (by first | exact VX.out _ CUR.out | exact VX.out _ CUR.out.drew)).mono ?_); rintro e w7 ⟨rfl, hb6'⟩; (first | have hb6 := undrew hb6' | have hb6 := hb6'); replace CUR := Lib.hid (CUR.out.trans (hb6.mono CUR.out.size)); have KB := KX.out w7 CUR.out; have SB := SX.out w7 CUR.out; have k0 := cell_of_row w7 _ 0 _ _ _ KB; have k1 := cell_of_row w7 _ 1 _ _ _ KB; have k2 := cell_of_row w7 _ 2 _ _ _ KB; have k3 := cell_of_row w7 _ 3 _ _ _ KB; have k4 := cell_of_row w7 _ 4 _ _ _ KB; have k5 := cell_of_row w7 _ 5 _ _ _ KB; have k6 := cell_of_row w7 _ 6 _ _ _ KB; have k7 := cell_of_row w7 _ 7 _ _ _ KB; simp only [List.getElem?_toArray, List.getElem?_cons_zero, List.getElem?_cons_succ] at k0 k1 k2 k3 k4 k5 k6 k7; clear KB hb6 hb6')
      | (go_at_call 150; (with_reducible refine (RV.out _).mono ?_); rintro e w8 ⟨rfl, hb6'⟩; (first | have hb6 := undrew hb6' | have hb6 := hb6'); replace CUR := Lib.hid (CUR.out.trans (hb6.mono CUR.out.size)); have KB := KX.out w8 CUR.out; have SB := SX.out w8 CUR.out; have k0 := cell_of_row w8 _ 0 _ _ _ KB; have k1 := cell_of_row w8 _ 1 _ _ _ KB; have k2 := cell_of_row w8 _ 2 _ _ _ KB; have k3 := cell_of_row w8 _ 3 _ _ _ KB; have k4 := cell_of_row w8 _ 4 _ _ _ KB; have k5 := cell_of_row w8 _ 5 _ _ _ KB; have k6 := cell_of_row w8 _ 6 _ _ _ KB; have k7 := cell_of_row w8 _ 7 _ _ _ KB; simp only [List.getElem?_toArray, List.getElem?_cons_zero, List.getElem?_cons_succ] at k0 k1 k2 k3 k4 k5 k6 k7; clear KB hb6 hb6'))
    all_goals
      go_wp2
      go_ret
      exact ⟨rfl, by first | exact DU.out _ CUR.out | exact DU.out _ CUR.out.drew⟩

end Fc
end Go.Proofs.YtjendlfophdfeaaDoor
