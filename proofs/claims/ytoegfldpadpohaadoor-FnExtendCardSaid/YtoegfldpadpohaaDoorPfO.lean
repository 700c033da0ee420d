/- The program's composition, inverse and index, by its map. No condition but those that each theorem names. -/
import Derived.Test.YtoegfldpadpohaaDoorPfN
namespace Go.Proofs.YtoegfldpadpohaaDoor
open Go.RowKit

/-- What a look-up in the map gives. -/
theorem MapAt.look {W : World} {b : Nat} (h : MapAt W b) {x0 x1 x2 x3 : Nat} (b0 : x0 < 4) (b1 : x1 < 4) (b2 : x2 < 4) (b3 : x3 < 4) :
    (Instr.lookup 44 (.map (some b)) (.agg #[.int .u8 (x0 : Int), .int .u8 (x1 : Int), .int .u8 (x2 : Int), .int .u8 (x3 : Int)]) false).run Tryd.prog W = .ok (.int .i64 (if P4.ix [(x0 : Int), (x1 : Int), (x2 : Int), (x3 : Int)] < 24 then (P4.ix [(x0 : Int), (x1 : Int), (x2 : Int), (x3 : Int)] : Int) else 0)) W := by
  obtain ⟨c, hrun, hat, _⟩ := World.ownsMap.lookup_int h lawK Tryd.underlying44 Tryd.underlying2 (zeroI W) (keyL_of b0 b1 b2 b3)
  have hl := look_all x0 b0 x1 b1 x2 b2 x3 b3
  rw [hat] at hl
  have e := Option.some.inj hl
  rw [← e]
  exact hrun

set_option maxHeartbeats 4000000 in
theorem invert_impl (p : Nat) (w : World) (hp : p < 24) (ht : Tb w) :
    Calls Tryd.prog 17 #[.int .i64 p] w (ResI w (P4.ivt p)) := by
  have HP := Lib.hid (show (0 : Int) ≤ (p : Int) ∧ (p : Int) < 24 from by omega)
  have i1 : (p : Int) < 24 := by omega
  have i2 : (0 : Int) ≤ (p : Int) := by omega
  have TD := Lib.hid (show Tb w.drew from ht)
  have h0 : 0 < w.heap.size := World.block_lt_of_cell? w ⟨0, 0, none⟩ (ht 0 (.int .u8 0) rfl)
  obtain ⟨x0, x1, x2, x3, hx, _, c0, c1, c2, c3⟩ := ht.four hp
  have RL := Lib.hid (show L4 (P4.invk (P4.im p) 4) from by rw [← P4.ivt_im hp]; exact L4.im (P4.inv_ix p hp))
  obtain ⟨r0, r1, r2, r3, hr, b0, b1, b2, b3⟩ := RL.out.four
  have IX := Lib.hid (show (if P4.ix [(r0 : Int), (r1 : Int), (r2 : Int), (r3 : Int)] < 24 then (P4.ix [(r0 : Int), (r1 : Int), (r2 : Int), (r3 : Int)] : Int) else 0) = (P4.ivt p : Int) from by
    rw [← hr]
    exact if_pos (P4.inv_ix p hp))
  have PI := Lib.hid (show ∀ W, Calls Tryd.prog 40 #[.agg #[.int .u8 (x0 : Int), .int .u8 (x1 : Int), .int .u8 (x2 : Int), .int .u8 (x3 : Int)]] W (fun e w' => e = .returned (.agg #[.int .u8 (r0 : Int), .int .u8 (r1 : Int), .int .u8 (r2 : Int), .int .u8 (r3 : Int)]) ∧ Below W.heap.size W w') from fun W => by
    have h := pinv_impl (P4.im p) W (L4.im hp) RL.out
    rw [hr, hx] at h
    exact h)
  clear hx hr ht
  go_enter Tryd.func17, Tryd.ntmps17
  go_wp2_with fail
  refine (isPerm4_yes _ _ HP.out.1 HP.out.2).mono ?_
  rintro e w0 ⟨rfl, rfl⟩
  go_wp2_with fail
  go_region_held3 (fun W => W.cell? ⟨0, p * 4, none⟩ = some (.int .u8 (x0 : Int)) ∧ W.cell? ⟨0, p * 4 + 1, none⟩ = some (.int .u8 (x1 : Int)) ∧ W.cell? ⟨0, p * 4 + 2, none⟩ = some (.int .u8 (x2 : Int)) ∧ W.cell? ⟨0, p * 4 + 3, none⟩ = some (.int .u8 (x3 : Int))) (go_keep)
    (first
      | (go_at_call 38; (with_reducible refine (indices_impl _ (by exact TD.out)).mono ?_); rintro e w1 ⟨rfl, hm, hb'⟩; have hb := undrew hb'; have l1 : w.heap.size < w1.heap.size := World.ownsMap.lt hm; have M1 := Lib.hid (show MapAt w1 w.heap.size from hm); have B1 := Lib.hid hb; have z1 := hb.size; have e0 := (hb.cell (p := ⟨0, p * 4, none⟩) h0).trans c0; have e1 := (hb.cell (p := ⟨0, p * 4 + 1, none⟩) h0).trans c1; have e2 := (hb.cell (p := ⟨0, p * 4 + 2, none⟩) h0).trans c2; have e3 := (hb.cell (p := ⟨0, p * 4 + 3, none⟩) h0).trans c3; clear hm hb hb')
      | (go_at_call 40; (with_reducible refine (PI.out _).mono ?_); rintro e w2 ⟨rfl, hb2⟩; have lk := MapAt.look (owns_below M1.out hb2 (by omega)) b0 b1 b2 b3; rw [IX.out] at lk; have D2 := Lib.hid (B1.out.trans (hb2.mono z1)); have f0 := (hb2.cell (p := ⟨0, p * 4, none⟩) (by dsimp only; omega)).trans e0; have f1 := (hb2.cell (p := ⟨0, p * 4 + 1, none⟩) (by dsimp only; omega)).trans e1; have f2 := (hb2.cell (p := ⟨0, p * 4 + 2, none⟩) (by dsimp only; omega)).trans e2; have f3 := (hb2.cell (p := ⟨0, p * 4 + 3, none⟩) (by dsimp only; omega)).trans e3; clear hb2))
  all_goals
    go_wp2
    go_ret
    exact ⟨rfl, D2.out⟩
theorem invert_impl_no (p : Int) (w : World) (hp : ¬ (0 ≤ p ∧ p < 24)) :
    Calls Tryd.prog 17 #[.int .i64 p] w fun e w' => e = .returned (.int .i64 (-1)) ∧ w = w' := by
  have HP := Lib.hid hp
  clear hp
  go_enter Tryd.func17, Tryd.ntmps17
  go_wp2_with fail
  refine (isPerm4_no _ _ HP.out).mono ?_
  rintro e w0 ⟨rfl, rfl⟩
  go_wp2
  go_ret
  exact ⟨rfl, rfl⟩

set_option maxHeartbeats 4000000 in
theorem compose_impl (p q : Nat) (w : World) (hp : p < 24) (hq : q < 24) (ht : Tb w) :
    Calls Tryd.prog 16 #[.int .i64 p, .int .i64 q] w (ResI w (P4.thn p q)) := by
  have HP := Lib.hid (show (0 : Int) ≤ (p : Int) ∧ (p : Int) < 24 from by omega)
  have HQ := Lib.hid (show (0 : Int) ≤ (q : Int) ∧ (q : Int) < 24 from by omega)
  have i1 : (p : Int) < 24 := by omega
  have i2 : (0 : Int) ≤ (p : Int) := by omega
  have j1 : (q : Int) < 24 := by omega
  have j2 : (0 : Int) ≤ (q : Int) := by omega
  have TD := Lib.hid (show Tb w.drew from ht)
  have h0 : 0 < w.heap.size := World.block_lt_of_cell? w ⟨0, 0, none⟩ (ht 0 (.int .u8 0) rfl)
  obtain ⟨x0, x1, x2, x3, hx, _, c0, c1, c2, c3⟩ := ht.four hp
  obtain ⟨y0, y1, y2, y3, hy, _, d0, d1, d2, d3⟩ := ht.four hq
  have RL := Lib.hid (P4.comp_L4 (L4.im hp) (L4.im hq))
  obtain ⟨r0, r1, r2, r3, hr, b0, b1, b2, b3⟩ := RL.out.four
  have IX := Lib.hid (show (if P4.ix [(r0 : Int), (r1 : Int), (r2 : Int), (r3 : Int)] < 24 then (P4.ix [(r0 : Int), (r1 : Int), (r2 : Int), (r3 : Int)] : Int) else 0) = (P4.thn p q : Int) from by
    rw [← hr]
    exact if_pos (P4.comp_ix p hp q hq))
  have PI := Lib.hid (show ∀ W, Calls Tryd.prog 39 #[.agg #[.int .u8 (x0 : Int), .int .u8 (x1 : Int), .int .u8 (x2 : Int), .int .u8 (x3 : Int)], .agg #[.int .u8 (y0 : Int), .int .u8 (y1 : Int), .int .u8 (y2 : Int), .int .u8 (y3 : Int)]] W (fun e w' => e = .returned (.agg #[.int .u8 (r0 : Int), .int .u8 (r1 : Int), .int .u8 (r2 : Int), .int .u8 (r3 : Int)]) ∧ Below W.heap.size W w') from fun W => by
    have h := pthen_impl (P4.im p) (P4.im q) W (L4.im hp) (L4.im hq)
    unfold ResA at h
    rw [hr, hx, hy] at h
    exact h)
  clear hx hy hr ht
  go_enter Tryd.func16, Tryd.ntmps16
  go_wp2_with fail
  refine (isPerm4_yes _ _ HP.out.1 HP.out.2).mono ?_
  rintro e w0 ⟨rfl, rfl⟩
  go_wp2_with fail
  refine (isPerm4_yes _ _ HQ.out.1 HQ.out.2).mono ?_
  rintro e w0 ⟨rfl, rfl⟩
  go_wp2_with fail
  go_region_held3 (fun W => (W.cell? ⟨0, p * 4, none⟩ = some (.int .u8 (x0 : Int)) ∧ W.cell? ⟨0, p * 4 + 1, none⟩ = some (.int .u8 (x1 : Int)) ∧ W.cell? ⟨0, p * 4 + 2, none⟩ = some (.int .u8 (x2 : Int)) ∧ W.cell? ⟨0, p * 4 + 3, none⟩ = some (.int .u8 (x3 : Int))) ∧ (W.cell? ⟨0, q * 4, none⟩ = some (.int .u8 (y0 : Int)) ∧ W.cell? ⟨0, q * 4 + 1, none⟩ = some (.int .u8 (y1 : Int)) ∧ W.cell? ⟨0, q * 4 + 2, none⟩ = some (.int .u8 (y2 : Int)) ∧ W.cell? ⟨0, q * 4 + 3, none⟩ = some (.int .u8 (y3 : Int)))) (go_keep)
    (first
      | (go_at_call 38; (with_reducible refine (indices_impl _ (by exact TD.out)).mono ?_); rintro e w1 ⟨rfl, hm, hb'⟩; have hb := undrew hb'; have l1 : w.heap.size < w1.heap.size := World.ownsMap.lt hm; have M1 := Lib.hid (show MapAt w1 w.heap.size from hm); have B1 := Lib.hid hb; have z1 := hb.size; have e0 := (hb.cell (p := ⟨0, p * 4, none⟩) h0).trans c0; have e1 := (hb.cell (p := ⟨0, p * 4 + 1, none⟩) h0).trans c1; have e2 := (hb.cell (p := ⟨0, p * 4 + 2, none⟩) h0).trans c2; have e3 := (hb.cell (p := ⟨0, p * 4 + 3, none⟩) h0).trans c3; have g0 := (hb.cell (p := ⟨0, q * 4, none⟩) h0).trans d0; have g1 := (hb.cell (p := ⟨0, q * 4 + 1, none⟩) h0).trans d1; have g2 := (hb.cell (p := ⟨0, q * 4 + 2, none⟩) h0).trans d2; have g3 := (hb.cell (p := ⟨0, q * 4 + 3, none⟩) h0).trans d3; clear hm hb hb')
      | (go_at_call 39; (with_reducible refine (PI.out _).mono ?_); rintro e w2 ⟨rfl, hb2⟩; have lk := MapAt.look (owns_below M1.out hb2 (by omega)) b0 b1 b2 b3; rw [IX.out] at lk; have D2 := Lib.hid (B1.out.trans (hb2.mono z1)); have f0 := (hb2.cell (p := ⟨0, p * 4, none⟩) (by dsimp only; omega)).trans e0; have f1 := (hb2.cell (p := ⟨0, p * 4 + 1, none⟩) (by dsimp only; omega)).trans e1; have f2 := (hb2.cell (p := ⟨0, p * 4 + 2, none⟩) (by dsimp only; omega)).trans e2; have f3 := (hb2.cell (p := ⟨0, p * 4 + 3, none⟩) (by dsimp only; omega)).trans e3; have k0 := (hb2.cell (p := ⟨0, q * 4, none⟩) (by dsimp only; omega)).trans g0; have k1 := (hb2.cell (p := ⟨0, q * 4 + 1, none⟩) (by dsimp only; omega)).trans g1; have k2 := (hb2.cell (p := ⟨0, q * 4 + 2, none⟩) (by dsimp only; omega)).trans g2; have k3 := (hb2.cell (p := ⟨0, q * 4 + 3, none⟩) (by dsimp only; omega)).trans g3; clear hb2))
  all_goals
    go_wp2
    go_ret
    exact ⟨rfl, D2.out⟩
theorem compose_impl_no (p q : Int) (w : World) (h : ¬ ((0 ≤ p ∧ p < 24) ∧ (0 ≤ q ∧ q < 24))) :
    Calls Tryd.prog 16 #[.int .i64 p, .int .i64 q] w fun e w' => e = .returned (.int .i64 (-1)) ∧ w = w' := by
  by_cases hp : 0 ≤ p ∧ p < 24
  · have HP := Lib.hid hp
    have HQ := Lib.hid (show ¬ (0 ≤ q ∧ q < 24) from fun hq => h ⟨hp, hq⟩)
    clear hp h
    go_enter Tryd.func16, Tryd.ntmps16
    go_wp2_with fail
    refine (isPerm4_yes _ _ HP.out.1 HP.out.2).mono ?_
    rintro e w0 ⟨rfl, rfl⟩
    go_wp2_with fail
    refine (isPerm4_no _ _ HQ.out).mono ?_
    rintro e w0 ⟨rfl, rfl⟩
    go_wp2
    go_ret
    exact ⟨rfl, rfl⟩
  · have HP := Lib.hid hp
    clear hp h
    go_enter Tryd.func16, Tryd.ntmps16
    go_wp2_with fail
    refine (isPerm4_no _ _ HP.out).mono ?_
    rintro e w0 ⟨rfl, rfl⟩
    go_wp2
    go_ret
    exact ⟨rfl, rfl⟩

end Go.Proofs.YtoegfldpadpohaaDoor
