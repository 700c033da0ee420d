/- Texts of one proof laid together. No condition but those that each theorem names. -/
import Derived.Test.YtjendlfophdfeaaDoorG0a
import Derived.StillTailTactics
import Derived.Deep.DeepCutAuto
import Derived.Test.YtjendlfophdfeaaDoorFcJ
import Derived.Test.YtjendlfophdfeaaDoorFcK
namespace Go.Proofs.YtjendlfophdfeaaDoor
open Go.RowKit
namespace Sk
/-- Three lists of marks of the call's own. -/
structure Mw (W : World) (n a0 a1 a2 a3 : Nat) (Av Ae Af : Option Addr) (cv ce cf : Nat) (M : M3) : Prop where
  v : Own W a0 a1 Av (4 * n) cv M.v
  e : Own W a1 a2 Ae (6 * n) ce M.e
  f : Own W a2 a3 Af (4 * n) cf M.f
  o1 : a0 ≤ a1
  o2 : a1 ≤ a2
  o3 : a2 ≤ a3
  top : a3 ≤ W.heap.size
section
variable {W W' : World} {n a0 a1 a2 a3 : Nat} {Av Ae Af : Option Addr} {cv ce cf : Nat} {M : M3}
theorem Mw.below {B : Nat} (h : Mw W n a0 a1 a2 a3 Av Ae Af cv ce cf M) (hb : Below B W W') (hB : a3 ≤ B) : Mw W' n a0 a1 a2 a3 Av Ae Af cv ce cf M := by
  obtain ⟨v, e, f, o1, o2, o3, t⟩ := h
  exact ⟨v.below hb (by omega), e.below hb (by omega), f.below hb (by omega), o1, o2, o3, Nat.le_trans t hb.size⟩
theorem Mw.inV (h : Mw W n a0 a1 a2 a3 Av Ae Af cv ce cf M) {m : List Int} (hO : Own W' a0 a1 Av (4 * n) cv m) (hk : Kept a0 a1 W W') : Mw W' n a0 a1 a2 a3 Av Ae Af cv ce cf { M with v := m } := by
  obtain ⟨v, e, f, o1, o2, o3, t⟩ := h
  exact ⟨hO, e.kept hk (by omega) (.inr (by omega)), f.kept hk (by omega) (.inr (by omega)), o1, o2, o3, Nat.le_trans t hk.size⟩
theorem Mw.inE (h : Mw W n a0 a1 a2 a3 Av Ae Af cv ce cf M) {m : List Int} (hO : Own W' a1 a2 Ae (6 * n) ce m) (hk : Kept a1 a2 W W') : Mw W' n a0 a1 a2 a3 Av Ae Af cv ce cf { M with e := m } := by
  obtain ⟨v, e, f, o1, o2, o3, t⟩ := h
  exact ⟨v.kept hk (by omega) (.inl (by omega)), hO, f.kept hk (by omega) (.inr (by omega)), o1, o2, o3, Nat.le_trans t hk.size⟩
theorem Mw.inF (h : Mw W n a0 a1 a2 a3 Av Ae Af cv ce cf M) {m : List Int} (hO : Own W' a2 a3 Af (4 * n) cf m) (hk : Kept a2 a3 W W') : Mw W' n a0 a1 a2 a3 Av Ae Af cv ce cf { M with f := m } := by
  obtain ⟨v, e, f, o1, o2, o3, t⟩ := h
  exact ⟨v.kept hk (by omega) (.inl (by omega)), e.kept hk (by omega) (.inl (by omega)), hO, o1, o2, o3, Nat.le_trans t hk.size⟩
end
theorem at_specN (p k : Nat) (w : World) (hp : p < 24) (hk : k < 4) : Calls Tryd.prog 67 #[.int .i64 (p : Int), .int .i64 (k : Int)] w (ResI w (gm p k : Int)) := by
  have := at_spec p k w hp hk
  rwa [(gm_all p hp k hk).1] at this
theorem edge_specN (p e : Nat) (w : World) (hp : p < 24) (he : e < 6) : Calls Tryd.prog 157 #[.int .i64 (gm p (eN e).1 : Int), .int .i64 (gm p (eN e).2 : Int)] w (ResI w (eB p e : Int)) := by
  obtain ⟨-, -, h1, h2⟩ := eN_all e he
  have := Eg.l08Edge_spec (gm p (eN e).1) (gm p (eN e).2) w (gm_all p hp _ h1).2 (gm_all p hp _ h2).2
  rwa [(eB_all p hp e he).1] at this
/-- What l08Count hands back. -/
def ResCt (w : World) (T : List (List Int)) (e : Ending) (w' : World) : Prop :=
  ∃ Av cv Ae ce Af cf Ac cc, ∃ rv re rf : List Rw, e = .returned (.tuple #[.agg #[.slice Av rv.length cv, .slice Ae re.length ce, .slice Af rf.length cf], .slice Ac 4 cc]) ∧
    (RdS w' w'.heap.size Av rv ∧ vals rv = tabV T) ∧ (RdS w' w'.heap.size Ae re ∧ vals re = tabE T) ∧ (RdS w' w'.heap.size Af rf ∧ vals rf = tabF T) ∧
    ((4 ≤ cc ∧ cc ≤ maxLen) ∧ Mine w' w.heap.size w'.heap.size Ac 4 [(cntV T : Int), cntE T, cntF T, T.length]) ∧ Below w.heap.size w w'
theorem kc' {lo hi o c : Nat} {u : Value} {w w' : World} (h : Kept lo hi w w') (h3 : w.cell? ⟨o, c, none⟩ = some u) (h2 : ¬ (lo ≤ o ∧ o < hi)) : w'.cell? ⟨o, c, none⟩ = some u :=
  (World.cell?_of_block (a := ⟨o, c, none⟩) (h.block o (World.block_lt_of_cell? w _ h3) h2)).trans h3
theorem free_setO {w : World} {g : Nat} (h : Free w g) (a : Addr) (u : Value) : Free (w.setCell a u) g := fun o => by
  have := h o
  simpa [go_sem] using this
set_option maxRecDepth 100000 in
set_option maxHeartbeats 32000000 in
theorem count_spec (A : Option Addr) (n c : Nat) (T : List (List Int)) (w : World) (h : Fc.RdT w w.heap.size A n T) (hIs : Tr.Is T) :
    Calls Tryd.prog 115 #[.agg #[.slice A n c]] w (ResCt w T) := by
  have LN := Lib.hid h.len
  have h8 : n ≤ 8 := by rw [← LN.out]; exact hIs.1
  have HT := Lib.hid h
  have IS := Lib.hid hIs
  clear h hIs
  obtain ⟨U, hU⟩ : ∃ U, U = (w.alloc (Obj.cells #[.slice A n c] 29)).alloc (Obj.cells #[.slice none 0 0, .slice none 0 0, .slice none 0 0] 59) := ⟨_, rfl⟩
  have hB : Below w.heap.size w U := by rw [hU]; exact al2 w _ _
  obtain ⟨z, zb⟩ : U.heap.size ≤ w.heap.size + 2 ∧ w.heap.size + 2 ≤ U.heap.size := by rw [hU]; simp
  have k0 : U.cell? ⟨w.heap.size, 0, none⟩ = some (.slice A n c) := by rw [hU]; simp [go_sem]
  have k1 : U.cell? ⟨w.heap.size + 1, 0, none⟩ = some (.slice none 0 0) := by rw [hU]; simp [go_sem]
  have k2 : U.cell? ⟨w.heap.size + 1, 1, none⟩ = some (.slice none 0 0) := by rw [hU]; simp [go_sem]
  have k3 : U.cell? ⟨w.heap.size + 1, 2, none⟩ = some (.slice none 0 0) := by rw [hU]; simp [go_sem]
  have FU := Lib.hid (show Free U (w.heap.size + 1) from by rw [hU]; have := Free.new (w.alloc (Obj.cells #[.slice A n c] 29)) 59 #[.slice none 0 0, .slice none 0 0, .slice none 0 0]; simpa using this)
  have DU := Lib.hid hB
  clear hB
  obtain ⟨nv, hnv⟩ : ∃ nv, 4 * n = nv := ⟨_, rfl⟩
  obtain ⟨ne, hne⟩ : ∃ ne, 6 * n = ne := ⟨_, rfl⟩
  have e4 : IntKind.i64.wrap (4 * (n : Int)) = (nv : Int) := by rw [show 4 * (n : Int) = (nv : Int) by omega]; exact IntWalk.i64_in _ (by omega)
  have e6 : IntKind.i64.wrap (6 * (n : Int)) = (ne : Int) := by rw [show 6 * (n : Int) = (ne : Int) by omega]; exact IntWalk.i64_in _ (by omega)
  have nv1 : nv ≤ 32 := by omega
  have ne1 : ne ≤ 48 := by omega
  go_enter Tryd.func115, Tryd.ntmps115
  go_upto_region 1 with fail
  rw [← hU]
  clear hU
  go_wp2_with fail
  (with_reducible refine (Fc.tets_spec A n c _).mono ?_)
  rintro e w1 ⟨rfl, hb1⟩
  have D1 := Lib.hid hb1
  have z1 := hb1.size
  clear hb1
  go_wp2_with fail
  (with_reducible refine (fresh_spec nv _ (by omega)).mono ?_)
  rintro e w2 ⟨Av, nv', cv, rfl, hl2, hO2, hb2⟩
  rw [fresh_len] at hl2
  obtain rfl : nv = nv' := hl2
  have O2 := Lib.hid hO2
  have D2 := Lib.hid hb2
  have z2 := hb2.size
  clear hO2 hb2
  go_wp2_with fail
  (with_reducible refine (fresh_spec ne _ (by omega)).mono ?_)
  rintro e w3 ⟨Ae, ne', ce, rfl, hl3, hO3, hb3⟩
  rw [fresh_len] at hl3
  obtain rfl : ne = ne' := hl3
  have O3 := Lib.hid hO3
  have D3 := Lib.hid hb3
  have z3 := hb3.size
  clear hO3 hb3
  go_wp2_with fail
  (with_reducible refine (fresh_spec nv _ (by omega)).mono ?_)
  rintro e w4 ⟨Af, nf', cf, rfl, hl4, hO4, hb4⟩
  rw [fresh_len] at hl4
  obtain rfl : nv = nf' := hl4
  have z4 := hb4.size
  have M0 := Lib.hid (show Mw w4 n w1.heap.size w2.heap.size w3.heap.size w4.heap.size Av Ae Af cv ce cf (M3.start n) from ⟨by
      show Own _ _ _ _ (4 * n) _ (fresh (4 * n)); rw [hnv]; exact (O2.out.below D3.out (Nat.le_refl _)).below hb4 z3, by
      show Own _ _ _ _ (6 * n) _ (fresh (6 * n)); rw [hne]; exact O3.out.below hb4 (Nat.le_refl _), by
      show Own _ _ _ _ (4 * n) _ (fresh (4 * n)); rw [hnv]; exact hO4, z2, z3, z4, Nat.le_refl _⟩)
  have D4 := Lib.hid (((D1.out.trans (D2.out.mono z1)).trans (D3.out.mono (by omega))).trans (hb4.mono (by omega)))
  have k0 := (D4.out.cell (p := ⟨w.heap.size, 0, none⟩) (by dsimp only; omega)).trans k0
  have k1 := (D4.out.cell (p := ⟨w.heap.size + 1, 0, none⟩) (by dsimp only; omega)).trans k1
  have k2 := (D4.out.cell (p := ⟨w.heap.size + 1, 1, none⟩) (by dsimp only; omega)).trans k2
  have k3 := (D4.out.cell (p := ⟨w.heap.size + 1, 2, none⟩) (by dsimp only; omega)).trans k3
  have F4 := Lib.hid (FU.out.below D4.out (by omega))
  have DD := Lib.hid (DU.out.trans (D4.out.mono (by omega)))
  obtain ⟨a0, ha0⟩ : ∃ a0, w1.heap.size = a0 := ⟨_, rfl⟩
  obtain ⟨a1, ha1⟩ : ∃ a1, w2.heap.size = a1 := ⟨_, rfl⟩
  obtain ⟨a2, ha2⟩ : ∃ a2, w3.heap.size = a2 := ⟨_, rfl⟩
  obtain ⟨a3, ha3⟩ : ∃ a3, w4.heap.size = a3 := ⟨_, rfl⟩
  have A3 := Lib.hid ha3
  have HNV := Lib.hid hnv
  have HNE := Lib.hid hne
  rw [ha0, ha1, ha2, ha3] at M0
  rw [ha0] at z1 z2
  rw [ha1] at z2 z3
  rw [ha2] at z3 z4
  rw [ha3] at z4
  clear hO4 hb4 O2 O3 D1 D2 D3 FU D4 ha0 ha1 ha2 ha3 DU e4 e6 hnv hne
  go_wp2
  go_loopw [8] (fun i W => ∃ a : Nat, a ≤ n ∧ i = .int .i64 a ∧ Mw W n a0 a1 a2 a3 Av Ae Af cv ce cf (mupto T (M3.start n) (a * 4)) ∧ Kept a0 a3 w4 W) (fun i _ => n - (intOf i).toNat)
  case atStart => exact ⟨0, Nat.zero_le _, rfl, by rw [Nat.zero_mul]; exact M0.out, Kept.refl _ _ _⟩
  case round =>
    obtain ⟨Wo, rfl⟩ : ∃ W : World, W = wr := ⟨_, rfl⟩
    obtain ⟨a, ha, rfl, hM, hK⟩ := hrel
    have MW := Lib.hid hM
    have KW := Lib.hid hK
    have m0 := kc' hK k0 (by omega)
    have DW := Lib.hid (DD.out.trans (hK.below (B := w.heap.size) (by omega) (by have := A3.out; omega)))
    have zWo : w4.heap.size ≤ Wo.heap.size := hK.size
    have i0 : (0 : Int) ≤ (a : Int) := by omega
    clear hM hK M0
    by_cases hlt : a < n
    case neg =>
      obtain rfl : n = a := by omega
      have i1 : ¬ (n : Int) < (n : Int) := by omega
      have ET := Lib.hid (show mupto T (M3.start n) (n * 4) = MT T from by unfold MT; rw [LN.out])
      rw [ET.out] at MW
      obtain ⟨hl1, hl2, hl3⟩ := MT_len T
      rw [LN.out] at hl1 hl2 hl3
      obtain ⟨mk1, mk2, mk3⟩ := MT_mk IS.out
      have a3W : a3 ≤ Wo.heap.size := MW.out.top
      obtain ⟨A3l, A3r⟩ : w4.heap.size ≤ a3 ∧ a3 ≤ w4.heap.size := by have := A3.out; omega
      have TV := Lib.hid (show tabV T = tblS (MT T).v 4 n ∧ tabE T = tblS (MT T).e 6 n ∧ tabF T = tblS (MT T).f 4 n ∧ cntV T = rk (MT T).v nv ∧ cntE T = rk (MT T).e ne ∧ cntF T = rk (MT T).f nv from by
        unfold tabV tabE tabF cntV cntE cntF; rw [LN.out, HNV.out, HNE.out]; exact ⟨rfl, rfl, rfl, rfl, rfl, rfl⟩)
      obtain ⟨kb, hkb⟩ : ∃ kb, Wo.heap.size = kb := ⟨_, rfl⟩
      have kb1 : a3 ≤ kb := by omega
      have kb2 : w.heap.size + 1 < kb := by omega
      obtain ⟨P0, hP0⟩ : ∃ P0, P0 = (Wo.alloc (Obj.cells #[.slice none 0 0, .slice none 0 0, .slice none 0 0] 59)).alloc (Obj.cells #[.int .i64 0, .int .i64 0, .int .i64 0, .int .i64 (n : Int)] 2) := ⟨_, rfl⟩
      obtain ⟨zP, zPb⟩ : P0.heap.size ≤ kb + 2 ∧ kb + 2 ≤ P0.heap.size := by rw [hP0, ← hkb]; simp
      have p0 : P0.cell? ⟨kb, 0, none⟩ = some (.slice none 0 0) := by rw [hP0, ← hkb]; simp [go_sem]
      have p1 : P0.cell? ⟨kb, 1, none⟩ = some (.slice none 0 0) := by rw [hP0, ← hkb]; simp [go_sem]
      have p2 : P0.cell? ⟨kb, 2, none⟩ = some (.slice none 0 0) := by rw [hP0, ← hkb]; simp [go_sem]
      have FP := Lib.hid (show Free P0 kb from by rw [hP0, ← hkb]; exact (Free.new Wo 59 #[.slice none 0 0, .slice none 0 0, .slice none 0 0]).below (al1 _ _) (by simp))
      have BP := Lib.hid (show Blk P0 (kb + 1) [0, 0, 0, (n : Int)] from by rw [hP0, ← hkb]; have := Blk.new (Wo.alloc (Obj.cells #[.slice none 0 0, .slice none 0 0, .slice none 0 0] 59)) [0, 0, 0, (n : Int)]; simpa using this)
      have XP := Lib.hid (show Below kb Wo P0 from by rw [hP0, ← hkb]; exact al2 _ _ _)
      have MP := Lib.hid (MW.out.below XP.out (by omega))
      have DP := Lib.hid (show Below w.heap.size w P0 from DW.out.trans (XP.out.mono (by omega)))
      have r1 := (XP.out.cell (p := ⟨w.heap.size + 1, 0, none⟩) (by dsimp only; omega)).trans (kc' KW.out k1 (by omega))
      have r2 := (XP.out.cell (p := ⟨w.heap.size + 1, 1, none⟩) (by dsimp only; omega)).trans (kc' KW.out k2 (by omega))
      have r3 := (XP.out.cell (p := ⟨w.heap.size + 1, 2, none⟩) (by dsimp only; omega)).trans (kc' KW.out k3 (by omega))
      have FR := Lib.hid ((F4.out.kept KW.out (by omega) (by omega)).below XP.out (show w.heap.size + 1 < kb by omega))
      have R1 := Lib.hid (fun (W : World) (hM : Mw W n a0 a1 a2 a3 Av Ae Af cv ce cf (MT T)) => (show Calls Tryd.prog 158 #[.slice Av nv cv, .int .i64 4] W (ResRw2 W (tblS (MT T).v 4 n) (rk (MT T).v nv)) from
        rows_spec Av nv cv 4 n (MT T).v W (by have h7 := hM.v.ints; rw [HNV.out] at h7; exact h7.more (by have := hM.o2; have := hM.o3; have := hM.top; omega)) mk1 HNV.out h8 (by omega) (by omega)))
      have R2 := Lib.hid (fun (W : World) (hM : Mw W n a0 a1 a2 a3 Av Ae Af cv ce cf (MT T)) => (show Calls Tryd.prog 158 #[.slice Ae ne ce, .int .i64 6] W (ResRw2 W (tblS (MT T).e 6 n) (rk (MT T).e ne)) from
        rows_spec Ae ne ce 6 n (MT T).e W (by have h7 := hM.e.ints; rw [HNE.out] at h7; exact h7.more (by have := hM.o3; have := hM.top; omega)) mk2 HNE.out h8 (by omega) (by omega)))
      have R3 := Lib.hid (fun (W : World) (hM : Mw W n a0 a1 a2 a3 Av Ae Af cv ce cf (MT T)) => (show Calls Tryd.prog 158 #[.slice Af nv cf, .int .i64 4] W (ResRw2 W (tblS (MT T).f 4 n) (rk (MT T).f nv)) from
        rows_spec Af nv cf 4 n (MT T).f W (by have h7 := hM.f.ints; rw [HNV.out] at h7; exact h7.more hM.top) mk3 HNV.out h8 (by omega) (by omega)))
      obtain ⟨q1, hq1⟩ : ∃ q1, rk (MT T).v nv = q1 := ⟨_, rfl⟩
      obtain ⟨q2, hq2⟩ : ∃ q2, rk (MT T).e ne = q2 := ⟨_, rfl⟩
      obtain ⟨q3, hq3⟩ : ∃ q3, rk (MT T).f nv = q3 := ⟨_, rfl⟩
      rw [hq1, hq2, hq3] at TV
      rw [hq1] at R1
      rw [hq2] at R2
      rw [hq3] at R3
      have HKB := Lib.hid hkb
      have L3 := Lib.hid (show kb + 2 ≤ P0.heap.size from zPb)
      clear mk1 mk2 mk3 hl1 hl2 hl3 hq1 hq2 hq3 k0 k1 k2 k3 m0 MW XP KW DW F4 DD
      go_upto_region 27 with fail
      rw [← hP0]
      clear hP0 hkb
      go_wp2_with fail
      (with_reducible refine (R1.out _ MP.out).mono ?_)
      rintro e w5 ⟨A5, n5, c5, rs5, rfl, hl5, hO5, hv5, hb5⟩
      have p0 := (hb5.cell (p := ⟨kb, 0, none⟩) (by dsimp only; omega)).trans p0
      have p1 := (hb5.cell (p := ⟨kb, 1, none⟩) (by dsimp only; omega)).trans p1
      have p2 := (hb5.cell (p := ⟨kb, 2, none⟩) (by dsimp only; omega)).trans p2
      have f0 := (hb5.frozen (p := ⟨kb, 0, none⟩) (by dsimp only; omega)).trans (FP.out 0)
      have B5 := Lib.hid (BP.out.below hb5 (by omega))
      have b0 := B5.out.cell (i := 0) (by simp)
      have g0 := B5.out.frozen 0
      have z5 := hb5.size
      have kc1 : ¬ kb = kb + 1 := by omega
      have kc2 : ¬ kb + 1 = kb := by omega
      obtain ⟨P1, hP1⟩ : ∃ P1, P1 = (w5.setCell ⟨kb, 0, none⟩ (.slice A5 n5 c5)).setCell ⟨kb + 1, 0, none⟩ (.int .i64 (q1 : Int)) := ⟨_, rfl⟩
      have BB1 := Lib.hid (show Below kb P0 P1 from by rw [hP1]; exact ((hb5.mono (by omega)).setCell (by dsimp only; omega) _).setCell (by dsimp only; omega) _)
      have M1 := Lib.hid (MP.out.below BB1.out (by omega))
      have BP1 := Lib.hid (show Blk P1 (kb + 1) [(q1 : Int), 0, 0, (n : Int)] from by rw [hP1]; have := (B5.out.far (p := ⟨kb, 0, none⟩) (by dsimp only; omega) (.slice A5 n5 c5)).set_ 0 (q1 : Int); simpa using this)
      have S1 := Lib.hid (show OwnS P1 P0.heap.size w5.heap.size A5 c5 rs5 from by rw [hP1]; exact hO5.keep fun k h1 _ => by rw [Below.heap_setCell _ _ _ _ (by dsimp only; omega), Below.heap_setCell _ _ _ _ (by dsimp only; omega)])
      have V1 := Lib.hid hv5
      have L1 := Lib.hid hl5
      have zP1 : P1.heap.size = w5.heap.size := by rw [hP1]; simp [World.setCell]
      have Z1 := Lib.hid zP1
      have FP1 := Lib.hid (show Free P1 kb from by rw [hP1]; exact free_setO (free_setO (fun o => (hb5.frozen (p := ⟨kb, o, none⟩) (by dsimp only; omega)).trans (FP.out o)) _ _) _ _)
      have u0 : P1.cell? ⟨kb, 0, none⟩ = some (.slice A5 n5 c5) := by rw [hP1, World.cell?_setCell_other _ _ _ _ (by simp)]; exact World.cell?_setCell_same _ _ _ p0
      have u1 : P1.cell? ⟨kb, 1, none⟩ = some (.slice none 0 0) := by rw [hP1, World.cell?_setCell_other _ _ _ _ (by simp), World.cell?_setCell_other _ _ _ _ (by simp)]; exact p1
      have u2 : P1.cell? ⟨kb, 2, none⟩ = some (.slice none 0 0) := by rw [hP1, World.cell?_setCell_other _ _ _ _ (by simp), World.cell?_setCell_other _ _ _ _ (by simp)]; exact p2
      clear hO5 hv5 hb5 hl5 zP1 R1
      go_upto_region 28 with fail
      rw [← hP1]
      clear hP1 p0 p1 p2 b0 g0 f0 B5
      have zz1 : P0.heap.size ≤ P1.heap.size := BB1.out.size
      go_wp2_with fail
      (with_reducible refine (R2.out _ M1.out).mono ?_)
      rintro e w6 ⟨A6, n6, c6, rs6, rfl, hl6, hO6, hv6, hb6⟩
      have u0 := (hb6.cell (p := ⟨kb, 0, none⟩) (by dsimp only; omega)).trans u0
      have u1 := (hb6.cell (p := ⟨kb, 1, none⟩) (by dsimp only; omega)).trans u1
      have u2 := (hb6.cell (p := ⟨kb, 2, none⟩) (by dsimp only; omega)).trans u2
      have f1 := (hb6.frozen (p := ⟨kb, 1, none⟩) (by dsimp only; omega)).trans (FP1.out 1)
      have B6 := Lib.hid (BP1.out.below hb6 (by omega))
      have b1 := B6.out.cell (i := 1) (by simp)
      have g1 := B6.out.frozen 1
      have z6 := hb6.size
      obtain ⟨P2, hP2⟩ : ∃ P2, P2 = (w6.setCell ⟨kb, 1, none⟩ (.slice A6 n6 c6)).setCell ⟨kb + 1, 1, none⟩ (.int .i64 (q2 : Int)) := ⟨_, rfl⟩
      have BB2 := Lib.hid (show Below kb P1 P2 from by rw [hP2]; exact ((hb6.mono (by omega)).setCell (by dsimp only; omega) _).setCell (by dsimp only; omega) _)
      have M2 := Lib.hid (M1.out.below BB2.out (by omega))
      have BP2 := Lib.hid (show Blk P2 (kb + 1) [(q1 : Int), (q2 : Int), 0, (n : Int)] from by rw [hP2]; have := (B6.out.far (p := ⟨kb, 1, none⟩) (by dsimp only; omega) (.slice A6 n6 c6)).set_ 1 (q2 : Int); simpa using this)
      have S2 := Lib.hid (show OwnS P2 P1.heap.size w6.heap.size A6 c6 rs6 from by rw [hP2]; exact hO6.keep fun k h1 _ => by rw [Below.heap_setCell _ _ _ _ (by dsimp only; omega), Below.heap_setCell _ _ _ _ (by dsimp only; omega)])
      have S12 := Lib.hid (show OwnS P2 P0.heap.size w5.heap.size A5 c5 rs5 from by rw [hP2]; exact (S1.out.below hb6 (by have := Z1.out; omega)).keep fun k h1 _ => by rw [Below.heap_setCell _ _ _ _ (by dsimp only; omega), Below.heap_setCell _ _ _ _ (by dsimp only; omega)])
      have V2 := Lib.hid hv6
      have L2 := Lib.hid hl6
      have zP2 : P2.heap.size = w6.heap.size := by rw [hP2]; simp [World.setCell]
      have Z2 := Lib.hid zP2
      have FP2 := Lib.hid (show Free P2 kb from by rw [hP2]; exact free_setO (free_setO (fun o => (hb6.frozen (p := ⟨kb, o, none⟩) (by dsimp only; omega)).trans (FP1.out o)) _ _) _ _)
      have v0 : P2.cell? ⟨kb, 0, none⟩ = some (.slice A5 n5 c5) := by rw [hP2, World.cell?_setCell_other _ _ _ _ (by simp), World.cell?_setCell_other _ _ _ _ (by simp)]; exact u0
      have v1 : P2.cell? ⟨kb, 1, none⟩ = some (.slice A6 n6 c6) := by rw [hP2, World.cell?_setCell_other _ _ _ _ (by simp)]; exact World.cell?_setCell_same _ _ _ u1
      have v2 : P2.cell? ⟨kb, 2, none⟩ = some (.slice none 0 0) := by rw [hP2, World.cell?_setCell_other _ _ _ _ (by simp), World.cell?_setCell_other _ _ _ _ (by simp)]; exact u2
      clear hO6 hv6 hb6 hl6 zP2 R2
      go_upto_region 29 with fail
      rw [← hP2]
      clear hP2 u0 u1 u2 b1 g1 f1 B6 S1
      have zz2 : P1.heap.size ≤ P2.heap.size := BB2.out.size
      go_wp2_with fail
      (with_reducible refine (R3.out _ M2.out).mono ?_)
      rintro e w7 ⟨A7, n7, c7, rs7, rfl, hl7, hO7, hv7, hb7⟩
      have v0 := (hb7.cell (p := ⟨kb, 0, none⟩) (by dsimp only; omega)).trans v0
      have v1 := (hb7.cell (p := ⟨kb, 1, none⟩) (by dsimp only; omega)).trans v1
      have v2 := (hb7.cell (p := ⟨kb, 2, none⟩) (by dsimp only; omega)).trans v2
      have f1 := (hb7.frozen (p := ⟨kb, 2, none⟩) (by dsimp only; omega)).trans (FP2.out 2)
      have B7 := Lib.hid (BP2.out.below hb7 (by omega))
      have b1 := B7.out.cell (i := 2) (by simp)
      have g1 := B7.out.frozen 2
      have z7 := hb7.size
      obtain ⟨P3, hP3⟩ : ∃ P3, P3 = (w7.setCell ⟨kb, 2, none⟩ (.slice A7 n7 c7)).setCell ⟨kb + 1, 2, none⟩ (.int .i64 (q3 : Int)) := ⟨_, rfl⟩
      have BB3 := Lib.hid (show Below kb P2 P3 from by rw [hP3]; exact ((hb7.mono (by omega)).setCell (by dsimp only; omega) _).setCell (by dsimp only; omega) _)
      have BP3 := Lib.hid (show Blk P3 (kb + 1) [(q1 : Int), (q2 : Int), (q3 : Int), (n : Int)] from by rw [hP3]; have := (B7.out.far (p := ⟨kb, 2, none⟩) (by dsimp only; omega) (.slice A7 n7 c7)).set_ 2 (q3 : Int); simpa using this)
      have S3 := Lib.hid (show OwnS P3 P2.heap.size w7.heap.size A7 c7 rs7 from by rw [hP3]; exact hO7.keep fun k h1 _ => by rw [Below.heap_setCell _ _ _ _ (by dsimp only; omega), Below.heap_setCell _ _ _ _ (by dsimp only; omega)])
      have S22 := Lib.hid (show OwnS P3 P1.heap.size w6.heap.size A6 c6 rs6 from by rw [hP3]; exact (S2.out.below hb7 (by have := Z2.out; omega)).keep fun k h1 _ => by rw [Below.heap_setCell _ _ _ _ (by dsimp only; omega), Below.heap_setCell _ _ _ _ (by dsimp only; omega)])
      have S13 := Lib.hid (show OwnS P3 P0.heap.size w5.heap.size A5 c5 rs5 from by rw [hP3]; exact (S12.out.below hb7 (by have := Z1.out; omega)).keep fun k h1 _ => by rw [Below.heap_setCell _ _ _ _ (by dsimp only; omega), Below.heap_setCell _ _ _ _ (by dsimp only; omega)])
      have V3 := Lib.hid hv7
      have L3b := Lib.hid hl7
      have zP3 : P3.heap.size = w7.heap.size := by rw [hP3]; simp [World.setCell]
      have Z3 := Lib.hid zP3
      have t0 : P3.cell? ⟨kb, 0, none⟩ = some (.slice A5 n5 c5) := by rw [hP3, World.cell?_setCell_other _ _ _ _ (by simp), World.cell?_setCell_other _ _ _ _ (by simp)]; exact v0
      have t1 : P3.cell? ⟨kb, 1, none⟩ = some (.slice A6 n6 c6) := by rw [hP3, World.cell?_setCell_other _ _ _ _ (by simp), World.cell?_setCell_other _ _ _ _ (by simp)]; exact v1
      have t2 : P3.cell? ⟨kb, 2, none⟩ = some (.slice A7 n7 c7) := by rw [hP3, World.cell?_setCell_other _ _ _ _ (by simp)]; exact World.cell?_setCell_same _ _ _ v2
      have BBX := Lib.hid ((BB1.out.trans BB2.out).trans BB3.out)
      have r1 := (BBX.out.cell (p := ⟨w.heap.size + 1, 0, none⟩) (by dsimp only; omega)).trans r1
      have r2 := (BBX.out.cell (p := ⟨w.heap.size + 1, 1, none⟩) (by dsimp only; omega)).trans r2
      have r3 := (BBX.out.cell (p := ⟨w.heap.size + 1, 2, none⟩) (by dsimp only; omega)).trans r3
      have FR3 := Lib.hid (FR.out.below BBX.out (show w.heap.size + 1 < kb by omega))
      have e1 := FR3.out 0
      have e2 := FR3.out 1
      have e3 := FR3.out 2
      have DP3 := Lib.hid (DP.out.trans (BBX.out.mono (by omega)))
      clear hO7 hv7 hb7 hl7 zP3 R3
      go_upto_region 30 with fail
      rw [← hP3]
      clear hP3 v0 v1 v2 b1 g1 f1 B7 S2 S12
      go_wp2
      refine bodyPost_ret (v := .tuple #[.agg #[.slice A5 n5 c5, .slice A6 n6 c6, .slice A7 n7 c7], .slice (some ⟨kb + 1, 0, none⟩) 4 4]) (by simp [results, Tryd.results115, go_sem, r1, r2, r3]) rfl ?_
      obtain ⟨t1, t2, t3, t4, t5, t6⟩ := TV.out
      have n5' := L1.out
      have n6' := L2.out
      have n7' := L3b.out
      have hz3 := Z3.out
      have hz2 := Z2.out
      have hz1 := Z1.out
      have OS : ∀ (a b : Nat) (A' : Option Addr) (c' : Nat) (rs' : List Rw), kb ≤ a → b ≤ P3.heap.size → OwnS P3 a b A' c' rs' → RdS (((P3.setCell ⟨w.heap.size + 1, 0, none⟩ (.slice A5 n5 c5)).setCell ⟨w.heap.size + 1, 1, none⟩ (.slice A6 n6 c6)).setCell ⟨w.heap.size + 1, 2, none⟩ (.slice A7 n7 c7)) (((P3.setCell ⟨w.heap.size + 1, 0, none⟩ (.slice A5 n5 c5)).setCell ⟨w.heap.size + 1, 1, none⟩ (.slice A6 n6 c6)).setCell ⟨w.heap.size + 1, 2, none⟩ (.slice A7 n7 c7)).heap.size A' rs' := fun a b A' c' rs' h1 h2 h3 =>
        ((h3.keep fun k hk _ => by rw [Below.heap_setCell _ _ _ _ (by dsimp only; omega), Below.heap_setCell _ _ _ _ (by dsimp only; omega), Below.heap_setCell _ _ _ _ (by dsimp only; omega)]).rd).more (by simpa [World.setCell] using h2)
      refine ⟨A5, c5, A6, c6, A7, c7, some ⟨kb + 1, 0, none⟩, 4, rs5, rs6, rs7, by rw [n5', n6', n7'], ⟨OS _ _ _ _ _ (by omega) (by omega) S13.out, by rw [t1]; exact V1.out⟩, ⟨OS _ _ _ _ _ (by omega) (by omega) S22.out, by rw [t2]; exact V2.out⟩, ⟨OS _ _ _ _ _ (by omega) (by omega) S3.out, by rw [t3]; exact V3.out⟩, ?_, ((DP3.out.setCell (by dsimp only; omega) _).setCell (by dsimp only; omega) _).setCell (by dsimp only; omega) _⟩
      rw [t4, t5, t6, LN.out]
      refine ⟨by unfold maxLen; omega, (Own.of_blk (lo := w.heap.size) (n := 4) (((BP3.out.far (p := ⟨w.heap.size + 1, 0, none⟩) (by dsimp only; omega) _).far (p := ⟨w.heap.size + 1, 1, none⟩) (by dsimp only; omega) _).far (p := ⟨w.heap.size + 1, 2, none⟩) (by dsimp only; omega) _) (by omega) ?_ rfl (by unfold maxLen; omega)).mine⟩
      have hz0 := L3.out
      simp [World.setCell]
      omega
    have i1 : (a : Int) < (n : Int) := by omega
    go_wp2
    go_loopw [9] (fun i W => ∃ f : Nat, f ≤ 4 ∧ i = .int .i64 f ∧ Mw W n a0 a1 a2 a3 Av Ae Af cv ce cf (mupto T (M3.start n) (a * 4 + f)) ∧ Kept a0 a3 w4 W) (fun i _ => 4 - (intOf i).toNat)
    case atStart => exact ⟨0, by omega, rfl, MW.out, KW.out⟩
    case round =>
      obtain ⟨Y, rfl⟩ : ∃ Y : World, Y = wr := ⟨_, rfl⟩
      obtain ⟨f, hf, rfl, hM, hK⟩ := hrel
      have MY := Lib.hid hM
      have KY := Lib.hid hK
      have y0 := kc' hK k0 (by omega)
      have DY := Lib.hid (DD.out.trans (hK.below (B := w.heap.size) (by omega) (by have := A3.out; omega)))
      have zY : w4.heap.size ≤ Y.heap.size := hK.size
      have f0 : (0 : Int) ≤ (f : Int) := by omega
      clear hM hK MW KW DW m0
      by_cases hf4 : f < 4
      case neg =>
        obtain rfl : f = 4 := by omega
        have f1 : ¬ (4 : Int) < 4 := by omega
        go_wp2
        go_roundw
        case rel => exact ⟨a + 1, by omega, by go_num, by rw [Nat.succ_mul]; exact MY.out, KY.out⟩
        case measure => simp [intOf]; omega
      have f1 : (f : Int) < 4 := by omega
      obtain ⟨b, off, gr, o, cj, rfl, hb, hgr, hcr, h4, hcm, hcf⟩ := (HT.out.below DY.out).row4 hlt (IS.out.2.1 a (by rw [LN.out]; exact hlt))
      obtain ⟨q0, q1⟩ := hcf f hf4
      obtain ⟨tv, htv⟩ : ∃ tv, Tr.tt T a f = tv := ⟨_, rfl⟩
      obtain ⟨pv, hpv⟩ : ∃ pv, Tr.pp T a f = pv := ⟨_, rfl⟩
      rw [htv] at q0
      rw [hpv] at q1
      obtain ⟨X, hX⟩ : ∃ X, X = Y.alloc (Obj.cells #[.int .i64 tv, .int .i64 pv] 83) := ⟨_, rfl⟩
      obtain ⟨zX, zXb⟩ : X.heap.size ≤ Y.heap.size + 1 ∧ Y.heap.size + 1 ≤ X.heap.size := by rw [hX]; simp
      have BX := Lib.hid (show Below Y.heap.size Y X from by rw [hX]; exact al1 _ _)
      go_upto_region 12 with fail
      rw [← hX]
      have x0 : X.cell? ⟨Y.heap.size, 0, none⟩ = some (.int .i64 tv) := by rw [hX]; simp [go_sem]
      have x1 : X.cell? ⟨Y.heap.size, 1, none⟩ = some (.int .i64 pv) := by rw [hX]; simp [go_sem]
      have MX := Lib.hid (MY.out.below BX.out (by have := MY.out.top; omega))
      have KX := Lib.hid (KY.out.trans (Kept.of_below BX.out _ _))
      have NXT := Lib.hid (m_at (T := T) (a := a) hf4 (M3.start n))
      clear hX q0 q1 BX MY KY hcf
      by_cases hneg : tv < 0
      · have NG := Lib.hid (m_neg (T := T) (a := a) (f := f) (S := mupto T (M3.start n) (a * 4 + f)) (by rw [htv]; exact hneg))
        have t0 : decide (tv < 0) = true := by simpa using hneg
        clear htv hpv hneg
        go_wp2
        go_roundw
        case rel => exact ⟨f + 1, by omega, by go_num, by rw [NXT.out, NG.out]; exact MX.out, KX.out⟩
        case measure => simp [intOf]; omega
      obtain ⟨tb, p, ht, hp, htn, hp24⟩ := glued_of IS.out (a := a) (f := f) (by rw [LN.out]; exact hlt) hf4 (by rw [htv]; exact hneg)
      have PS := Lib.hid (m_pos (S := mupto T (M3.start n) (a * 4 + f)) ht hp)
      rw [htv] at ht
      rw [hpv] at hp
      subst ht
      subst hp
      have htn' : tb < n := by rw [← LN.out]; exact htn
      obtain ⟨M, hM⟩ : ∃ M, mupto T (M3.start n) (a * 4 + f) = M := ⟨_, rfl⟩
      rw [hM] at PS MX NXT
      have t0 : decide ((tb : Int) < 0) = false := by simp
      have g4 := (gm_all p hp24 f hf4).2
      obtain ⟨g, hg⟩ : ∃ g, gm p f = g := ⟨_, rfl⟩
      rw [hg] at PS g4
      obtain ⟨ia, hia⟩ : ∃ ia, 4 * a = ia := ⟨_, rfl⟩
      obtain ⟨it, hit⟩ : ∃ it, 4 * tb = it := ⟨_, rfl⟩
      obtain ⟨ja, hja⟩ : ∃ ja, ia + f = ja := ⟨_, rfl⟩
      obtain ⟨jt, hjt⟩ : ∃ jt, it + g = jt := ⟨_, rfl⟩
      have PS2 := Lib.hid (show mstep T M a f = ⟨vJ M.v a f tb p 4, eJ M.e a f tb p 6, jn M.f ja jt⟩ from by rw [PS.out, hia, hit, hja, hjt])
      have AT := Lib.hid (fun (Z : World) => (show Calls Tryd.prog 67 #[.int .i64 (p : Int), .int .i64 (f : Int)] Z (ResI Z (g : Int)) from by have := at_specN p f Z hp24 hf4; rwa [hg] at this))
      have ia1 : ia ≤ 28 := by omega
      have it1 : it ≤ 28 := by omega
      have ja1 : ja < 4 * n := by omega
      have jt1 : jt < 4 * n := by omega
      have s1 : IntKind.i64.wrap (4 * (a : Int)) = (ia : Int) := by rw [show 4 * (a : Int) = (ia : Int) by omega]; exact IntWalk.i64_in _ (by omega)
      have s2 : IntKind.i64.wrap ((ia : Int) + (f : Int)) = (ja : Int) := by rw [show (ia : Int) + (f : Int) = (ja : Int) by omega]; exact IntWalk.i64_in _ (by omega)
      have s3 : IntKind.i64.wrap (4 * (tb : Int)) = (it : Int) := by rw [show 4 * (tb : Int) = (it : Int) by omega]; exact IntWalk.i64_in _ (by omega)
      have s4 : IntKind.i64.wrap ((it : Int) + (g : Int)) = (jt : Int) := by rw [show (it : Int) + (g : Int) = (jt : Int) by omega]; exact IntWalk.i64_in _ (by omega)
      have HIA := Lib.hid hia
      have HIT := Lib.hid hit
      have SX := Lib.hid (fun (Z : World) (hb : Below X.heap.size X Z) => (show Z.cell? ⟨Y.heap.size, 0, none⟩ = some (.int .i64 (tb : Int)) ∧ Z.cell? ⟨Y.heap.size, 1, none⟩ = some (.int .i64 (p : Int)) from ⟨(hb.cell (p := ⟨Y.heap.size, 0, none⟩) (by dsimp only; omega)).trans x0, (hb.cell (p := ⟨Y.heap.size, 1, none⟩) (by dsimp only; omega)).trans x1⟩))
      have n32 : 4 * n ≤ 1000 := by omega
      have NV := HNV.out
      clear htv hpv hneg htn hM hg hia hit hja hjt PS
      go_upto_region 13 with fail
      go_region_held3 (fun Z => Z.cell? ⟨Y.heap.size, 0, none⟩ = some (.int .i64 (tb : Int)) ∧ Z.cell? ⟨Y.heap.size, 1, none⟩ = some (.int .i64 (p : Int))) (go_keep) (first
        | (go_at_call 67; (with_reducible refine (AT.out _).mono ?_); rintro e y6 ⟨rfl, hb6'⟩; (first | have hb6 := undrew hb6' | have hb6 := hb6'); obtain ⟨x0, x1⟩ := SX.out _ hb6; have B6 := Lib.hid hb6; have M6 := Lib.hid (MX.out.below hb6 MX.out.top); have J6 := Lib.hid (join_spec _ _ _ _ _ ja jt _ _ M6.out.f ja1 jt1 n32); rw [NV] at J6; clear hb6 hb6')
        | (go_at_call 156; (with_reducible refine J6.out.mono ?_); rintro e V ⟨rfl, hOV, hKV⟩; have zz := M6.out.o3; have zt := M6.out.top; have v0 := kc' hKV x0 (by have := A3.out; omega); have v1 := kc' hKV x1 (by have := A3.out; omega); have MV := Lib.hid (M6.out.inF (by rw [NV]; exact hOV) hKV); have KV := Lib.hid ((KX.out.trans (Kept.of_below B6.out _ _)).trans (hKV.wide (lo' := a0) (hi' := a3) (by omega) (Nat.le_refl _))); clear hOV hKV zz zt))
      all_goals
        clear J6 M6 B6 AT SX x0 x1 s2 s4 MX KX
        have zV : Y.heap.size < V.heap.size := World.block_lt_of_cell? V _ v0
        go_wp2
        go_loopw [11] (fun i W => ∃ k : Nat, k ≤ 4 ∧ i = .int .i64 k ∧ Mw W n a0 a1 a2 a3 Av Ae Af cv ce cf ⟨vJ M.v a f tb p k, M.e, jn M.f ja jt⟩ ∧ Kept a0 a3 w4 W ∧ (W.cell? ⟨Y.heap.size, 0, none⟩ = some (.int .i64 (tb : Int)) ∧ W.cell? ⟨Y.heap.size, 1, none⟩ = some (.int .i64 (p : Int)))) (fun i _ => 4 - (intOf i).toNat)
        case atStart => exact ⟨0, by omega, rfl, MV.out, KV.out, v0, v1⟩
        case round =>
          obtain ⟨Z, rfl⟩ : ∃ Z : World, Z = wr := ⟨_, rfl⟩
          obtain ⟨k, hk, rfl, hM, hK, x0, x1⟩ := hrel
          have MZ := Lib.hid hM
          have KZ := Lib.hid hK
          have zZ : Y.heap.size < Z.heap.size := World.block_lt_of_cell? Z _ x0
          have k00 : (0 : Int) ≤ (k : Int) := by omega
          clear hM hK v0 v1 MV KV zV
          by_cases hk4 : k < 4
          · have k01 : (k : Int) < 4 := by omega
            by_cases hkf : k = f
            · have t1 : ((k : Int) != (f : Int)) = false := by simp [hkf]
              have NX := Lib.hid (show vJ M.v a f tb p (k + 1) = vJ M.v a f tb p k from by simp only [vJ]; rw [if_pos hkf])
              clear hkf
              go_wp2
              go_roundw
              case rel => exact ⟨k + 1, by omega, by go_num, by rw [NX.out]; exact MZ.out, KZ.out, x0, x1⟩
              case measure => simp [intOf]; omega
            · have t1 : ((k : Int) != (f : Int)) = true := by simp; omega
              have gk4 := (gm_all p hp24 k hk4).2
              have NX := Lib.hid (show vJ M.v a f tb p (k + 1) = jn (vJ M.v a f tb p k) (4 * a + k) (4 * tb + gm p k) from by simp only [vJ]; rw [if_neg hkf])
              obtain ⟨G, hG⟩ : ∃ G, gm p k = G := ⟨_, rfl⟩
              rw [hG] at gk4 NX
              have AT := Lib.hid (fun (Z : World) => (show Calls Tryd.prog 67 #[.int .i64 (p : Int), .int .i64 (k : Int)] Z (ResI Z (G : Int)) from by have := at_specN p k Z hp24 hk4; rwa [hG] at this))
              rw [HIA.out, HIT.out] at NX
              obtain ⟨jk, hjk⟩ : ∃ jk, ia + k = jk := ⟨_, rfl⟩
              obtain ⟨tk, htk⟩ : ∃ tk, it + G = tk := ⟨_, rfl⟩
              rw [hjk, htk] at NX
              have jk1 : jk < 4 * n := by have := HIA.out; omega
              have tk1 : tk < 4 * n := by have := HIT.out; omega
              have s2 : IntKind.i64.wrap ((ia : Int) + (k : Int)) = (jk : Int) := by rw [show (ia : Int) + (k : Int) = (jk : Int) by omega]; exact IntWalk.i64_in _ (by omega)
              have s4 : IntKind.i64.wrap ((it : Int) + (G : Int)) = (tk : Int) := by rw [show (it : Int) + (G : Int) = (tk : Int) by omega]; exact IntWalk.i64_in _ (by omega)
              have SX := Lib.hid (fun (Z' : World) (hb : Below Z.heap.size Z Z') => (show Z'.cell? ⟨Y.heap.size, 0, none⟩ = some (.int .i64 (tb : Int)) ∧ Z'.cell? ⟨Y.heap.size, 1, none⟩ = some (.int .i64 (p : Int)) from ⟨(hb.cell (p := ⟨Y.heap.size, 0, none⟩) zZ).trans x0, (hb.cell (p := ⟨Y.heap.size, 1, none⟩) zZ).trans x1⟩))
              clear hkf hG hjk htk
              go_upto_region 18 with fail
              go_region_held3 (fun Z => Z.cell? ⟨Y.heap.size, 0, none⟩ = some (.int .i64 (tb : Int)) ∧ Z.cell? ⟨Y.heap.size, 1, none⟩ = some (.int .i64 (p : Int))) (go_keep) (first
                | (go_at_call 67; (with_reducible refine (AT.out _).mono ?_); rintro e y6 ⟨rfl, hb6'⟩; (first | have hb6 := undrew hb6' | have hb6 := hb6'); obtain ⟨x0, x1⟩ := SX.out _ hb6; have B6 := Lib.hid hb6; have M6 := Lib.hid (MZ.out.below hb6 MZ.out.top); have J6 := Lib.hid (join_spec _ _ _ _ _ jk tk _ _ M6.out.v jk1 tk1 n32); rw [NV] at J6; clear hb6 hb6')
                | (go_at_call 156; (with_reducible refine J6.out.mono ?_); rintro e V ⟨rfl, hOV, hKV⟩; have zz := M6.out.o2; have zz3 := M6.out.o3; have v0 := kc' hKV x0 (by have := A3.out; omega); have v1 := kc' hKV x1 (by have := A3.out; omega); have MV := Lib.hid (M6.out.inV (by rw [NV]; exact hOV) hKV); have KV := Lib.hid ((KZ.out.trans (Kept.of_below B6.out _ _)).trans (hKV.wide (lo' := a0) (hi' := a3) (Nat.le_refl _) (by omega))); clear hOV hKV zz zz3))
              all_goals
                clear J6 M6 B6 AT SX x0 x1 s2 s4
                go_wp2
                go_roundw
                case rel => exact ⟨k + 1, by omega, by go_num, by rw [NX.out]; exact MV.out, KV.out, v0, v1⟩
                case measure => simp [intOf]; omega
          · obtain rfl : k = 4 := by omega
            have k01 : ¬ (4 : Int) < 4 := by omega
            obtain ⟨ie, hie⟩ : ∃ ie, 6 * a = ie := ⟨_, rfl⟩
            obtain ⟨iq, hiq⟩ : ∃ iq, 6 * tb = iq := ⟨_, rfl⟩
            have ie1 : ie ≤ 42 := by omega
            have iq1 : iq ≤ 42 := by omega
            have s5 : IntKind.i64.wrap (6 * (a : Int)) = (ie : Int) := by rw [show 6 * (a : Int) = (ie : Int) by omega]; exact IntWalk.i64_in _ (by omega)
            have s6 : IntKind.i64.wrap (6 * (tb : Int)) = (iq : Int) := by rw [show 6 * (tb : Int) = (iq : Int) by omega]; exact IntWalk.i64_in _ (by omega)
            have HIE := Lib.hid hie
            have HIQ := Lib.hid hiq
            have n48 : 6 * n ≤ 1000 := by omega
            have NE := HNE.out
            clear hie hiq s1 s3
            go_wp2
            go_loopw [12] (fun i W => ∃ k : Nat, k ≤ 6 ∧ i = .int .i64 k ∧ Mw W n a0 a1 a2 a3 Av Ae Af cv ce cf ⟨vJ M.v a f tb p 4, eJ M.e a f tb p k, jn M.f ja jt⟩ ∧ Kept a0 a3 w4 W ∧ (W.cell? ⟨Y.heap.size, 0, none⟩ = some (.int .i64 (tb : Int)) ∧ W.cell? ⟨Y.heap.size, 1, none⟩ = some (.int .i64 (p : Int)))) (fun i _ => 6 - (intOf i).toNat)
            case atStart => exact ⟨0, by omega, rfl, MZ.out, KZ.out, x0, x1⟩
            case round =>
              clear x0 x1 MZ KZ zZ
              obtain ⟨Z, rfl⟩ : ∃ Z : World, Z = wr := ⟨_, rfl⟩
              obtain ⟨k, hk, rfl, hM, hK, x0, x1⟩ := hrel
              have MZ := Lib.hid hM
              have KZ := Lib.hid hK
              have zZ : Y.heap.size < Z.heap.size := World.block_lt_of_cell? Z _ x0
              have k00 : (0 : Int) ≤ (k : Int) := by omega
              clear hM hK
              by_cases hk6 : k < 6
              case neg =>
                obtain rfl : k = 6 := by omega
                have k01 : ¬ (6 : Int) < 6 := by omega
                go_wp2
                go_roundw
                case rel => exact ⟨f + 1, by omega, by go_num, by rw [NXT.out, PS2.out]; exact MZ.out, KZ.out⟩
                case measure => simp [intOf]; omega
              have k01 : (k : Int) < 6 := by omega
              obtain ⟨en0, en1, u4, v4⟩ := eN_all k hk6
              have eb6 := (eB_all p hp24 k hk6).2
              have ES := Lib.hid (fun (Z : World) => edge_specN p k Z hp24 hk6)
              have NXY := Lib.hid (show inF k f = true → eJ M.e a f tb p (k + 1) = jn (eJ M.e a f tb p k) (6 * a + k) (6 * tb + eB p k) from fun h => by simp only [eJ]; rw [if_pos h])
              have NXN := Lib.hid (show inF k f = false → eJ M.e a f tb p (k + 1) = eJ M.e a f tb p k from fun h => by simp only [eJ]; rw [if_neg (by rw [h]; decide)])
              have EN := Lib.hid (fun (Z : World) => Eg.l08Ends_spec k Z hk6)
              have IFE := Lib.hid (show inF k f = (decide ((eN k).1 ≠ f) && decide ((eN k).2 ≠ f)) from rfl)
              obtain ⟨u, hu⟩ : ∃ u, (eN k).1 = u := ⟨_, rfl⟩
              obtain ⟨v, hv⟩ : ∃ v, (eN k).2 = v := ⟨_, rfl⟩
              rw [hu] at en0 u4
              rw [hv] at en1 v4
              rw [hu, hv] at ES IFE
              rw [en0, en1] at EN
              have gu4 := (gm_all p hp24 u u4).2
              have gv4 := (gm_all p hp24 v v4).2
              have AU := Lib.hid (fun (Z : World) => at_specN p u Z hp24 u4)
              have AV := Lib.hid (fun (Z : World) => at_specN p v Z hp24 v4)
              obtain ⟨gu, hgu⟩ : ∃ gu, gm p u = gu := ⟨_, rfl⟩
              obtain ⟨gv, hgv⟩ : ∃ gv, gm p v = gv := ⟨_, rfl⟩
              obtain ⟨E, hE⟩ : ∃ E, eB p k = E := ⟨_, rfl⟩
              rw [hgu] at AU ES
              rw [hgv] at AV ES
              rw [hE] at ES NXY eb6
              have BC := Lib.hid (fun (W' : World) (hb : Below Z.heap.size Z W') => (show W'.cell? ⟨Y.heap.size, 0, none⟩ = some (.int .i64 (tb : Int)) ∧ W'.cell? ⟨Y.heap.size, 1, none⟩ = some (.int .i64 (p : Int)) from ⟨(hb.cell (p := ⟨Y.heap.size, 0, none⟩) zZ).trans x0, (hb.cell (p := ⟨Y.heap.size, 1, none⟩) zZ).trans x1⟩))
              clear hu hv hgu hgv hE en0 en1
              go_wp2_with fail
              (with_reducible refine (EN.out _).mono ?_)
              rintro e X2 ⟨rfl, hX2⟩
              obtain ⟨x0, x1⟩ := BC.out _ hX2
              have M2 := Lib.hid (MZ.out.below hX2 MZ.out.top)
              have K2 := Lib.hid (KZ.out.trans (Kept.of_below hX2 _ _))
              have zX2 : Y.heap.size < X2.heap.size := Nat.lt_of_lt_of_le zZ hX2.size
              clear hX2 BC MZ KZ EN
              by_cases huf : u = f
              · have t1 : ((u : Int) != (f : Int)) = false := by simp [huf]
                have NX := Lib.hid (NXN.out (by rw [IFE.out]; simp [huf]))
                clear huf NXY NXN IFE
                go_wp2
                go_roundw
                case rel => exact ⟨k + 1, by omega, by go_num, by rw [NX.out]; exact M2.out, K2.out, x0, x1⟩
                case measure => simp [intOf]; omega
              have t1 : ((u : Int) != (f : Int)) = true := by simp; omega
              by_cases hvf : v = f
              · have t2 : ((v : Int) != (f : Int)) = false := by simp [hvf]
                have NX := Lib.hid (NXN.out (by rw [IFE.out]; simp [hvf]))
                clear huf hvf NXY NXN IFE
                go_wp2
                go_roundw
                case rel => exact ⟨k + 1, by omega, by go_num, by rw [NX.out]; exact M2.out, K2.out, x0, x1⟩
                case measure => simp [intOf]; omega
              have t2 : ((v : Int) != (f : Int)) = true := by simp; omega
              have NX := Lib.hid (NXY.out (by rw [IFE.out]; simp [huf, hvf]))
              rw [HIE.out, HIQ.out] at NX
              obtain ⟨jk, hjk⟩ : ∃ jk, ie + k = jk := ⟨_, rfl⟩
              obtain ⟨tk, htk⟩ : ∃ tk, iq + E = tk := ⟨_, rfl⟩
              rw [hjk, htk] at NX
              have jk1 : jk < 6 * n := by have := HIE.out; omega
              have tk1 : tk < 6 * n := by have := HIQ.out; omega
              have s2 : IntKind.i64.wrap ((ie : Int) + (k : Int)) = (jk : Int) := by rw [show (ie : Int) + (k : Int) = (jk : Int) by omega]; exact IntWalk.i64_in _ (by omega)
              have s4 : IntKind.i64.wrap ((iq : Int) + (E : Int)) = (tk : Int) := by rw [show (iq : Int) + (E : Int) = (tk : Int) by omega]; exact IntWalk.i64_in _ (by omega)
              have SX := Lib.hid (fun (Z' : World) (hb : Below X2.heap.size X2 Z') => (show Z'.cell? ⟨Y.heap.size, 0, none⟩ = some (.int .i64 (tb : Int)) ∧ Z'.cell? ⟨Y.heap.size, 1, none⟩ = some (.int .i64 (p : Int)) from ⟨(hb.cell (p := ⟨Y.heap.size, 0, none⟩) zX2).trans x0, (hb.cell (p := ⟨Y.heap.size, 1, none⟩) zX2).trans x1⟩))
              have CUR := Lib.hid (Below.refl X2.heap.size X2)
              clear huf hvf hjk htk NXY NXN IFE
              go_upto_region 24 with fail
              go_region_held3 (fun Z => Z.cell? ⟨Y.heap.size, 0, none⟩ = some (.int .i64 (tb : Int)) ∧ Z.cell? ⟨Y.heap.size, 1, none⟩ = some (.int .i64 (p : Int))) (go_keep) (first
                | (go_at_call 67; (with_reducible refine (AU.out _).mono ?_); rintro e y6 ⟨rfl, hb6'⟩; (first | have hb6 := undrew hb6' | have hb6 := hb6'); replace CUR := Lib.hid (CUR.out.trans (hb6.mono CUR.out.size)); obtain ⟨x0, x1⟩ := SX.out _ CUR.out; clear hb6 hb6')
                | (go_at_call 67; (with_reducible refine (AV.out _).mono ?_); rintro e y7 ⟨rfl, hb6'⟩; (first | have hb6 := undrew hb6' | have hb6 := hb6'); replace CUR := Lib.hid (CUR.out.trans (hb6.mono CUR.out.size)); obtain ⟨x0, x1⟩ := SX.out _ CUR.out; clear hb6 hb6')
                | (go_at_call 157; (with_reducible refine (ES.out _).mono ?_); rintro e y8 ⟨rfl, hb6'⟩; (first | have hb6 := undrew hb6' | have hb6 := hb6'); replace CUR := Lib.hid (CUR.out.trans (hb6.mono CUR.out.size)); obtain ⟨x0, x1⟩ := SX.out _ CUR.out; have M6 := Lib.hid (M2.out.below CUR.out M2.out.top); have J6 := Lib.hid (join_spec _ _ _ _ _ jk tk _ _ M6.out.e jk1 tk1 n48); rw [NE] at J6; clear hb6 hb6')
                | (go_at_call 156; (with_reducible refine J6.out.mono ?_); rintro e V ⟨rfl, hOV, hKV⟩; have zz := M6.out.o1; have zz3 := M6.out.o3; have v0 := kc' hKV x0 (by have := A3.out; omega); have v1 := kc' hKV x1 (by have := A3.out; omega); have MV := Lib.hid (M6.out.inE (by rw [NE]; exact hOV) hKV); have KV := Lib.hid ((K2.out.trans (Kept.of_below CUR.out _ _)).trans (hKV.wide (lo' := a0) (hi' := a3) (by omega) (by omega))); clear hOV hKV zz zz3))
              all_goals
                clear J6 M6 CUR AU AV ES SX x0 x1 s2 s4
                go_wp2
                go_roundw
                case rel => exact ⟨k + 1, by omega, by go_num, by rw [NX.out]; exact MV.out, KV.out, v0, v1⟩
                case measure => simp [intOf]; omega
end Sk
end Go.Proofs.YtjendlfophdfeaaDoor

namespace Go.Proofs.YtjendlfophdfeaaDoor
open Go.RowKit
namespace Sk
def ccL (T : List (List Int)) : List Int := if Tr.Is T then [(cntV T : Int), cntE T, cntF T, T.length] else []
theorem cnt_le (T : List (List Int)) : cntV T ≤ 4 * T.length ∧ cntE T ≤ 6 * T.length ∧ cntF T ≤ 4 * T.length := ⟨rk_le _ _, rk_le _ _, rk_le _ _⟩
theorem ResLM.nil (w w' : World) (h : Below w.heap.size w w') : ResLM w [] (.returned (.slice none 0 0)) w' := ⟨none, 0, rfl, ⟨Nat.le_refl _, Nat.zero_le _⟩, Mine.none_ _ _ _ _, h⟩
theorem fo_len {w : World} {g N wd l0 : Nat} {F : FS} (h : FoN w g N wd l0 F) : ∃ A c, w.cell? ⟨g + 1, 2, none⟩ = some (.slice A (rk F.m N) c) ∧ g + 2 ≤ w.heap.size := by
  obtain ⟨A, c, lo, hi, b, -, -, -, t⟩ := h
  exact ⟨A, c, b.2.2, t⟩
set_option maxRecDepth 100000 in
set_option maxHeartbeats 8000000 in
theorem counts_impl (A : Option Addr) (n c : Nat) (T : List (List Int)) (w : World) (h : Fc.RdT w w.heap.size A n T) (hv : Ws w) (hn : n ≤ 1048576) :
    Calls Tryd.prog 45 #[.agg #[.slice A n c]] w (ResLM w (ccL T)) := by
  obtain ⟨U, hU⟩ : ∃ U, U = w.alloc (Obj.cells #[.slice A n c] 29) := ⟨_, rfl⟩
  have hB : Below w.heap.size w U := by rw [hU]; exact al1 _ _
  obtain ⟨z, zb⟩ : U.heap.size ≤ w.heap.size + 1 ∧ w.heap.size + 1 ≤ U.heap.size := by rw [hU]; simp
  have k0 : U.cell? ⟨w.heap.size, 0, none⟩ = some (.slice A n c) := by rw [hU]; simp [go_sem]
  have LN := Lib.hid h.len
  have DU := Lib.hid hB
  have HT := Lib.hid h
  have HV := Lib.hid hv
  have TI := Lib.hid (Fc.isTri_implT A n c T U (h.into hB) (hv.below hB (Nat.le_refl _)).1 hn)
  clear h hv hB
  by_cases hok : Tr.Is T
  case neg =>
    have R := Lib.hid (show ccL T = [] from by unfold ccL; rw [if_neg hok])
    rw [decide_eq_false hok] at TI
    clear hok
    go_enter Tryd.func45, Tryd.ntmps45
    go_upto_region 1 with fail
    rw [← hU]
    clear hU
    go_wp2_with fail
    (with_reducible refine TI.out.mono ?_)
    rintro e w1 ⟨rfl, hb⟩
    have D1 := Lib.hid (DU.out.trans (hb.mono (by omega)))
    clear hb
    go_wp2
    go_ret
    rw [R.out]
    exact ResLM.nil _ _ D1.out
  rw [decide_eq_true hok] at TI
  have R := Lib.hid (show ccL T = [(cntV T : Int), cntE T, cntF T, n] from by unfold ccL; rw [if_pos hok, LN.out])
  have IS := Lib.hid hok
  clear hok
  go_enter Tryd.func45, Tryd.ntmps45
  go_upto_region 1 with fail
  rw [← hU]
  clear hU
  go_wp2_with fail
  (with_reducible refine TI.out.mono ?_)
  rintro e w1 ⟨rfl, hb⟩
  have D1 := Lib.hid (DU.out.trans (hb.mono (by omega)))
  have z1 := hb.size
  have k0 := (hb.cell (p := ⟨w.heap.size, 0, none⟩) (by dsimp only; omega)).trans k0
  have FI := Lib.hid (forest_impl A n c T w1 (HT.out.into D1.out) (HV.out.below D1.out (Nat.le_refl _)).1 (HV.out.below D1.out (Nat.le_refl _)).2 IS.out)
  clear hb TI
  go_wp2_with fail
  (with_reducible refine FI.out.mono ?_)
  rintro e w2 ⟨zz, rfl, hz, hS, hb⟩
  have D2 := Lib.hid (D1.out.trans (hb.mono (by omega)))
  have k0 := (hb.cell (p := ⟨w.heap.size, 0, none⟩) (by dsimp only; omega)).trans k0
  have z2 := hb.size
  obtain ⟨V, hV⟩ : ∃ V, V = w2.alloc (Obj.cells #[.pointer (some ⟨zz + 1, 0, none⟩), .pointer (some ⟨zz + 3, 0, none⟩), .pointer (some ⟨zz + 5, 0, none⟩)] 149) := ⟨_, rfl⟩
  have BV : Below w2.heap.size w2 V := by rw [hV]; exact al1 _ _
  have k0 := (BV.cell (p := ⟨w.heap.size, 0, none⟩) (by dsimp only; omega)).trans k0
  have D3 := Lib.hid (D2.out.trans (BV.mono (by omega)))
  have zV := BV.size
  have s0 : V.cell? ⟨w2.heap.size, 0, none⟩ = some (.pointer (some ⟨zz + 1, 0, none⟩)) := by rw [hV]; simp [go_sem]
  have s1 : V.cell? ⟨w2.heap.size, 1, none⟩ = some (.pointer (some ⟨zz + 3, 0, none⟩)) := by rw [hV]; simp [go_sem]
  have s2 : V.cell? ⟨w2.heap.size, 2, none⟩ = some (.pointer (some ⟨zz + 5, 0, none⟩)) := by rw [hV]; simp [go_sem]
  obtain ⟨h1, h2, h3⟩ := hS.below BV
  obtain ⟨A1, c1, r1, t1⟩ := fo_len h1
  obtain ⟨A2, c2, r2, t2⟩ := fo_len h2
  obtain ⟨A3, c3, r3, t3⟩ := fo_len h3
  rw [show rk (FT T).v.m (4 * n) = cntV T from by show rk (FT T).ms.v _ = _; rw [FT_ms, ← LN.out]; rfl] at r1
  rw [show rk (FT T).e.m (6 * n) = cntE T from by show rk (FT T).ms.e _ = _; rw [FT_ms, ← LN.out]; rfl] at r2
  rw [show rk (FT T).f.m (4 * n) = cntF T from by show rk (FT T).ms.f _ = _; rw [FT_ms, ← LN.out]; rfl] at r3
  obtain ⟨q1, hq1⟩ : ∃ q, cntV T = q := ⟨_, rfl⟩
  obtain ⟨q2, hq2⟩ : ∃ q, cntE T = q := ⟨_, rfl⟩
  obtain ⟨q3, hq3⟩ : ∃ q, cntF T = q := ⟨_, rfl⟩
  rw [hq1] at r1 R
  rw [hq2] at r2 R
  rw [hq3] at r3 R
  clear hq1 hq2 hq3 h1 h2 h3 hS hb FI BV
  go_upto_region 4 with fail
  rw [← hV]
  clear hV
  go_still_tail 21, (by kernel_rfl)
  change wpList _ _ _ _ _ V.drew
  have D4 := Lib.hid D3.out.drew
  obtain ⟨X, hX⟩ : ∃ X, X = V.drew := ⟨_, rfl⟩
  have zX : V.heap.size = X.heap.size := by rw [hX]; rfl
  rw [← hX] at D4
  rw [← hX]
  clear hX k0 s0 s1 s2 r1 r2 r3
  go_wp2
  go_ret
  have hb := Blk.new X [(q1 : Int), q2, q3, n]
  rw [R.out]
  exact ⟨some ⟨X.heap.size, 0, none⟩, 4, rfl, ⟨Nat.le_refl _, by show (4 : Nat) ≤ maxLen; unfold maxLen; omega⟩, (Own.of_blk (n := 4) (lo := w.heap.size) (hi := X.heap.size + 1) hb (by omega) (Nat.lt_succ_self _) rfl (by unfold maxLen; omega)).mine.wide (Nat.le_refl _) (by simp), D4.out.trans ((al1 X _).mono (by omega))⟩
set_option maxRecDepth 100000 in
set_option maxHeartbeats 8000000 in
theorem counts_spec (A : Option Addr) (n c : Nat) (T : List (List Int)) (w : World) (h : Fc.RdT w w.heap.size A n T) (hn : n ≤ 1048576) :
    Calls Tryd.prog 44 #[.agg #[.slice A n c]] w (ResLM w (ccL T)) := by
  obtain ⟨U, hU⟩ : ∃ U, U = w.alloc (Obj.cells #[.slice A n c] 29) := ⟨_, rfl⟩
  have hB : Below w.heap.size w U := by rw [hU]; exact al1 _ _
  obtain ⟨z, zb⟩ : U.heap.size ≤ w.heap.size + 1 ∧ w.heap.size + 1 ≤ U.heap.size := by rw [hU]; simp
  have k0 : U.cell? ⟨w.heap.size, 0, none⟩ = some (.slice A n c) := by rw [hU]; simp [go_sem]
  have DU := Lib.hid hB
  have HT := Lib.hid h
  have TI := Lib.hid (Fc.isTri_specT A n c T U (h.into hB) hn)
  clear h hB
  by_cases hok : Tr.Is T
  case neg =>
    have R := Lib.hid (show ccL T = [] from by unfold ccL; rw [if_neg hok])
    rw [decide_eq_false hok] at TI
    clear hok
    go_enter Tryd.func44, Tryd.ntmps44
    go_upto_region 1 with fail
    rw [← hU]
    clear hU
    go_wp2_with fail
    (with_reducible refine TI.out.mono ?_)
    rintro e w1 ⟨rfl, hb⟩
    have D1 := Lib.hid (DU.out.trans (hb.mono (by omega)))
    clear hb
    go_wp2
    go_ret
    rw [R.out]
    exact ResLM.nil _ _ D1.out
  rw [decide_eq_true hok] at TI
  have R := Lib.hid (show ccL T = [(cntV T : Int), cntE T, cntF T, T.length] from by unfold ccL; rw [if_pos hok])
  have IS := Lib.hid hok
  clear hok
  go_enter Tryd.func44, Tryd.ntmps44
  go_upto_region 1 with fail
  rw [← hU]
  clear hU
  go_wp2_with fail
  (with_reducible refine TI.out.mono ?_)
  rintro e w1 ⟨rfl, hb⟩
  have D1 := Lib.hid (DU.out.trans (hb.mono (by omega)))
  have z1 := hb.size
  have k0 := (hb.cell (p := ⟨w.heap.size, 0, none⟩) (by dsimp only; omega)).trans k0
  have FI := Lib.hid (count_spec A n c T w1 (HT.out.into D1.out) IS.out)
  clear hb TI
  go_wp2_with fail
  (with_reducible refine FI.out.mono ?_)
  rintro e w2 ⟨Av, cv, Ae, ce, Af, cf, Ac, cc, rv, re, rf, rfl, -, -, -, ⟨hcc, hM⟩, hb⟩
  have D2 := Lib.hid (D1.out.trans (hb.mono (by omega)))
  have MM := Lib.hid hM
  have z2 := hb.size
  have zw1 : w.heap.size ≤ w1.heap.size := by omega
  have CC := Lib.hid hcc
  clear hb hM hcc FI
  go_wp2
  go_ret
  rw [R.out]
  exact ⟨Ac, cc, rfl, CC.out, (MM.out.wide zw1 (Nat.le_refl _)).below (al1 w2 _) (Nat.le_refl _) |>.wide (Nat.le_refl _) (by simp), D2.out.trans ((al1 w2 _).mono (by omega))⟩
end Sk
end Go.Proofs.YtjendlfophdfeaaDoor

