/- Texts of one proof laid together. No condition but those that each theorem names. -/
import Derived.Test.YtjendlfophdfeaaDoorG0a
import Derived.StillTailTactics
import Derived.Deep.DeepCutAuto
import Derived.Test.YtjendlfophdfeaaDoorFcJ
import Derived.Test.YtjendlfophdfeaaDoorFcK
import Derived.Test.YtjendlfophdfeaaDoorSsP
import Derived.Deep.RegionHeld3
import Derived.Outline
import Derived.Deep.Cut
namespace Go.Proofs.YtjendlfophdfeaaDoor
open Go.RowKit
namespace Sk
/-- Three lists of marks of the call's own. -/
structure Mw (W : World) (n a0 a1 a2 a3 : Nat) (Av Ae Af : Option Addr) (cv ce cf : Nat) (M : M3) : Prop where
  v : Own W a0 a1 Av (4 * n) cv M.v
  e : Own W a1 a2 Ae (6 * n) ce M.e
  f : Own W a2 a3 Af (4 * n) cf M.f
  o1 : a0 ≤ a1
  o2 : a1 ≤ a2
  o3 : a2 ≤ a3
  top : a3 ≤ W.heap.size
section
variable {W W' : World} {n a0 a1 a2 a3 : Nat} {Av Ae Af : Option Addr} {cv ce cf : Nat} {M : M3}
theorem Mw.below {B : Nat} (h : Mw W n a0 a1 a2 a3 Av Ae Af cv ce cf M) (hb : Below B W W') (hB : a3 ≤ B) : Mw W' n a0 a1 a2 a3 Av Ae Af cv ce cf M := by
  obtain ⟨v, e, f, o1, o2, o3, t⟩ := h
  exact ⟨v.below hb (by omega), e.below hb (by omega), f.below hb (by omega), o1, o2, o3, Nat.le_trans t hb.size⟩
theorem Mw.inV (h : Mw W n a0 a1 a2 a3 Av Ae Af cv ce cf M) {m : List Int} (hO : Own W' a0 a1 Av (4 * n) cv m) (hk : Kept a0 a1 W W') : Mw W' n a0 a1 a2 a3 Av Ae Af cv ce cf { M with v := m } := by
  obtain ⟨v, e, f, o1, o2, o3, t⟩ := h
  exact ⟨hO, e.kept hk (by omega) (.inr (by omega)), f.kept hk (by omega) (.inr (by omega)), o1, o2, o3, Nat.le_trans t hk.size⟩
theorem Mw.inE (h : Mw W n a0 a1 a2 a3 Av Ae Af cv ce cf M) {m : List Int} (hO : Own W' a1 a2 Ae (6 * n) ce m) (hk : Kept a1 a2 W W') : Mw W' n a0 a1 a2 a3 Av Ae Af cv ce cf { M with e := m } := by
  obtain ⟨v, e, f, o1, o2, o3, t⟩ := h
  exact ⟨v.kept hk (by omega) (.inl (by omega)), hO, f.kept hk (by omega) (.inr (by omega)), o1, o2, o3, Nat.le_trans t hk.size⟩
theorem Mw.inF (h : Mw W n a0 a1 a2 a3 Av Ae Af cv ce cf M) {m : List Int} (hO : Own W' a2 a3 Af (4 * n) cf m) (hk : Kept a2 a3 W W') : Mw W' n a0 a1 a2 a3 Av Ae Af cv ce cf { M with f := m } := by
  obtain ⟨v, e, f, o1, o2, o3, t⟩ := h
  exact ⟨v.kept hk (by omega) (.inl (by omega)), e.kept hk (by omega) (.inl (by omega)), hO, o1, o2, o3, Nat.le_trans t hk.size⟩
end
theorem at_specN (p k : Nat) (w : World) (hp : p < 24) (hk : k < 4) : Calls Tryd.prog 67 #[.int .i64 (p : Int), .int .i64 (k : Int)] w (ResI w (gm p k : Int)) := by
  have := at_spec p k w hp hk
  rwa [(gm_all p hp k hk).1] at this
theorem edge_specN (p e : Nat) (w : World) (hp : p < 24) (he : e < 6) : Calls Tryd.prog 157 #[.int .i64 (gm p (eN e).1 : Int), .int .i64 (gm p (eN e).2 : Int)] w (ResI w (eB p e : Int)) := by
  obtain ⟨-, -, h1, h2⟩ := eN_all e he
  have := Eg.l08Edge_spec (gm p (eN e).1) (gm p (eN e).2) w (gm_all p hp _ h1).2 (gm_all p hp _ h2).2
  rwa [(eB_all p hp e he).1] at this
/-- What l08Count hands back. -/
def ResCt (w : World) (T : List (List Int)) (e : Ending) (w' : World) : Prop :=
  ∃ Av cv Ae ce Af cf Ac cc, ∃ rv re rf : List Rw, e = .returned (.tuple #[.agg #[.slice Av rv.length cv, .slice Ae re.length ce, .slice Af rf.length cf], .slice Ac 4 cc]) ∧
    (∃ lo hi, (w.heap.size ≤ lo ∧ hi ≤ w'.heap.size) ∧ OwnS w' lo hi Av cv rv ∧ vals rv = tabV T) ∧ (∃ lo hi, (w.heap.size ≤ lo ∧ hi ≤ w'.heap.size) ∧ OwnS w' lo hi Ae ce re ∧ vals re = tabE T) ∧ (∃ lo hi, (w.heap.size ≤ lo ∧ hi ≤ w'.heap.size) ∧ OwnS w' lo hi Af cf rf ∧ vals rf = tabF T) ∧
    ((4 ≤ cc ∧ cc ≤ maxLen) ∧ Mine w' w.heap.size w'.heap.size Ac 4 [(cntV T : Int), cntE T, cntF T, T.length]) ∧ Below w.heap.size w w'
theorem kc' {lo hi o c : Nat} {u : Value} {w w' : World} (h : Kept lo hi w w') (h3 : w.cell? ⟨o, c, none⟩ = some u) (h2 : ¬ (lo ≤ o ∧ o < hi)) : w'.cell? ⟨o, c, none⟩ = some u :=
  (World.cell?_of_block (a := ⟨o, c, none⟩) (h.block o (World.block_lt_of_cell? w _ h3) h2)).trans h3
theorem free_setO {w : World} {g : Nat} (h : Free w g) (a : Addr) (u : Value) : Free (w.setCell a u) g := fun o => by
  have := h o
  simpa [go_sem] using this
set_option maxRecDepth 100000 in
set_option maxHeartbeats 32000000 in
theorem count_spec (A : Option Addr) (n c : Nat) (T : List (List Int)) (w : World) (h : Fc.RdT w w.heap.size A n T) (hIs : Tr.Is T) :
    Calls Tryd.prog 115 #[.agg #[.slice A n c]] w (ResCt w T) := by
  have LN := Lib.hid h.len
  have h8 : n ≤ 8 := by rw [← LN.out]; exact hIs.1
  have HT := Lib.hid h
  have IS := Lib.hid hIs
  clear h hIs
  obtain ⟨U, hU⟩ : ∃ U, U = (w.alloc (Obj.cells #[.slice A n c] 29)).alloc (Obj.cells #[.slice none 0 0, .slice none 0 0, .slice none 0 0] 59) := ⟨_, rfl⟩
  have hB : Below w.heap.size w U := by rw [hU]; exact al2 w _ _
  obtain ⟨z, zb⟩ : U.heap.size ≤ w.heap.size + 2 ∧ w.heap.size + 2 ≤ U.heap.size := by rw [hU]; simp
  have k0 : U.cell? ⟨w.heap.size, 0, none⟩ = some (.slice A n c) := by rw [hU]; simp [go_sem]
  have k1 : U.cell? ⟨w.heap.size + 1, 0, none⟩ = some (.slice none 0 0) := by rw [hU]; simp [go_sem]
  have k2 : U.cell? ⟨w.heap.size + 1, 1, none⟩ = some (.slice none 0 0) := by rw [hU]; simp [go_sem]
  have k3 : U.cell? ⟨w.heap.size + 1, 2, none⟩ = some (.slice none 0 0) := by rw [hU]; simp [go_sem]
  have FU := Lib.hid (show Free U (w.heap.size + 1) from by rw [hU]; have := Free.new (w.alloc (Obj.cells #[.slice A n c] 29)) 59 #[.slice none 0 0, .slice none 0 0, .slice none 0 0]; simpa using this)
  have DU := Lib.hid hB
  clear hB
  obtain ⟨nv, hnv⟩ : ∃ nv, 4 * n = nv := ⟨_, rfl⟩
  obtain ⟨ne, hne⟩ : ∃ ne, 6 * n = ne := ⟨_, rfl⟩
  have e4 : IntKind.i64.wrap (4 * (n : Int)) = (nv : Int) := by rw [show 4 * (n : Int) = (nv : Int) by omega]; exact IntWalk.i64_in _ (by omega)
  have e6 : IntKind.i64.wrap (6 * (n : Int)) = (ne : Int) := by rw [show 6 * (n : Int) = (ne : Int) by omega]; exact IntWalk.i64_in _ (by omega)
  have nv1 : nv ≤ 32 := by omega
  have ne1 : ne ≤ 48 := by omega
  go_enter Tryd.func115, Tryd.ntmps115
  go_upto_region 1 with fail
  rw [← hU]
  clear hU
  go_wp2_with fail
  (with_reducible refine (Fc.tets_spec A n c _).mono ?_)
  rintro e w1 ⟨rfl, hb1⟩
  have D1 := Lib.hid hb1
  have z1 := hb1.size
  clear hb1
  go_wp2_with fail
  (with_reducible refine (fresh_spec nv _ (by omega)).mono ?_)
  rintro e w2 ⟨Av, nv', cv, rfl, hl2, hO2, hb2⟩
  rw [fresh_len] at hl2
  obtain rfl : nv = nv' := hl2
  have O2 := Lib.hid hO2
  have D2 := Lib.hid hb2
  have z2 := hb2.size
  clear hO2 hb2
  go_wp2_with fail
  (with_reducible refine (fresh_spec ne _ (by omega)).mono ?_)
  rintro e w3 ⟨Ae, ne', ce, rfl, hl3, hO3, hb3⟩
  rw [fresh_len] at hl3
  obtain rfl : ne = ne' := hl3
  have O3 := Lib.hid hO3
  have D3 := Lib.hid hb3
  have z3 := hb3.size
  clear hO3 hb3
  go_wp2_with fail
  (with_reducible refine (fresh_spec nv _ (by omega)).mono ?_)
  rintro e w4 ⟨Af, nf', cf, rfl, hl4, hO4, hb4⟩
  rw [fresh_len] at hl4
  obtain rfl : nv = nf' := hl4
  have z4 := hb4.size
  have M0 := Lib.hid (show Mw w4 n w1.heap.size w2.heap.size w3.heap.size w4.heap.size Av Ae Af cv ce cf (M3.start n) from ⟨by
      show Own _ _ _ _ (4 * n) _ (fresh (4 * n)); rw [hnv]; exact (O2.out.below D3.out (Nat.le_refl _)).below hb4 z3, by
      show Own _ _ _ _ (6 * n) _ (fresh (6 * n)); rw [hne]; exact O3.out.below hb4 (Nat.le_refl _), by
      show Own _ _ _ _ (4 * n) _ (fresh (4 * n)); rw [hnv]; exact hO4, z2, z3, z4, Nat.le_refl _⟩)
  have D4 := Lib.hid (((D1.out.trans (D2.out.mono z1)).trans (D3.out.mono (by omega))).trans (hb4.mono (by omega)))
  have k0 := (D4.out.cell (p := ⟨w.heap.size, 0, none⟩) (by dsimp only; omega)).trans k0
  have k1 := (D4.out.cell (p := ⟨w.heap.size + 1, 0, none⟩) (by dsimp only; omega)).trans k1
  have k2 := (D4.out.cell (p := ⟨w.heap.size + 1, 1, none⟩) (by dsimp only; omega)).trans k2
  have k3 := (D4.out.cell (p := ⟨w.heap.size + 1, 2, none⟩) (by dsimp only; omega)).trans k3
  have F4 := Lib.hid (FU.out.below D4.out (by omega))
  have DD := Lib.hid (DU.out.trans (D4.out.mono (by omega)))
  obtain ⟨a0, ha0⟩ : ∃ a0, w1.heap.size = a0 := ⟨_, rfl⟩
  obtain ⟨a1, ha1⟩ : ∃ a1, w2.heap.size = a1 := ⟨_, rfl⟩
  obtain ⟨a2, ha2⟩ : ∃ a2, w3.heap.size = a2 := ⟨_, rfl⟩
  obtain ⟨a3, ha3⟩ : ∃ a3, w4.heap.size = a3 := ⟨_, rfl⟩
  have A3 := Lib.hid ha3
  have HNV := Lib.hid hnv
  have HNE := Lib.hid hne
  rw [ha0, ha1, ha2, ha3] at M0
  rw [ha0] at z1 z2
  rw [ha1] at z2 z3
  rw [ha2] at z3 z4
  rw [ha3] at z4
  clear hO4 hb4 O2 O3 D1 D2 D3 FU D4 ha0 ha1 ha2 ha3 DU e4 e6 hnv hne
  go_wp2
  go_loopw [8] (fun i W => ∃ a : Nat, a ≤ n ∧ i = .int .i64 a ∧ Mw W n a0 a1 a2 a3 Av Ae Af cv ce cf (mupto T (M3.start n) (a * 4)) ∧ Kept a0 a3 w4 W) (fun i _ => n - (intOf i).toNat)
  case atStart => exact ⟨0, Nat.zero_le _, rfl, by rw [Nat.zero_mul]; exact M0.out, Kept.refl _ _ _⟩
  case round =>
    obtain ⟨Wo, rfl⟩ : ∃ W : World, W = wr := ⟨_, rfl⟩
    obtain ⟨a, ha, rfl, hM, hK⟩ := hrel
    have MW := Lib.hid hM
    have KW := Lib.hid hK
    have m0 := kc' hK k0 (by omega)
    have DW := Lib.hid (DD.out.trans (hK.below (B := w.heap.size) (by omega) (by have := A3.out; omega)))
    have zWo : w4.heap.size ≤ Wo.heap.size := hK.size
    have i0 : (0 : Int) ≤ (a : Int) := by omega
    clear hM hK M0
    by_cases hlt : a < n
    case neg =>
      obtain rfl : n = a := by omega
      have i1 : ¬ (n : Int) < (n : Int) := by omega
      have ET := Lib.hid (show mupto T (M3.start n) (n * 4) = MT T from by unfold MT; rw [LN.out])
      rw [ET.out] at MW
      obtain ⟨hl1, hl2, hl3⟩ := MT_len T
      rw [LN.out] at hl1 hl2 hl3
      obtain ⟨mk1, mk2, mk3⟩ := MT_mk IS.out
      have a3W : a3 ≤ Wo.heap.size := MW.out.top
      obtain ⟨A3l, A3r⟩ : w4.heap.size ≤ a3 ∧ a3 ≤ w4.heap.size := by have := A3.out; omega
      have TV := Lib.hid (show tabV T = tblS (MT T).v 4 n ∧ tabE T = tblS (MT T).e 6 n ∧ tabF T = tblS (MT T).f 4 n ∧ cntV T = rk (MT T).v nv ∧ cntE T = rk (MT T).e ne ∧ cntF T = rk (MT T).f nv from by
        unfold tabV tabE tabF cntV cntE cntF; rw [LN.out, HNV.out, HNE.out]; exact ⟨rfl, rfl, rfl, rfl, rfl, rfl⟩)
      obtain ⟨kb, hkb⟩ : ∃ kb, Wo.heap.size = kb := ⟨_, rfl⟩
      have kb1 : a3 ≤ kb := by omega
      have kb2 : w.heap.size + 1 < kb := by omega
      obtain ⟨P0, hP0⟩ : ∃ P0, P0 = (Wo.alloc (Obj.cells #[.slice none 0 0, .slice none 0 0, .slice none 0 0] 59)).alloc (Obj.cells #[.int .i64 0, .int .i64 0, .int .i64 0, .int .i64 (n : Int)] 2) := ⟨_, rfl⟩
      obtain ⟨zP, zPb⟩ : P0.heap.size ≤ kb + 2 ∧ kb + 2 ≤ P0.heap.size := by rw [hP0, ← hkb]; simp
      have p0 : P0.cell? ⟨kb, 0, none⟩ = some (.slice none 0 0) := by rw [hP0, ← hkb]; simp [go_sem]
      have p1 : P0.cell? ⟨kb, 1, none⟩ = some (.slice none 0 0) := by rw [hP0, ← hkb]; simp [go_sem]
      have p2 : P0.cell? ⟨kb, 2, none⟩ = some (.slice none 0 0) := by rw [hP0, ← hkb]; simp [go_sem]
      have FP := Lib.hid (show Free P0 kb from by rw [hP0, ← hkb]; exact (Free.new Wo 59 #[.slice none 0 0, .slice none 0 0, .slice none 0 0]).below (al1 _ _) (by simp))
      have BP := Lib.hid (show Blk P0 (kb + 1) [0, 0, 0, (n : Int)] from by rw [hP0, ← hkb]; have := Blk.new (Wo.alloc (Obj.cells #[.slice none 0 0, .slice none 0 0, .slice none 0 0] 59)) [0, 0, 0, (n : Int)]; simpa using this)
      have XP := Lib.hid (show Below kb Wo P0 from by rw [hP0, ← hkb]; exact al2 _ _ _)
      have MP := Lib.hid (MW.out.below XP.out (by omega))
      have DP := Lib.hid (show Below w.heap.size w P0 from DW.out.trans (XP.out.mono (by omega)))
      have r1 := (XP.out.cell (p := ⟨w.heap.size + 1, 0, none⟩) (by dsimp only; omega)).trans (kc' KW.out k1 (by omega))
      have r2 := (XP.out.cell (p := ⟨w.heap.size + 1, 1, none⟩) (by dsimp only; omega)).trans (kc' KW.out k2 (by omega))
      have r3 := (XP.out.cell (p := ⟨w.heap.size + 1, 2, none⟩) (by dsimp only; omega)).trans (kc' KW.out k3 (by omega))
      have FR := Lib.hid ((F4.out.kept KW.out (by omega) (by omega)).below XP.out (show w.heap.size + 1 < kb by omega))
      have R1 := Lib.hid (fun (W : World) (hM : Mw W n a0 a1 a2 a3 Av Ae Af cv ce cf (MT T)) => (show Calls Tryd.prog 158 #[.slice Av nv cv, .int .i64 4] W (ResRw2 W (tblS (MT T).v 4 n) (rk (MT T).v nv)) from
        rows_spec Av nv cv 4 n (MT T).v W (by have h7 := hM.v.ints; rw [HNV.out] at h7; exact h7.more (by have := hM.o2; have := hM.o3; have := hM.top; omega)) mk1 HNV.out h8 (by omega) (by omega)))
      have R2 := Lib.hid (fun (W : World) (hM : Mw W n a0 a1 a2 a3 Av Ae Af cv ce cf (MT T)) => (show Calls Tryd.prog 158 #[.slice Ae ne ce, .int .i64 6] W (ResRw2 W (tblS (MT T).e 6 n) (rk (MT T).e ne)) from
        rows_spec Ae ne ce 6 n (MT T).e W (by have h7 := hM.e.ints; rw [HNE.out] at h7; exact h7.more (by have := hM.o3; have := hM.top; omega)) mk2 HNE.out h8 (by omega) (by omega)))
      have R3 := Lib.hid (fun (W : World) (hM : Mw W n a0 a1 a2 a3 Av Ae Af cv ce cf (MT T)) => (show Calls Tryd.prog 158 #[.slice Af nv cf, .int .i64 4] W (ResRw2 W (tblS (MT T).f 4 n) (rk (MT T).f nv)) from
        rows_spec Af nv cf 4 n (MT T).f W (by have h7 := hM.f.ints; rw [HNV.out] at h7; exact h7.more hM.top) mk3 HNV.out h8 (by omega) (by omega)))
      obtain ⟨q1, hq1⟩ : ∃ q1, rk (MT T).v nv = q1 := ⟨_, rfl⟩
      obtain ⟨q2, hq2⟩ : ∃ q2, rk (MT T).e ne = q2 := ⟨_, rfl⟩
      obtain ⟨q3, hq3⟩ : ∃ q3, rk (MT T).f nv = q3 := ⟨_, rfl⟩
      rw [hq1, hq2, hq3] at TV
      rw [hq1] at R1
      rw [hq2] at R2
      rw [hq3] at R3
      have HKB := Lib.hid hkb
      have L3 := Lib.hid (show kb + 2 ≤ P0.heap.size from zPb)
      clear mk1 mk2 mk3 hl1 hl2 hl3 hq1 hq2 hq3 k0 k1 k2 k3 m0 MW XP KW DW F4 DD
      go_upto_region 27 with fail
      rw [← hP0]
      clear hP0 hkb
      go_wp2_with fail
      (with_reducible refine (R1.out _ MP.out).mono ?_)
      rintro e w5 ⟨A5, n5, c5, rs5, rfl, hl5, hO5, hv5, hb5⟩
      have p0 := (hb5.cell (p := ⟨kb, 0, none⟩) (by dsimp only; omega)).trans p0
      have p1 := (hb5.cell (p := ⟨kb, 1, none⟩) (by dsimp only; omega)).trans p1
      have p2 := (hb5.cell (p := ⟨kb, 2, none⟩) (by dsimp only; omega)).trans p2
      have f0 := (hb5.frozen (p := ⟨kb, 0, none⟩) (by dsimp only; omega)).trans (FP.out 0)
      have B5 := Lib.hid (BP.out.below hb5 (by omega))
      have b0 := B5.out.cell (i := 0) (by simp)
      have g0 := B5.out.frozen 0
      have z5 := hb5.size
      have kc1 : ¬ kb = kb + 1 := by omega
      have kc2 : ¬ kb + 1 = kb := by omega
      obtain ⟨P1, hP1⟩ : ∃ P1, P1 = (w5.setCell ⟨kb, 0, none⟩ (.slice A5 n5 c5)).setCell ⟨kb + 1, 0, none⟩ (.int .i64 (q1 : Int)) := ⟨_, rfl⟩
      have BB1 := Lib.hid (show Below kb P0 P1 from by rw [hP1]; exact ((hb5.mono (by omega)).setCell (by dsimp only; omega) _).setCell (by dsimp only; omega) _)
      have M1 := Lib.hid (MP.out.below BB1.out (by omega))
      have BP1 := Lib.hid (show Blk P1 (kb + 1) [(q1 : Int), 0, 0, (n : Int)] from by rw [hP1]; have := (B5.out.far (p := ⟨kb, 0, none⟩) (by dsimp only; omega) (.slice A5 n5 c5)).set_ 0 (q1 : Int); simpa using this)
      have S1 := Lib.hid (show OwnS P1 P0.heap.size w5.heap.size A5 c5 rs5 from by rw [hP1]; exact hO5.keep fun k h1 _ => by rw [Below.heap_setCell _ _ _ _ (by dsimp only; omega), Below.heap_setCell _ _ _ _ (by dsimp only; omega)])
      have V1 := Lib.hid hv5
      have L1 := Lib.hid hl5
      have zP1 : P1.heap.size = w5.heap.size := by rw [hP1]; simp [World.setCell]
      have Z1 := Lib.hid zP1
      have FP1 := Lib.hid (show Free P1 kb from by rw [hP1]; exact free_setO (free_setO (fun o => (hb5.frozen (p := ⟨kb, o, none⟩) (by dsimp only; omega)).trans (FP.out o)) _ _) _ _)
      have u0 : P1.cell? ⟨kb, 0, none⟩ = some (.slice A5 n5 c5) := by rw [hP1, World.cell?_setCell_other _ _ _ _ (by simp)]; exact World.cell?_setCell_same _ _ _ p0
      have u1 : P1.cell? ⟨kb, 1, none⟩ = some (.slice none 0 0) := by rw [hP1, World.cell?_setCell_other _ _ _ _ (by simp), World.cell?_setCell_other _ _ _ _ (by simp)]; exact p1
      have u2 : P1.cell? ⟨kb, 2, none⟩ = some (.slice none 0 0) := by rw [hP1, World.cell?_setCell_other _ _ _ _ (by simp), World.cell?_setCell_other _ _ _ _ (by simp)]; exact p2
      clear hO5 hv5 hb5 hl5 zP1 R1
      go_upto_region 28 with fail
      rw [← hP1]
      clear hP1 p0 p1 p2 b0 g0 f0 B5
      have zz1 : P0.heap.size ≤ P1.heap.size := BB1.out.size
      go_wp2_with fail
      (with_reducible refine (R2.out _ M1.out).mono ?_)
      rintro e w6 ⟨A6, n6, c6, rs6, rfl, hl6, hO6, hv6, hb6⟩
      have u0 := (hb6.cell (p := ⟨kb, 0, none⟩) (by dsimp only; omega)).trans u0
      have u1 := (hb6.cell (p := ⟨kb, 1, none⟩) (by dsimp only; omega)).trans u1
      have u2 := (hb6.cell (p := ⟨kb, 2, none⟩) (by dsimp only; omega)).trans u2
      have f1 := (hb6.frozen (p := ⟨kb, 1, none⟩) (by dsimp only; omega)).trans (FP1.out 1)
      have B6 := Lib.hid (BP1.out.below hb6 (by omega))
      have b1 := B6.out.cell (i := 1) (by simp)
      have g1 := B6.out.frozen 1
      have z6 := hb6.size
      obtain ⟨P2, hP2⟩ : ∃ P2, P2 = (w6.setCell ⟨kb, 1, none⟩ (.slice A6 n6 c6)).setCell ⟨kb + 1, 1, none⟩ (.int .i64 (q2 : Int)) := ⟨_, rfl⟩
      have BB2 := Lib.hid (show Below kb P1 P2 from by rw [hP2]; exact ((hb6.mono (by omega)).setCell (by dsimp only; omega) _).setCell (by dsimp only; omega) _)
      have M2 := Lib.hid (M1.out.below BB2.out (by omega))
      have BP2 := Lib.hid (show Blk P2 (kb + 1) [(q1 : Int), (q2 : Int), 0, (n : Int)] from by rw [hP2]; have := (B6.out.far (p := ⟨kb, 1, none⟩) (by dsimp only; omega) (.slice A6 n6 c6)).set_ 1 (q2 : Int); simpa using this)
      have S2 := Lib.hid (show OwnS P2 P1.heap.size w6.heap.size A6 c6 rs6 from by rw [hP2]; exact hO6.keep fun k h1 _ => by rw [Below.heap_setCell _ _ _ _ (by dsimp only; omega), Below.heap_setCell _ _ _ _ (by dsimp only; omega)])
      have S12 := Lib.hid (show OwnS P2 P0.heap.size w5.heap.size A5 c5 rs5 from by rw [hP2]; exact (S1.out.below hb6 (by have := Z1.out; omega)).keep fun k h1 _ => by rw [Below.heap_setCell _ _ _ _ (by dsimp only; omega), Below.heap_setCell _ _ _ _ (by dsimp only; omega)])
      have V2 := Lib.hid hv6
      have L2 := Lib.hid hl6
      have zP2 : P2.heap.size = w6.heap.size := by rw [hP2]; simp [World.setCell]
      have Z2 := Lib.hid zP2
      have FP2 := Lib.hid (show Free P2 kb from by rw [hP2]; exact free_setO (free_setO (fun o => (hb6.frozen (p := ⟨kb, o, none⟩) (by dsimp only; omega)).trans (FP1.out o)) _ _) _ _)
      have v0 : P2.cell? ⟨kb, 0, none⟩ = some (.slice A5 n5 c5) := by rw [hP2, World.cell?_setCell_other _ _ _ _ (by simp), World.cell?_setCell_other _ _ _ _ (by simp)]; exact u0
      have v1 : P2.cell? ⟨kb, 1, none⟩ = some (.slice A6 n6 c6) := by rw [hP2, World.cell?_setCell_other _ _ _ _ (by simp)]; exact World.cell?_setCell_same _ _ _ u1
      have v2 : P2.cell? ⟨kb, 2, none⟩ = some (.slice none 0 0) := by rw [hP2, World.cell?_setCell_other _ _ _ _ (by simp), World.cell?_setCell_other _ _ _ _ (by simp)]; exact u2
      clear hO6 hv6 hb6 hl6 zP2 R2
      go_upto_region 29 with fail
      rw [← hP2]
      clear hP2 u0 u1 u2 b1 g1 f1 B6 S1
      have zz2 : P1.heap.size ≤ P2.heap.size := BB2.out.size
      go_wp2_with fail
      (with_reducible refine (R3.out _ M2.out).mono ?_)
      rintro e w7 ⟨A7, n7, c7, rs7, rfl, hl7, hO7, hv7, hb7⟩
      have v0 := (hb7.cell (p := ⟨kb, 0, none⟩) (by dsimp only; omega)).trans v0
      have v1 := (hb7.cell (p := ⟨kb, 1, none⟩) (by dsimp only; omega)).trans v1
      have v2 := (hb7.cell (p := ⟨kb, 2, none⟩) (by dsimp only; omega)).trans v2
      have f1 := (hb7.frozen (p := ⟨kb, 2, none⟩) (by dsimp only; omega)).trans (FP2.out 2)
      have B7 := Lib.hid (BP2.out.below hb7 (by omega))
      have b1 := B7.out.cell (i := 2) (by simp)
      have g1 := B7.out.frozen 2
      have z7 := hb7.size
      obtain ⟨P3, hP3⟩ : ∃ P3, P3 = (w7.setCell ⟨kb, 2, none⟩ (.slice A7 n7 c7)).setCell ⟨kb + 1, 2, none⟩ (.int .i64 (q3 : Int)) := ⟨_, rfl⟩
      have BB3 := Lib.hid (show Below kb P2 P3 from by rw [hP3]; exact ((hb7.mono (by omega)).setCell (by dsimp only; omega) _).setCell (by dsimp only; omega) _)
      have BP3 := Lib.hid (show Blk P3 (kb + 1) [(q1 : Int), (q2 : Int), (q3 : Int), (n : Int)] from by rw [hP3]; have := (B7.out.far (p := ⟨kb, 2, none⟩) (by dsimp only; omega) (.slice A7 n7 c7)).set_ 2 (q3 : Int); simpa using this)
      have S3 := Lib.hid (show OwnS P3 P2.heap.size w7.heap.size A7 c7 rs7 from by rw [hP3]; exact hO7.keep fun k h1 _ => by rw [Below.heap_setCell _ _ _ _ (by dsimp only; omega), Below.heap_setCell _ _ _ _ (by dsimp only; omega)])
      have S22 := Lib.hid (show OwnS P3 P1.heap.size w6.heap.size A6 c6 rs6 from by rw [hP3]; exact (S2.out.below hb7 (by have := Z2.out; omega)).keep fun k h1 _ => by rw [Below.heap_setCell _ _ _ _ (by dsimp only; omega), Below.heap_setCell _ _ _ _ (by dsimp only; omega)])
      have S13 := Lib.hid (show OwnS P3 P0.heap.size w5.heap.size A5 c5 rs5 from by rw [hP3]; exact (S12.out.below hb7 (by have := Z1.out; omega)).keep fun k h1 _ => by rw [Below.heap_setCell _ _ _ _ (by dsimp only; omega), Below.heap_setCell _ _ _ _ (by dsimp only; omega)])
      have V3 := Lib.hid hv7
      have L3b := Lib.hid hl7
      have zP3 : P3.heap.size = w7.heap.size := by rw [hP3]; simp [World.setCell]
      have Z3 := Lib.hid zP3
      have t0 : P3.cell? ⟨kb, 0, none⟩ = some (.slice A5 n5 c5) := by rw [hP3, World.cell?_setCell_other _ _ _ _ (by simp), World.cell?_setCell_other _ _ _ _ (by simp)]; exact v0
      have t1 : P3.cell? ⟨kb, 1, none⟩ = some (.slice A6 n6 c6) := by rw [hP3, World.cell?_setCell_other _ _ _ _ (by simp), World.cell?_setCell_other _ _ _ _ (by simp)]; exact v1
      have t2 : P3.cell? ⟨kb, 2, none⟩ = some (.slice A7 n7 c7) := by rw [hP3, World.cell?_setCell_other _ _ _ _ (by simp)]; exact World.cell?_setCell_same _ _ _ v2
      have BBX := Lib.hid ((BB1.out.trans BB2.out).trans BB3.out)
      have r1 := (BBX.out.cell (p := ⟨w.heap.size + 1, 0, none⟩) (by dsimp only; omega)).trans r1
      have r2 := (BBX.out.cell (p := ⟨w.heap.size + 1, 1, none⟩) (by dsimp only; omega)).trans r2
      have r3 := (BBX.out.cell (p := ⟨w.heap.size + 1, 2, none⟩) (by dsimp only; omega)).trans r3
      have FR3 := Lib.hid (FR.out.below BBX.out (show w.heap.size + 1 < kb by omega))
      have e1 := FR3.out 0
      have e2 := FR3.out 1
      have e3 := FR3.out 2
      have DP3 := Lib.hid (DP.out.trans (BBX.out.mono (by omega)))
      clear hO7 hv7 hb7 hl7 zP3 R3
      go_upto_region 30 with fail
      rw [← hP3]
      clear hP3 v0 v1 v2 b1 g1 f1 B7 S2 S12
      go_wp2
      refine bodyPost_ret (v := .tuple #[.agg #[.slice A5 n5 c5, .slice A6 n6 c6, .slice A7 n7 c7], .slice (some ⟨kb + 1, 0, none⟩) 4 4]) (by simp [results, Tryd.results115, go_sem, r1, r2, r3]) rfl ?_
      obtain ⟨t1, t2, t3, t4, t5, t6⟩ := TV.out
      have n5' := L1.out
      have n6' := L2.out
      have n7' := L3b.out
      have hz3 := Z3.out
      have hz2 := Z2.out
      have hz1 := Z1.out
      have OS : ∀ (a b : Nat) (A' : Option Addr) (c' : Nat) (rs' : List Rw), kb ≤ a → OwnS P3 a b A' c' rs' → OwnS (((P3.setCell ⟨w.heap.size + 1, 0, none⟩ (.slice A5 n5 c5)).setCell ⟨w.heap.size + 1, 1, none⟩ (.slice A6 n6 c6)).setCell ⟨w.heap.size + 1, 2, none⟩ (.slice A7 n7 c7)) a b A' c' rs' := fun a b A' c' rs' h1 h3 =>
        h3.keep fun k hk _ => by rw [Below.heap_setCell _ _ _ _ (by dsimp only; omega), Below.heap_setCell _ _ _ _ (by dsimp only; omega), Below.heap_setCell _ _ _ _ (by dsimp only; omega)]
      have zF : P3.heap.size ≤ (((P3.setCell ⟨w.heap.size + 1, 0, none⟩ (.slice A5 n5 c5)).setCell ⟨w.heap.size + 1, 1, none⟩ (.slice A6 n6 c6)).setCell ⟨w.heap.size + 1, 2, none⟩ (.slice A7 n7 c7)).heap.size := by simp [World.setCell]
      refine ⟨A5, c5, A6, c6, A7, c7, some ⟨kb + 1, 0, none⟩, 4, rs5, rs6, rs7, by rw [n5', n6', n7'], ⟨_, _, ⟨by omega, by omega⟩, OS _ _ _ _ _ (by omega) S13.out, by rw [t1]; exact V1.out⟩, ⟨_, _, ⟨by omega, by omega⟩, OS _ _ _ _ _ (by omega) S22.out, by rw [t2]; exact V2.out⟩, ⟨_, _, ⟨by omega, by omega⟩, OS _ _ _ _ _ (by omega) S3.out, by rw [t3]; exact V3.out⟩, ?_, ((DP3.out.setCell (by dsimp only; omega) _).setCell (by dsimp only; omega) _).setCell (by dsimp only; omega) _⟩
      rw [t4, t5, t6, LN.out]
      refine ⟨by unfold maxLen; omega, (Own.of_blk (lo := w.heap.size) (n := 4) (((BP3.out.far (p := ⟨w.heap.size + 1, 0, none⟩) (by dsimp only; omega) _).far (p := ⟨w.heap.size + 1, 1, none⟩) (by dsimp only; omega) _).far (p := ⟨w.heap.size + 1, 2, none⟩) (by dsimp only; omega) _) (by omega) ?_ rfl (by unfold maxLen; omega)).mine⟩
      have hz0 := L3.out
      simp [World.setCell]
      omega
    have i1 : (a : Int) < (n : Int) := by omega
    go_wp2
    go_loopw [9] (fun i W => ∃ f : Nat, f ≤ 4 ∧ i = .int .i64 f ∧ Mw W n a0 a1 a2 a3 Av Ae Af cv ce cf (mupto T (M3.start n) (a * 4 + f)) ∧ Kept a0 a3 w4 W) (fun i _ => 4 - (intOf i).toNat)
    case atStart => exact ⟨0, by omega, rfl, MW.out, KW.out⟩
    case round =>
      obtain ⟨Y, rfl⟩ : ∃ Y : World, Y = wr := ⟨_, rfl⟩
      obtain ⟨f, hf, rfl, hM, hK⟩ := hrel
      have MY := Lib.hid hM
      have KY := Lib.hid hK
      have y0 := kc' hK k0 (by omega)
      have DY := Lib.hid (DD.out.trans (hK.below (B := w.heap.size) (by omega) (by have := A3.out; omega)))
      have zY : w4.heap.size ≤ Y.heap.size := hK.size
      have f0 : (0 : Int) ≤ (f : Int) := by omega
      clear hM hK MW KW DW m0
      by_cases hf4 : f < 4
      case neg =>
        obtain rfl : f = 4 := by omega
        have f1 : ¬ (4 : Int) < 4 := by omega
        go_wp2
        go_roundw
        case rel => exact ⟨a + 1, by omega, by go_num, by rw [Nat.succ_mul]; exact MY.out, KY.out⟩
        case measure => simp [intOf]; omega
      have f1 : (f : Int) < 4 := by omega
      obtain ⟨b, off, gr, o, cj, rfl, hb, hgr, hcr, h4, hcm, hcf⟩ := (HT.out.below DY.out).row4 hlt (IS.out.2.1 a (by rw [LN.out]; exact hlt))
      obtain ⟨q0, q1⟩ := hcf f hf4
      obtain ⟨tv, htv⟩ : ∃ tv, Tr.tt T a f = tv := ⟨_, rfl⟩
      obtain ⟨pv, hpv⟩ : ∃ pv, Tr.pp T a f = pv := ⟨_, rfl⟩
      rw [htv] at q0
      rw [hpv] at q1
      obtain ⟨X, hX⟩ : ∃ X, X = Y.alloc (Obj.cells #[.int .i64 tv, .int .i64 pv] 83) := ⟨_, rfl⟩
      obtain ⟨zX, zXb⟩ : X.heap.size ≤ Y.heap.size + 1 ∧ Y.heap.size + 1 ≤ X.heap.size := by rw [hX]; simp
      have BX := Lib.hid (show Below Y.heap.size Y X from by rw [hX]; exact al1 _ _)
      go_upto_region 12 with fail
      rw [← hX]
      have x0 : X.cell? ⟨Y.heap.size, 0, none⟩ = some (.int .i64 tv) := by rw [hX]; simp [go_sem]
      have x1 : X.cell? ⟨Y.heap.size, 1, none⟩ = some (.int .i64 pv) := by rw [hX]; simp [go_sem]
      have MX := Lib.hid (MY.out.below BX.out (by have := MY.out.top; omega))
      have KX := Lib.hid (KY.out.trans (Kept.of_below BX.out _ _))
      have NXT := Lib.hid (m_at (T := T) (a := a) hf4 (M3.start n))
      clear hX q0 q1 BX MY KY hcf
      by_cases hneg : tv < 0
      · have NG := Lib.hid (m_neg (T := T) (a := a) (f := f) (S := mupto T (M3.start n) (a * 4 + f)) (by rw [htv]; exact hneg))
        have t0 : decide (tv < 0) = true := by simpa using hneg
        clear htv hpv hneg
        go_wp2
        go_roundw
        case rel => exact ⟨f + 1, by omega, by go_num, by rw [NXT.out, NG.out]; exact MX.out, KX.out⟩
        case measure => simp [intOf]; omega
      obtain ⟨tb, p, ht, hp, htn, hp24⟩ := glued_of IS.out (a := a) (f := f) (by rw [LN.out]; exact hlt) hf4 (by rw [htv]; exact hneg)
      have PS := Lib.hid (m_pos (S := mupto T (M3.start n) (a * 4 + f)) ht hp)
      rw [htv] at ht
      rw [hpv] at hp
      subst ht
      subst hp
      have htn' : tb < n := by rw [← LN.out]; exact htn
      obtain ⟨M, hM⟩ : ∃ M, mupto T (M3.start n) (a * 4 + f) = M := ⟨_, rfl⟩
      rw [hM] at PS MX NXT
      have t0 : decide ((tb : Int) < 0) = false := by simp
      have g4 := (gm_all p hp24 f hf4).2
      obtain ⟨g, hg⟩ : ∃ g, gm p f = g := ⟨_, rfl⟩
      rw [hg] at PS g4
      obtain ⟨ia, hia⟩ : ∃ ia, 4 * a = ia := ⟨_, rfl⟩
      obtain ⟨it, hit⟩ : ∃ it, 4 * tb = it := ⟨_, rfl⟩
      obtain ⟨ja, hja⟩ : ∃ ja, ia + f = ja := ⟨_, rfl⟩
      obtain ⟨jt, hjt⟩ : ∃ jt, it + g = jt := ⟨_, rfl⟩
      have PS2 := Lib.hid (show mstep T M a f = ⟨vJ M.v a f tb p 4, eJ M.e a f tb p 6, jn M.f ja jt⟩ from by rw [PS.out, hia, hit, hja, hjt])
      have AT := Lib.hid (fun (Z : World) => (show Calls Tryd.prog 67 #[.int .i64 (p : Int), .int .i64 (f : Int)] Z (ResI Z (g : Int)) from by have := at_specN p f Z hp24 hf4; rwa [hg] at this))
      have ia1 : ia ≤ 28 := by omega
      have it1 : it ≤ 28 := by omega
      have ja1 : ja < 4 * n := by omega
      have jt1 : jt < 4 * n := by omega
      have s1 : IntKind.i64.wrap (4 * (a : Int)) = (ia : Int) := by rw [show 4 * (a : Int) = (ia : Int) by omega]; exact IntWalk.i64_in _ (by omega)
      have s2 : IntKind.i64.wrap ((ia : Int) + (f : Int)) = (ja : Int) := by rw [show (ia : Int) + (f : Int) = (ja : Int) by omega]; exact IntWalk.i64_in _ (by omega)
      have s3 : IntKind.i64.wrap (4 * (tb : Int)) = (it : Int) := by rw [show 4 * (tb : Int) = (it : Int) by omega]; exact IntWalk.i64_in _ (by omega)
      have s4 : IntKind.i64.wrap ((it : Int) + (g : Int)) = (jt : Int) := by rw [show (it : Int) + (g : Int) = (jt : Int) by omega]; exact IntWalk.i64_in _ (by omega)
      have HIA := Lib.hid hia
      have HIT := Lib.hid hit
      have SX := Lib.hid (fun (Z : World) (hb : Below X.heap.size X Z) => (show Z.cell? ⟨Y.heap.size, 0, none⟩ = some (.int .i64 (tb : Int)) ∧ Z.cell? ⟨Y.heap.size, 1, none⟩ = some (.int .i64 (p : Int)) from ⟨(hb.cell (p := ⟨Y.heap.size, 0, none⟩) (by dsimp only; omega)).trans x0, (hb.cell (p := ⟨Y.heap.size, 1, none⟩) (by dsimp only; omega)).trans x1⟩))
      have n32 : 4 * n ≤ 1000 := by omega
      have NV := HNV.out
      clear htv hpv hneg htn hM hg hia hit hja hjt PS
      go_upto_region 13 with fail
      go_region_held3 (fun Z => Z.cell? ⟨Y.heap.size, 0, none⟩ = some (.int .i64 (tb : Int)) ∧ Z.cell? ⟨Y.heap.size, 1, none⟩ = some (.int .i64 (p : Int))) (go_keep) (first
        | (go_at_call 67; (with_reducible refine (AT.out _).mono ?_); rintro e y6 ⟨rfl, hb6'⟩; (first | have hb6 := undrew hb6' | have hb6 := hb6'); obtain ⟨x0, x1⟩ := SX.out _ hb6; have B6 := Lib.hid hb6; have M6 := Lib.hid (MX.out.below hb6 MX.out.top); have J6 := Lib.hid (join_spec _ _ _ _ _ ja jt _ _ M6.out.f ja1 jt1 n32); rw [NV] at J6; clear hb6 hb6')
        | (go_at_call 156; (with_reducible refine J6.out.mono ?_); rintro e V ⟨rfl, hOV, hKV⟩; have zz := M6.out.o3; have zt := M6.out.top; have v0 := kc' hKV x0 (by have := A3.out; omega); have v1 := kc' hKV x1 (by have := A3.out; omega); have MV := Lib.hid (M6.out.inF (by rw [NV]; exact hOV) hKV); have KV := Lib.hid ((KX.out.trans (Kept.of_below B6.out _ _)).trans (hKV.wide (lo' := a0) (hi' := a3) (by omega) (Nat.le_refl _))); clear hOV hKV zz zt))
      all_goals
        clear J6 M6 B6 AT SX x0 x1 s2 s4 MX KX
        have zV : Y.heap.size < V.heap.size := World.block_lt_of_cell? V _ v0
        go_wp2
        go_loopw [11] (fun i W => ∃ k : Nat, k ≤ 4 ∧ i = .int .i64 k ∧ Mw W n a0 a1 a2 a3 Av Ae Af cv ce cf ⟨vJ M.v a f tb p k, M.e, jn M.f ja jt⟩ ∧ Kept a0 a3 w4 W ∧ (W.cell? ⟨Y.heap.size, 0, none⟩ = some (.int .i64 (tb : Int)) ∧ W.cell? ⟨Y.heap.size, 1, none⟩ = some (.int .i64 (p : Int)))) (fun i _ => 4 - (intOf i).toNat)
        case atStart => exact ⟨0, by omega, rfl, MV.out, KV.out, v0, v1⟩
        case round =>
          obtain ⟨Z, rfl⟩ : ∃ Z : World, Z = wr := ⟨_, rfl⟩
          obtain ⟨k, hk, rfl, hM, hK, x0, x1⟩ := hrel
          have MZ := Lib.hid hM
          have KZ := Lib.hid hK
          have zZ : Y.heap.size < Z.heap.size := World.block_lt_of_cell? Z _ x0
          have k00 : (0 : Int) ≤ (k : Int) := by omega
          clear hM hK v0 v1 MV KV zV
          by_cases hk4 : k < 4
          · have k01 : (k : Int) < 4 := by omega
            by_cases hkf : k = f
            · have t1 : ((k : Int) != (f : Int)) = false := by simp [hkf]
              have NX := Lib.hid (show vJ M.v a f tb p (k + 1) = vJ M.v a f tb p k from by simp only [vJ]; rw [if_pos hkf])
              clear hkf
              go_wp2
              go_roundw
              case rel => exact ⟨k + 1, by omega, by go_num, by rw [NX.out]; exact MZ.out, KZ.out, x0, x1⟩
              case measure => simp [intOf]; omega
            · have t1 : ((k : Int) != (f : Int)) = true := by simp; omega
              have gk4 := (gm_all p hp24 k hk4).2
              have NX := Lib.hid (show vJ M.v a f tb p (k + 1) = jn (vJ M.v a f tb p k) (4 * a + k) (4 * tb + gm p k) from by simp only [vJ]; rw [if_neg hkf])
              obtain ⟨G, hG⟩ : ∃ G, gm p k = G := ⟨_, rfl⟩
              rw [hG] at gk4 NX
              have AT := Lib.hid (fun (Z : World) => (show Calls Tryd.prog 67 #[.int .i64 (p : Int), .int .i64 (k : Int)] Z (ResI Z (G : Int)) from by have := at_specN p k Z hp24 hk4; rwa [hG] at this))
              rw [HIA.out, HIT.out] at NX
              obtain ⟨jk, hjk⟩ : ∃ jk, ia + k = jk := ⟨_, rfl⟩
              obtain ⟨tk, htk⟩ : ∃ tk, it + G = tk := ⟨_, rfl⟩
              rw [hjk, htk] at NX
              have jk1 : jk < 4 * n := by have := HIA.out; omega
              have tk1 : tk < 4 * n := by have := HIT.out; omega
              have s2 : IntKind.i64.wrap ((ia : Int) + (k : Int)) = (jk : Int) := by rw [show (ia : Int) + (k : Int) = (jk : Int) by omega]; exact IntWalk.i64_in _ (by omega)
              have s4 : IntKind.i64.wrap ((it : Int) + (G : Int)) = (tk : Int) := by rw [show (it : Int) + (G : Int) = (tk : Int) by omega]; exact IntWalk.i64_in _ (by omega)
              have SX := Lib.hid (fun (Z' : World) (hb : Below Z.heap.size Z Z') => (show Z'.cell? ⟨Y.heap.size, 0, none⟩ = some (.int .i64 (tb : Int)) ∧ Z'.cell? ⟨Y.heap.size, 1, none⟩ = some (.int .i64 (p : Int)) from ⟨(hb.cell (p := ⟨Y.heap.size, 0, none⟩) zZ).trans x0, (hb.cell (p := ⟨Y.heap.size, 1, none⟩) zZ).trans x1⟩))
              clear hkf hG hjk htk
              go_upto_region 18 with fail
              go_region_held3 (fun Z => Z.cell? ⟨Y.heap.size, 0, none⟩ = some (.int .i64 (tb : Int)) ∧ Z.cell? ⟨Y.heap.size, 1, none⟩ = some (.int .i64 (p : Int))) (go_keep) (first
                | (go_at_call 67; (with_reducible refine (AT.out _).mono ?_); rintro e y6 ⟨rfl, hb6'⟩; (first | have hb6 := undrew hb6' | have hb6 := hb6'); obtain ⟨x0, x1⟩ := SX.out _ hb6; have B6 := Lib.hid hb6; have M6 := Lib.hid (MZ.out.below hb6 MZ.out.top); have J6 := Lib.hid (join_spec _ _ _ _ _ jk tk _ _ M6.out.v jk1 tk1 n32); rw [NV] at J6; clear hb6 hb6')
                | (go_at_call 156; (with_reducible refine J6.out.mono ?_); rintro e V ⟨rfl, hOV, hKV⟩; have zz := M6.out.o2; have zz3 := M6.out.o3; have v0 := kc' hKV x0 (by have := A3.out; omega); have v1 := kc' hKV x1 (by have := A3.out; omega); have MV := Lib.hid (M6.out.inV (by rw [NV]; exact hOV) hKV); have KV := Lib.hid ((KZ.out.trans (Kept.of_below B6.out _ _)).trans (hKV.wide (lo' := a0) (hi' := a3) (Nat.le_refl _) (by omega))); clear hOV hKV zz zz3))
              all_goals
                clear J6 M6 B6 AT SX x0 x1 s2 s4
                go_wp2
                go_roundw
                case rel => exact ⟨k + 1, by omega, by go_num, by rw [NX.out]; exact MV.out, KV.out, v0, v1⟩
                case measure => simp [intOf]; omega
          · obtain rfl : k = 4 := by omega
            have k01 : ¬ (4 : Int) < 4 := by omega
            obtain ⟨ie, hie⟩ : ∃ ie, 6 * a = ie := ⟨_, rfl⟩
            obtain ⟨iq, hiq⟩ : ∃ iq, 6 * tb = iq := ⟨_, rfl⟩
            have ie1 : ie ≤ 42 := by omega
            have iq1 : iq ≤ 42 := by omega
            have s5 : IntKind.i64.wrap (6 * (a : Int)) = (ie : Int) := by rw [show 6 * (a : Int) = (ie : Int) by omega]; exact IntWalk.i64_in _ (by omega)
            have s6 : IntKind.i64.wrap (6 * (tb : Int)) = (iq : Int) := by rw [show 6 * (tb : Int) = (iq : Int) by omega]; exact IntWalk.i64_in _ (by omega)
            have HIE := Lib.hid hie
            have HIQ := Lib.hid hiq
            have n48 : 6 * n ≤ 1000 := by omega
            have NE := HNE.out
            clear hie hiq s1 s3
            go_wp2
            go_loopw [12] (fun i W => ∃ k : Nat, k ≤ 6 ∧ i = .int .i64 k ∧ Mw W n a0 a1 a2 a3 Av Ae Af cv ce cf ⟨vJ M.v a f tb p 4, eJ M.e a f tb p k, jn M.f ja jt⟩ ∧ Kept a0 a3 w4 W ∧ (W.cell? ⟨Y.heap.size, 0, none⟩ = some (.int .i64 (tb : Int)) ∧ W.cell? ⟨Y.heap.size, 1, none⟩ = some (.int .i64 (p : Int)))) (fun i _ => 6 - (intOf i).toNat)
            case atStart => exact ⟨0, by omega, rfl, MZ.out, KZ.out, x0, x1⟩
            case round =>
              clear x0 x1 MZ KZ zZ
              obtain ⟨Z, rfl⟩ : ∃ Z : World, Z = wr := ⟨_, rfl⟩
              obtain ⟨k, hk, rfl, hM, hK, x0, x1⟩ := hrel
              have MZ := Lib.hid hM
              have KZ := Lib.hid hK
              have zZ : Y.heap.size < Z.heap.size := World.block_lt_of_cell? Z _ x0
              have k00 : (0 : Int) ≤ (k : Int) := by omega
              clear hM hK
              by_cases hk6 : k < 6
              case neg =>
                obtain rfl : k = 6 := by omega
                have k01 : ¬ (6 : Int) < 6 := by omega
                go_wp2
                go_roundw
                case rel => exact ⟨f + 1, by omega, by go_num, by rw [NXT.out, PS2.out]; exact MZ.out, KZ.out⟩
                case measure => simp [intOf]; omega
              have k01 : (k : Int) < 6 := by omega
              obtain ⟨en0, en1, u4, v4⟩ := eN_all k hk6
              have eb6 := (eB_all p hp24 k hk6).2
              have ES := Lib.hid (fun (Z : World) => edge_specN p k Z hp24 hk6)
              have NXY := Lib.hid (show inF k f = true → eJ M.e a f tb p (k + 1) = jn (eJ M.e a f tb p k) (6 * a + k) (6 * tb + eB p k) from fun h => by simp only [eJ]; rw [if_pos h])
              have NXN := Lib.hid (show inF k f = false → eJ M.e a f tb p (k + 1) = eJ M.e a f tb p k from fun h => by simp only [eJ]; rw [if_neg (by rw [h]; decide)])
              have EN := Lib.hid (fun (Z : World) => Eg.l08Ends_spec k Z hk6)
              have IFE := Lib.hid (show inF k f = (decide ((eN k).1 ≠ f) && decide ((eN k).2 ≠ f)) from rfl)
              obtain ⟨u, hu⟩ : ∃ u, (eN k).1 = u := ⟨_, rfl⟩
              obtain ⟨v, hv⟩ : ∃ v, (eN k).2 = v := ⟨_, rfl⟩
              rw [hu] at en0 u4
              rw [hv] at en1 v4
              rw [hu, hv] at ES IFE
              rw [en0, en1] at EN
              have gu4 := (gm_all p hp24 u u4).2
              have gv4 := (gm_all p hp24 v v4).2
              have AU := Lib.hid (fun (Z : World) => at_specN p u Z hp24 u4)
              have AV := Lib.hid (fun (Z : World) => at_specN p v Z hp24 v4)
              obtain ⟨gu, hgu⟩ : ∃ gu, gm p u = gu := ⟨_, rfl⟩
              obtain ⟨gv, hgv⟩ : ∃ gv, gm p v = gv := ⟨_, rfl⟩
              obtain ⟨E, hE⟩ : ∃ E, eB p k = E := ⟨_, rfl⟩
              rw [hgu] at AU ES
              rw [hgv] at AV ES
              rw [hE] at ES NXY eb6
              have BC := Lib.hid (fun (W' : World) (hb : Below Z.heap.size Z W') => (show W'.cell? ⟨Y.heap.size, 0, none⟩ = some (.int .i64 (tb : Int)) ∧ W'.cell? ⟨Y.heap.size, 1, none⟩ = some (.int .i64 (p : Int)) from ⟨(hb.cell (p := ⟨Y.heap.size, 0, none⟩) zZ).trans x0, (hb.cell (p := ⟨Y.heap.size, 1, none⟩) zZ).trans x1⟩))
              clear hu hv hgu hgv hE en0 en1
              go_wp2_with fail
              (with_reducible refine (EN.out _).mono ?_)
              rintro e X2 ⟨rfl, hX2⟩
              obtain ⟨x0, x1⟩ := BC.out _ hX2
              have M2 := Lib.hid (MZ.out.below hX2 MZ.out.top)
              have K2 := Lib.hid (KZ.out.trans (Kept.of_below hX2 _ _))
              have zX2 : Y.heap.size < X2.heap.size := Nat.lt_of_lt_of_le zZ hX2.size
              clear hX2 BC MZ KZ EN
              by_cases huf : u = f
              · have t1 : ((u : Int) != (f : Int)) = false := by simp [huf]
                have NX := Lib.hid (NXN.out (by rw [IFE.out]; simp [huf]))
                clear huf NXY NXN IFE
                go_wp2
                go_roundw
                case rel => exact ⟨k + 1, by omega, by go_num, by rw [NX.out]; exact M2.out, K2.out, x0, x1⟩
                case measure => simp [intOf]; omega
              have t1 : ((u : Int) != (f : Int)) = true := by simp; omega
              by_cases hvf : v = f
              · have t2 : ((v : Int) != (f : Int)) = false := by simp [hvf]
                have NX := Lib.hid (NXN.out (by rw [IFE.out]; simp [hvf]))
                clear huf hvf NXY NXN IFE
                go_wp2
                go_roundw
                case rel => exact ⟨k + 1, by omega, by go_num, by rw [NX.out]; exact M2.out, K2.out, x0, x1⟩
                case measure => simp [intOf]; omega
              have t2 : ((v : Int) != (f : Int)) = true := by simp; omega
              have NX := Lib.hid (NXY.out (by rw [IFE.out]; simp [huf, hvf]))
              rw [HIE.out, HIQ.out] at NX
              obtain ⟨jk, hjk⟩ : ∃ jk, ie + k = jk := ⟨_, rfl⟩
              obtain ⟨tk, htk⟩ : ∃ tk, iq + E = tk := ⟨_, rfl⟩
              rw [hjk, htk] at NX
              have jk1 : jk < 6 * n := by have := HIE.out; omega
              have tk1 : tk < 6 * n := by have := HIQ.out; omega
              have s2 : IntKind.i64.wrap ((ie : Int) + (k : Int)) = (jk : Int) := by rw [show (ie : Int) + (k : Int) = (jk : Int) by omega]; exact IntWalk.i64_in _ (by omega)
              have s4 : IntKind.i64.wrap ((iq : Int) + (E : Int)) = (tk : Int) := by rw [show (iq : Int) + (E : Int) = (tk : Int) by omega]; exact IntWalk.i64_in _ (by omega)
              have SX := Lib.hid (fun (Z' : World) (hb : Below X2.heap.size X2 Z') => (show Z'.cell? ⟨Y.heap.size, 0, none⟩ = some (.int .i64 (tb : Int)) ∧ Z'.cell? ⟨Y.heap.size, 1, none⟩ = some (.int .i64 (p : Int)) from ⟨(hb.cell (p := ⟨Y.heap.size, 0, none⟩) zX2).trans x0, (hb.cell (p := ⟨Y.heap.size, 1, none⟩) zX2).trans x1⟩))
              have CUR := Lib.hid (Below.refl X2.heap.size X2)
              clear huf hvf hjk htk NXY NXN IFE
              go_upto_region 24 with fail
              go_region_held3 (fun Z => Z.cell? ⟨Y.heap.size, 0, none⟩ = some (.int .i64 (tb : Int)) ∧ Z.cell? ⟨Y.heap.size, 1, none⟩ = some (.int .i64 (p : Int))) (go_keep) (first
                | (go_at_call 67; (with_reducible refine (AU.out _).mono ?_); rintro e y6 ⟨rfl, hb6'⟩; (first | have hb6 := undrew hb6' | have hb6 := hb6'); replace CUR := Lib.hid (CUR.out.trans (hb6.mono CUR.out.size)); obtain ⟨x0, x1⟩ := SX.out _ CUR.out; clear hb6 hb6')
                | (go_at_call 67; (with_reducible refine (AV.out _).mono ?_); rintro e y7 ⟨rfl, hb6'⟩; (first | have hb6 := undrew hb6' | have hb6 := hb6'); replace CUR := Lib.hid (CUR.out.trans (hb6.mono CUR.out.size)); obtain ⟨x0, x1⟩ := SX.out _ CUR.out; clear hb6 hb6')
                | (go_at_call 157; (with_reducible refine (ES.out _).mono ?_); rintro e y8 ⟨rfl, hb6'⟩; (first | have hb6 := undrew hb6' | have hb6 := hb6'); replace CUR := Lib.hid (CUR.out.trans (hb6.mono CUR.out.size)); obtain ⟨x0, x1⟩ := SX.out _ CUR.out; have M6 := Lib.hid (M2.out.below CUR.out M2.out.top); have J6 := Lib.hid (join_spec _ _ _ _ _ jk tk _ _ M6.out.e jk1 tk1 n48); rw [NE] at J6; clear hb6 hb6')
                | (go_at_call 156; (with_reducible refine J6.out.mono ?_); rintro e V ⟨rfl, hOV, hKV⟩; have zz := M6.out.o1; have zz3 := M6.out.o3; have v0 := kc' hKV x0 (by have := A3.out; omega); have v1 := kc' hKV x1 (by have := A3.out; omega); have MV := Lib.hid (M6.out.inE (by rw [NE]; exact hOV) hKV); have KV := Lib.hid ((K2.out.trans (Kept.of_below CUR.out _ _)).trans (hKV.wide (lo' := a0) (hi' := a3) (by omega) (by omega))); clear hOV hKV zz zz3))
              all_goals
                clear J6 M6 CUR AU AV ES SX x0 x1 s2 s4
                go_wp2
                go_roundw
                case rel => exact ⟨k + 1, by omega, by go_num, by rw [NX.out]; exact MV.out, KV.out, v0, v1⟩
                case measure => simp [intOf]; omega
end Sk
end Go.Proofs.YtjendlfophdfeaaDoor

namespace Go.Proofs.YtjendlfophdfeaaDoor
open Go.RowKit
namespace Sk
def ccL (T : List (List Int)) : List Int := if Tr.Is T then [(cntV T : Int), cntE T, cntF T, T.length] else []
theorem cnt_le (T : List (List Int)) : cntV T ≤ 4 * T.length ∧ cntE T ≤ 6 * T.length ∧ cntF T ≤ 4 * T.length := ⟨rk_le _ _, rk_le _ _, rk_le _ _⟩
theorem ResLM.nil (w w' : World) (h : Below w.heap.size w w') : ResLM w [] (.returned (.slice none 0 0)) w' := ⟨none, 0, rfl, ⟨Nat.le_refl _, Nat.zero_le _⟩, Mine.none_ _ _ _ _, h⟩
theorem fo_len {w : World} {g N wd l0 : Nat} {F : FS} (h : FoN w g N wd l0 F) : ∃ A c, w.cell? ⟨g + 1, 2, none⟩ = some (.slice A (rk F.m N) c) ∧ g + 2 ≤ w.heap.size := by
  obtain ⟨A, c, lo, hi, b, -, -, -, t⟩ := h
  exact ⟨A, c, b.2.2, t⟩
set_option maxRecDepth 100000 in
set_option maxHeartbeats 8000000 in
theorem counts_impl (A : Option Addr) (n c : Nat) (T : List (List Int)) (w : World) (h : Fc.RdT w w.heap.size A n T) (hv : Ws w) (hn : n ≤ 1048576) :
    Calls Tryd.prog 45 #[.agg #[.slice A n c]] w (ResLM w (ccL T)) := by
  obtain ⟨U, hU⟩ : ∃ U, U = w.alloc (Obj.cells #[.slice A n c] 29) := ⟨_, rfl⟩
  have hB : Below w.heap.size w U := by rw [hU]; exact al1 _ _
  obtain ⟨z, zb⟩ : U.heap.size ≤ w.heap.size + 1 ∧ w.heap.size + 1 ≤ U.heap.size := by rw [hU]; simp
  have k0 : U.cell? ⟨w.heap.size, 0, none⟩ = some (.slice A n c) := by rw [hU]; simp [go_sem]
  have LN := Lib.hid h.len
  have DU := Lib.hid hB
  have HT := Lib.hid h
  have HV := Lib.hid hv
  have TI := Lib.hid (Fc.isTri_implT A n c T U (h.into hB) (hv.below hB (Nat.le_refl _)).1 hn)
  clear h hv hB
  by_cases hok : Tr.Is T
  case neg =>
    have R := Lib.hid (show ccL T = [] from by unfold ccL; rw [if_neg hok])
    rw [decide_eq_false hok] at TI
    clear hok
    go_enter Tryd.func45, Tryd.ntmps45
    go_upto_region 1 with fail
    rw [← hU]
    clear hU
    go_wp2_with fail
    (with_reducible refine TI.out.mono ?_)
    rintro e w1 ⟨rfl, hb⟩
    have D1 := Lib.hid (DU.out.trans (hb.mono (by omega)))
    clear hb
    go_wp2
    go_ret
    rw [R.out]
    exact ResLM.nil _ _ D1.out
  rw [decide_eq_true hok] at TI
  have R := Lib.hid (show ccL T = [(cntV T : Int), cntE T, cntF T, n] from by unfold ccL; rw [if_pos hok, LN.out])
  have IS := Lib.hid hok
  clear hok
  go_enter Tryd.func45, Tryd.ntmps45
  go_upto_region 1 with fail
  rw [← hU]
  clear hU
  go_wp2_with fail
  (with_reducible refine TI.out.mono ?_)
  rintro e w1 ⟨rfl, hb⟩
  have D1 := Lib.hid (DU.out.trans (hb.mono (by omega)))
  have z1 := hb.size
  have k0 := (hb.cell (p := ⟨w.heap.size, 0, none⟩) (by dsimp only; omega)).trans k0
  have FI := Lib.hid (forest_impl A n c T w1 (HT.out.into D1.out) (HV.out.below D1.out (Nat.le_refl _)).1 (HV.out.below D1.out (Nat.le_refl _)).2 IS.out)
  clear hb TI
  go_wp2_with fail
  (with_reducible refine FI.out.mono ?_)
  rintro e w2 ⟨zz, rfl, hz, hS, hb⟩
  have D2 := Lib.hid (D1.out.trans (hb.mono (by omega)))
  have k0 := (hb.cell (p := ⟨w.heap.size, 0, none⟩) (by dsimp only; omega)).trans k0
  have z2 := hb.size
  obtain ⟨V, hV⟩ : ∃ V, V = w2.alloc (Obj.cells #[.pointer (some ⟨zz + 1, 0, none⟩), .pointer (some ⟨zz + 3, 0, none⟩), .pointer (some ⟨zz + 5, 0, none⟩)] 149) := ⟨_, rfl⟩
  have BV : Below w2.heap.size w2 V := by rw [hV]; exact al1 _ _
  have k0 := (BV.cell (p := ⟨w.heap.size, 0, none⟩) (by dsimp only; omega)).trans k0
  have D3 := Lib.hid (D2.out.trans (BV.mono (by omega)))
  have zV := BV.size
  have s0 : V.cell? ⟨w2.heap.size, 0, none⟩ = some (.pointer (some ⟨zz + 1, 0, none⟩)) := by rw [hV]; simp [go_sem]
  have s1 : V.cell? ⟨w2.heap.size, 1, none⟩ = some (.pointer (some ⟨zz + 3, 0, none⟩)) := by rw [hV]; simp [go_sem]
  have s2 : V.cell? ⟨w2.heap.size, 2, none⟩ = some (.pointer (some ⟨zz + 5, 0, none⟩)) := by rw [hV]; simp [go_sem]
  obtain ⟨h1, h2, h3⟩ := hS.below BV
  obtain ⟨A1, c1, r1, t1⟩ := fo_len h1
  obtain ⟨A2, c2, r2, t2⟩ := fo_len h2
  obtain ⟨A3, c3, r3, t3⟩ := fo_len h3
  rw [show rk (FT T).v.m (4 * n) = cntV T from by show rk (FT T).ms.v _ = _; rw [FT_ms, ← LN.out]; rfl] at r1
  rw [show rk (FT T).e.m (6 * n) = cntE T from by show rk (FT T).ms.e _ = _; rw [FT_ms, ← LN.out]; rfl] at r2
  rw [show rk (FT T).f.m (4 * n) = cntF T from by show rk (FT T).ms.f _ = _; rw [FT_ms, ← LN.out]; rfl] at r3
  obtain ⟨q1, hq1⟩ : ∃ q, cntV T = q := ⟨_, rfl⟩
  obtain ⟨q2, hq2⟩ : ∃ q, cntE T = q := ⟨_, rfl⟩
  obtain ⟨q3, hq3⟩ : ∃ q, cntF T = q := ⟨_, rfl⟩
  rw [hq1] at r1 R
  rw [hq2] at r2 R
  rw [hq3] at r3 R
  clear hq1 hq2 hq3 h1 h2 h3 hS hb FI BV
  go_upto_region 4 with fail
  rw [← hV]
  clear hV
  go_still_tail 21, (by kernel_rfl)
  change wpList _ _ _ _ _ V.drew
  have D4 := Lib.hid D3.out.drew
  obtain ⟨X, hX⟩ : ∃ X, X = V.drew := ⟨_, rfl⟩
  have zX : V.heap.size = X.heap.size := by rw [hX]; rfl
  rw [← hX] at D4
  rw [← hX]
  clear hX k0 s0 s1 s2 r1 r2 r3
  go_wp2
  go_ret
  have hb := Blk.new X [(q1 : Int), q2, q3, n]
  rw [R.out]
  exact ⟨some ⟨X.heap.size, 0, none⟩, 4, rfl, ⟨Nat.le_refl _, by show (4 : Nat) ≤ maxLen; unfold maxLen; omega⟩, (Own.of_blk (n := 4) (lo := w.heap.size) (hi := X.heap.size + 1) hb (by omega) (Nat.lt_succ_self _) rfl (by unfold maxLen; omega)).mine.wide (Nat.le_refl _) (by simp), D4.out.trans ((al1 X _).mono (by omega))⟩
set_option maxRecDepth 100000 in
set_option maxHeartbeats 8000000 in
theorem counts_spec (A : Option Addr) (n c : Nat) (T : List (List Int)) (w : World) (h : Fc.RdT w w.heap.size A n T) (hn : n ≤ 1048576) :
    Calls Tryd.prog 44 #[.agg #[.slice A n c]] w (ResLM w (ccL T)) := by
  obtain ⟨U, hU⟩ : ∃ U, U = w.alloc (Obj.cells #[.slice A n c] 29) := ⟨_, rfl⟩
  have hB : Below w.heap.size w U := by rw [hU]; exact al1 _ _
  obtain ⟨z, zb⟩ : U.heap.size ≤ w.heap.size + 1 ∧ w.heap.size + 1 ≤ U.heap.size := by rw [hU]; simp
  have k0 : U.cell? ⟨w.heap.size, 0, none⟩ = some (.slice A n c) := by rw [hU]; simp [go_sem]
  have DU := Lib.hid hB
  have HT := Lib.hid h
  have TI := Lib.hid (Fc.isTri_specT A n c T U (h.into hB) hn)
  clear h hB
  by_cases hok : Tr.Is T
  case neg =>
    have R := Lib.hid (show ccL T = [] from by unfold ccL; rw [if_neg hok])
    rw [decide_eq_false hok] at TI
    clear hok
    go_enter Tryd.func44, Tryd.ntmps44
    go_upto_region 1 with fail
    rw [← hU]
    clear hU
    go_wp2_with fail
    (with_reducible refine TI.out.mono ?_)
    rintro e w1 ⟨rfl, hb⟩
    have D1 := Lib.hid (DU.out.trans (hb.mono (by omega)))
    clear hb
    go_wp2
    go_ret
    rw [R.out]
    exact ResLM.nil _ _ D1.out
  rw [decide_eq_true hok] at TI
  have R := Lib.hid (show ccL T = [(cntV T : Int), cntE T, cntF T, T.length] from by unfold ccL; rw [if_pos hok])
  have IS := Lib.hid hok
  clear hok
  go_enter Tryd.func44, Tryd.ntmps44
  go_upto_region 1 with fail
  rw [← hU]
  clear hU
  go_wp2_with fail
  (with_reducible refine TI.out.mono ?_)
  rintro e w1 ⟨rfl, hb⟩
  have D1 := Lib.hid (DU.out.trans (hb.mono (by omega)))
  have z1 := hb.size
  have k0 := (hb.cell (p := ⟨w.heap.size, 0, none⟩) (by dsimp only; omega)).trans k0
  have FI := Lib.hid (count_spec A n c T w1 (HT.out.into D1.out) IS.out)
  clear hb TI
  go_wp2_with fail
  (with_reducible refine FI.out.mono ?_)
  rintro e w2 ⟨Av, cv, Ae, ce, Af, cf, Ac, cc, rv, re, rf, rfl, -, -, -, ⟨hcc, hM⟩, hb⟩
  have D2 := Lib.hid (D1.out.trans (hb.mono (by omega)))
  have MM := Lib.hid hM
  have z2 := hb.size
  have zw1 : w.heap.size ≤ w1.heap.size := by omega
  have CC := Lib.hid hcc
  clear hb hM hcc FI
  go_wp2
  go_ret
  rw [R.out]
  exact ⟨Ac, cc, rfl, CC.out, (MM.out.wide zw1 (Nat.le_refl _)).below (al1 w2 _) (Nat.le_refl _) |>.wide (Nat.le_refl _) (by simp), D2.out.trans ((al1 w2 _).mono (by omega))⟩
end Sk
end Go.Proofs.YtjendlfophdfeaaDoor

namespace Go.Proofs.YtjendlfophdfeaaDoor
open Go.RowKit
namespace Sk
def euV (T : List (List Int)) : Int := if Tr.Is T then cntV T - cntE T + cntF T - T.length else 0
def euC (T : List (List Int)) : Int := if Tr.Is T then 0 else 1
def ResE (w : World) (T : List (List Int)) (e : Ending) (w' : World) : Prop := e = .returned (.tuple #[.int .i64 (euV T), .int .i64 (euC T)]) ∧ Below w.heap.size w w'
set_option maxRecDepth 100000 in
set_option maxHeartbeats 8000000 in
theorem euler_impl (A : Option Addr) (n c : Nat) (T : List (List Int)) (w : World) (h : Fc.RdT w w.heap.size A n T) (hv : Ws w) (hn : n ≤ 1048576) :
    Calls Tryd.prog 50 #[.agg #[.slice A n c]] w (ResE w T) := by
  obtain ⟨U, hU⟩ : ∃ U, U = w.alloc (Obj.cells #[.slice A n c] 29) := ⟨_, rfl⟩
  have hB : Below w.heap.size w U := by rw [hU]; exact al1 _ _
  obtain ⟨z, zb⟩ : U.heap.size ≤ w.heap.size + 1 ∧ w.heap.size + 1 ≤ U.heap.size := by rw [hU]; simp
  have k0 : U.cell? ⟨w.heap.size, 0, none⟩ = some (.slice A n c) := by rw [hU]; simp [go_sem]
  have LN := Lib.hid h.len
  have DU := Lib.hid hB
  have HT := Lib.hid h
  have HV := Lib.hid hv
  have TI := Lib.hid (Fc.isTri_implT A n c T U (h.into hB) (hv.below hB (Nat.le_refl _)).1 hn)
  clear h hv hB
  by_cases hok : Tr.Is T
  case neg =>
    have R := Lib.hid (show euV T = 0 ∧ euC T = 1 from by unfold euV euC; rw [if_neg hok, if_neg hok]; exact ⟨rfl, rfl⟩)
    rw [decide_eq_false hok] at TI
    clear hok
    go_enter Tryd.func50, Tryd.ntmps50
    go_upto_region 1 with fail
    rw [← hU]
    clear hU
    go_wp2_with fail
    (with_reducible refine TI.out.mono ?_)
    rintro e w1 ⟨rfl, hb⟩
    have D1 := Lib.hid (DU.out.trans (hb.mono (by omega)))
    clear hb
    go_wp2
    refine bodyPost_ret (v := .tuple #[.int .i64 0, .int .i64 1]) (by simp [results, Tryd.results50, go_sem]) rfl ?_
    unfold ResE
    rw [R.out.1, R.out.2]
    exact ⟨rfl, D1.out⟩
  rw [decide_eq_true hok] at TI
  have h8 : n ≤ 8 := by rw [← LN.out]; exact hok.1
  have CL := Lib.hid (show ccL T = [(cntV T : Int), cntE T, cntF T, n] from by unfold ccL; rw [if_pos hok, LN.out])
  have R := Lib.hid (show euV T = cntV T - cntE T + cntF T - n ∧ euC T = 0 from by unfold euV euC; rw [if_pos hok, if_pos hok, LN.out]; exact ⟨rfl, rfl⟩)
  obtain ⟨l1, l2, l3⟩ := cnt_le T
  rw [LN.out] at l1 l2 l3
  obtain ⟨q1, hq1⟩ : ∃ q, cntV T = q := ⟨_, rfl⟩
  obtain ⟨q2, hq2⟩ : ∃ q, cntE T = q := ⟨_, rfl⟩
  obtain ⟨q3, hq3⟩ : ∃ q, cntF T = q := ⟨_, rfl⟩
  rw [hq1, hq2, hq3] at R CL
  rw [hq1] at l1
  rw [hq2] at l2
  rw [hq3] at l3
  clear hok hq1 hq2 hq3
  go_enter Tryd.func50, Tryd.ntmps50
  go_upto_region 1 with fail
  rw [← hU]
  clear hU
  go_wp2_with fail
  (with_reducible refine TI.out.mono ?_)
  rintro e w1 ⟨rfl, hb⟩
  have D1 := Lib.hid (DU.out.trans (hb.mono (by omega)))
  have z1 := hb.size
  have k0 := (hb.cell (p := ⟨w.heap.size, 0, none⟩) (by dsimp only; omega)).trans k0
  have CI := Lib.hid (counts_impl A n c T w1 (HT.out.into D1.out) (HV.out.below D1.out (Nat.le_refl _)) hn)
  clear hb TI
  go_wp2_with fail
  (with_reducible refine CI.out.mono ?_)
  rintro e w2 ⟨A2, c2, rfl, hcc, hM, hb⟩
  rw [CL.out] at hM hcc
  rw [CL.out]
  have D2 := Lib.hid (D1.out.trans (hb.mono (by omega)))
  obtain ⟨b, off, rfl, -, hc⟩ := hM.ints.2 (by simp)
  have c0 := hc 0 (by simp)
  have c1 := hc 1 (by simp)
  have c3 := hc 2 (by simp)
  have c4 := hc 3 (by simp)
  simp only [List.getD_cons_zero, List.getD_cons_succ, Nat.add_zero] at c0 c1 c3 c4
  have FIN := Lib.hid (show (0 : Int) + q1 - q2 + q3 - n = euV T from by rw [R.out.1]; omega)
  clear hM hc hcc hb CI k0
  have g1 : (q1 : Int) ≤ 32 := by omega
  have g2 : (q2 : Int) ≤ 48 := by omega
  have g3 : (q3 : Int) ≤ 32 := by omega
  have g4 : (n : Int) ≤ 8 := by omega
  go_wp2
  refine wp_loop_rounds 5 ?_
  rw [rounds_succ]
  go_wp2
  rw [rounds_succ]
  go_wp2
  rw [rounds_succ]
  go_wp2
  rw [rounds_succ]
  go_wp2
  rw [rounds_succ]
  go_wp2
  refine bodyPost_ret (v := .tuple #[.int .i64 (euV T), .int .i64 0]) (by simp [results, Tryd.results50, go_sem]; rw [R.out.1]; omega) rfl ?_
  unfold ResE
  rw [R.out.2]
  exact ⟨rfl, D2.out⟩
set_option maxRecDepth 100000 in
set_option maxHeartbeats 8000000 in
theorem euler_spec (A : Option Addr) (n c : Nat) (T : List (List Int)) (w : World) (h : Fc.RdT w w.heap.size A n T) (hn : n ≤ 1048576) :
    Calls Tryd.prog 49 #[.agg #[.slice A n c]] w (ResE w T) := by
  obtain ⟨U, hU⟩ : ∃ U, U = w.alloc (Obj.cells #[.slice A n c] 29) := ⟨_, rfl⟩
  have hB : Below w.heap.size w U := by rw [hU]; exact al1 _ _
  obtain ⟨z, zb⟩ : U.heap.size ≤ w.heap.size + 1 ∧ w.heap.size + 1 ≤ U.heap.size := by rw [hU]; simp
  have k0 : U.cell? ⟨w.heap.size, 0, none⟩ = some (.slice A n c) := by rw [hU]; simp [go_sem]
  have LN := Lib.hid h.len
  have DU := Lib.hid hB
  have HT := Lib.hid h
  have TI := Lib.hid (Fc.isTri_specT A n c T U (h.into hB) hn)
  clear h hB
  by_cases hok : Tr.Is T
  case neg =>
    have R := Lib.hid (show euV T = 0 ∧ euC T = 1 from by unfold euV euC; rw [if_neg hok, if_neg hok]; exact ⟨rfl, rfl⟩)
    rw [decide_eq_false hok] at TI
    clear hok
    go_enter Tryd.func49, Tryd.ntmps49
    go_upto_region 1 with fail
    rw [← hU]
    clear hU
    go_wp2_with fail
    (with_reducible refine TI.out.mono ?_)
    rintro e w1 ⟨rfl, hb⟩
    have D1 := Lib.hid (DU.out.trans (hb.mono (by omega)))
    clear hb
    go_wp2
    refine bodyPost_ret (v := .tuple #[.int .i64 0, .int .i64 1]) (by simp [results, Tryd.results49, go_sem]) rfl ?_
    unfold ResE
    rw [R.out.1, R.out.2]
    exact ⟨rfl, D1.out⟩
  rw [decide_eq_true hok] at TI
  have h8 : n ≤ 8 := by rw [← LN.out]; exact hok.1
  have IS := Lib.hid hok
  have R := Lib.hid (show euV T = cntV T - cntE T + cntF T - n ∧ euC T = 0 from by unfold euV euC; rw [if_pos hok, if_pos hok, LN.out]; exact ⟨rfl, rfl⟩)
  obtain ⟨l1, l2, l3⟩ := cnt_le T
  rw [LN.out] at l1 l2 l3
  obtain ⟨q1, hq1⟩ : ∃ q, cntV T = q := ⟨_, rfl⟩
  obtain ⟨q2, hq2⟩ : ∃ q, cntE T = q := ⟨_, rfl⟩
  obtain ⟨q3, hq3⟩ : ∃ q, cntF T = q := ⟨_, rfl⟩
  rw [hq1, hq2, hq3] at R
  have QQ := Lib.hid (show [(cntV T : Int), cntE T, cntF T, T.length] = [(q1 : Int), q2, q3, T.length] from by rw [hq1, hq2, hq3])
  rw [hq1] at l1
  rw [hq2] at l2
  rw [hq3] at l3
  clear hok hq1 hq2 hq3
  go_enter Tryd.func49, Tryd.ntmps49
  go_upto_region 1 with fail
  rw [← hU]
  clear hU
  go_wp2_with fail
  (with_reducible refine TI.out.mono ?_)
  rintro e w1 ⟨rfl, hb⟩
  have D1 := Lib.hid (DU.out.trans (hb.mono (by omega)))
  have z1 := hb.size
  have k0 := (hb.cell (p := ⟨w.heap.size, 0, none⟩) (by dsimp only; omega)).trans k0
  have CI := Lib.hid (count_spec A n c T w1 (HT.out.into D1.out) IS.out)
  clear hb TI
  go_wp2_with fail
  (with_reducible refine CI.out.mono ?_)
  rintro e w2 ⟨Av, cv, Ae, ce, Af, cf, Ac, cc, rv, re, rf, rfl, -, -, -, ⟨hcc, hM⟩, hb⟩
  rw [QQ.out, LN.out] at hM
  have z2 := hb.size
  have D2 := Lib.hid (D1.out.trans (hb.mono (by omega)))
  obtain ⟨b, off, rfl, hbl, hc⟩ := hM.ints.2 (by simp)
  have c0 := hc 0 (by simp)
  have c1 := hc 1 (by simp)
  have c3 := hc 2 (by simp)
  have c4 := hc 3 (by simp)
  simp only [List.getD_cons_zero, List.getD_cons_succ, Nat.add_zero] at c0 c1 c3 c4
  have FIN := Lib.hid (show (0 : Int) + q1 - q2 + q3 - n = euV T from by rw [R.out.1]; omega)
  clear hM hc hcc hb CI k0
  have g1 : (q1 : Int) ≤ 32 := by omega
  have g2 : (q2 : Int) ≤ 48 := by omega
  have g3 : (q3 : Int) ≤ 32 := by omega
  have g4 : (n : Int) ≤ 8 := by omega
  obtain ⟨V, hV⟩ : ∃ V, V = w2.alloc (Obj.cells #[.slice Av rv.length cv, .slice Ae re.length ce, .slice Af rf.length cf] 59) := ⟨_, rfl⟩
  have BV : Below w2.heap.size w2 V := by rw [hV]; exact al1 _ _
  have c0 := (BV.cell (p := ⟨b, off, none⟩) hbl).trans c0
  have c1 := (BV.cell (p := ⟨b, off + 1, none⟩) hbl).trans c1
  have c3 := (BV.cell (p := ⟨b, off + 2, none⟩) hbl).trans c3
  have c4 := (BV.cell (p := ⟨b, off + 3, none⟩) hbl).trans c4
  have D3 := Lib.hid (D2.out.trans (BV.mono (by omega)))
  clear BV
  go_upto_region 4 with fail
  rw [← hV]
  clear hV
  go_quiet (fail)
  go_wp2
  refine bodyPost_ret (v := .tuple #[.int .i64 (euV T), .int .i64 0]) (by simp [results, Tryd.results49, go_sem]; rw [R.out.1]) rfl ?_
  unfold ResE
  rw [R.out.2]
  exact ⟨rfl, below_drewN D3.out _⟩
end Sk
end Go.Proofs.YtjendlfophdfeaaDoor

namespace Go.Proofs.YtjendlfophdfeaaDoor
open Go.RowKit
namespace Sk
/-- A row while it is filled. -/
def filR (m : List Int) (wd a k : Nat) : List Int := rowS m wd a k ++ List.replicate (wd - k) 0
theorem filR_set {m : List Int} {wd a k : Nat} (h : k < wd) : (filR m wd a k).set k (cls m (a * wd + k) : Int) = filR m wd a (k + 1) := by
  unfold filR
  rw [List.set_append_right _ _ (by rw [rowS_len]; exact Nat.le_refl _), rowS_len, Nat.sub_self, show wd - k = (wd - (k + 1)) + 1 by omega, List.replicate_succ, List.set_cons_zero, rowS_succ, List.append_assoc]
  rfl
theorem filR_len {m : List Int} {wd a k : Nat} (h : k ≤ wd) : (filR m wd a k).length = wd := by simp [filR, rowS_len]; omega
theorem filR_all (m : List Int) (wd a : Nat) : filR m wd a wd = rowS m wd a wd := by simp [filR]
theorem filR_zero (m : List Int) (wd a : Nat) : filR m wd a 0 = List.replicate wd 0 := by simp [filR, rowS]
theorem class_impl (g i : Nat) (v : Int) (s : Int) (w : World) (h : w.cell? ⟨g, i * 6 + 3, none⟩ = some (.int .i64 v)) : Calls Tryd.prog 163 #[.pointer (some ⟨g, i * 6, none⟩), .int .i64 s] w fun e w' => e = .returned (.int .i64 v) ∧ w = w' := by
  go_enter Tryd.func163, Tryd.ntmps163
  go_wp2
  go_ret
  exact ⟨rfl, rfl⟩
/-- A list of lists of the call's own. -/
def ResO2 (w : World) (T : List (List Int)) (e : Ending) (w' : World) : Prop := ∃ A c rs, e = .returned (.slice A rs.length c) ∧ OwnS w' w.heap.size w'.heap.size A c rs ∧ vals rs = T ∧ Below w.heap.size w w'
set_option maxRecDepth 100000 in
set_option maxHeartbeats 16000000 in
theorem table_impl (g N wd l0 t : Nat) (F : FS) (w : World) (h : FoN w g N wd l0 F) (hN : wd * t = N) (ht : t ≤ 8) (hw : wd ≤ 6) (hw0 : 0 < wd) :
    Calls Tryd.prog 119 #[.pointer (some ⟨g + 1, 0, none⟩), .func (.func 163) #[] #[]] w (ResO2 w (tblS F.m wd t)) := by
  have n48 : N ≤ 48 := by rw [← hN]; exact Nat.mul_le_mul hw ht
  obtain ⟨A0, c0, lo, hi, ⟨x0, x1, x2⟩, -, ⟨l1, l2, l3⟩, ⟨par, sg, hF⟩, hgz⟩ := h
  have FF := Lib.hid hF
  clear hF x2 l1 l2 A0 c0
  go_enter Tryd.func119, Tryd.ntmps119
  go_wp2
  go_loopw [6, 5] (fun i v W => ∃ (a n3 c3 : Nat) (A3 : Option Addr) (qs : List Rw), i = .int .i64 ((a * wd : Nat) : Int) ∧ v = .slice A3 n3 c3 ∧ qs.length = n3 ∧ a ≤ t ∧ vals qs = tblS F.m wd a ∧ OwnS W w.heap.size W.heap.size A3 c3 qs ∧ Below w.heap.size w W) (fun i _ _ => N - (intOf i).toNat)
  case atStart => exact ⟨0, 0, 0, none, [], by simp, rfl, rfl, Nat.zero_le _, rfl, OwnS.nil _ _ _, Below.refl _ _⟩
  case round =>
    obtain ⟨W, rfl⟩ : ∃ W : World, W = wr := ⟨_, rfl⟩
    obtain ⟨a, n3, c3, A3, qs, rfl, rfl, hq, hat, hv, ho, hb⟩ := hrel
    have QM := Lib.hid hq
    have V3 := Lib.hid hv
    have S3 := Lib.hid ho
    have D3 := Lib.hid hb
    have zW : w.heap.size ≤ W.heap.size := hb.size
    have n3a : n3 ≤ t := by rw [← hq, ← vals_len, hv, tblS_len]; exact hat
    have TS := Lib.hid (tblS_succ F.m wd a)
    have y0 := (hb.cell (p := ⟨g + 1, 0, none⟩) (by dsimp only; omega)).trans x0
    have y1 := (hb.cell (p := ⟨g + 1, 1, none⟩) (by dsimp only; omega)).trans x1
    have FW := Lib.hid (FF.out.below hb (by omega))
    have HA := Lib.hid (show a < t → a * wd + wd ≤ N from fun h => by
      have := Nat.mul_le_mul_left wd (show a + 1 ≤ t from h); rw [hN, Nat.mul_succ, Nat.mul_comm] at this; exact this)
    have HAn := Lib.hid (show ¬ a < t → a * wd = N from fun h => by
      obtain rfl : a = t := by omega
      rw [Nat.mul_comm]; exact hN)
    have HS := Lib.hid (show (a + 1) * wd = a * wd + wd from Nat.succ_mul _ _)
    have FS_ := Lib.hid (fun k (hk : k < wd) => filR_set (m := F.m) (wd := wd) (a := a) hk)
    obtain ⟨x, hx⟩ : ∃ x, a * wd = x := ⟨_, rfl⟩
    rw [hx] at HA HAn HS FS_
    rw [hx]
    have s0 : IntKind.i64.wrap ((x : Int) + (wd : Int)) = (x : Int) + (wd : Int) := IntWalk.i64_in _ (by
      by_cases hlt : a < t
      · have := HA.out hlt; omega
      · have := HAn.out hlt; omega)
    clear hq hv ho hb hx
    by_cases hlt : a < t
    case neg =>
      have hxe := HAn.out hlt
      obtain rfl : t = a := by omega
      subst hxe
      have j3 : ¬ (x : Int) < (x : Int) := by omega
      go_wp2
      go_ret
      exact ⟨A3, c3, qs, by rw [QM.out]; rfl, S3.out, V3.out, D3.out⟩
    have hxw := HA.out hlt
    have j3 : (x : Int) < (N : Int) := by omega
    have MK := run_make_ints wd (by omega) W
    obtain ⟨W6, hW6⟩ : ∃ W6, W6 = W.alloc (.cells (Array.replicate wd (Value.int .i64 0)) 2) := ⟨_, rfl⟩
    have BW := Lib.hid (show Below W.heap.size W W6 from by rw [hW6]; exact al1 _ _)
    obtain ⟨z6, z6b⟩ : W6.heap.size ≤ W.heap.size + 1 ∧ W.heap.size + 1 ≤ W6.heap.size := by rw [hW6]; simp
    have B6 := Lib.hid (show Blk W6 W.heap.size (filR F.m wd a 0) from by rw [hW6, filR_zero]; exact Blk.zeros W wd)
    go_upto_region 6 with fail
    rw [← hW6]
    clear hW6 MK
    go_wp2
    go_loopw [29] (fun i Y => ∃ k : Nat, i = .int .i64 k ∧ k ≤ wd ∧ Blk Y W.heap.size (filR F.m wd a k) ∧ Kept W.heap.size (W.heap.size + 1) W6 Y) (fun i _ => wd - (intOf i).toNat)
    case atStart => exact ⟨0, rfl, Nat.zero_le _, B6.out, Kept.refl _ _ _⟩
    case round =>
      obtain ⟨Y, rfl⟩ : ∃ Y : World, Y = wr := ⟨_, rfl⟩
      obtain ⟨k, rfl, hk, hbl, hkp⟩ := hrel
      have BY := Lib.hid hbl
      have KY := Lib.hid hkp
      have DWY := Lib.hid (BW.out.trans (hkp.below (B := W.heap.size) (Nat.le_refl _) (by omega)))
      have zY : W6.heap.size ≤ Y.heap.size := hkp.size
      have w0 := (DWY.out.cell (p := ⟨g + 1, 0, none⟩) (by dsimp only; omega)).trans y0
      have w1 := (DWY.out.cell (p := ⟨g + 1, 1, none⟩) (by dsimp only; omega)).trans y1
      have FY := Lib.hid (FW.out.below DWY.out (by omega))
      have k0 : (0 : Int) ≤ (k : Int) := by omega
      clear hbl hkp B6
      by_cases hlt2 : k < wd
      · have k1 : (k : Int) < (wd : Int) := by omega
        obtain ⟨j, hj⟩ : ∃ j, x + k = j := ⟨_, rfl⟩
        have hjN : j < N := by omega
        have s1 : IntKind.i64.wrap ((x : Int) + (k : Int)) = (j : Int) := by rw [show (x : Int) + (k : Int) = (j : Int) by omega]; exact IntWalk.i64_in _ (by omega)
        have NX := Lib.hid (FS_.out k hlt2)
        rw [hj] at NX
        obtain ⟨r, hr, hrj, -, hrr⟩ := FY.out.tree.root j hjN
        dsimp only at hr hrr
        have CE := Lib.hid (show (cls F.m j : Int) = rk F.m r from by unfold cls; rw [hr, Int.toNat_natCast])
        have RC := Lib.hid (show Calls Tryd.prog 164 #[.pointer (some ⟨g, j * 6, none⟩)] Y fun e w' => e = .returned (.tuple #[.pointer (some ⟨g, r * 6, none⟩), .int .i64 (F.ss j)]) ∧ Below Y.heap.size Y w' from by
          have := root_impl g N j _ par sg _ Y FY.out hjN
          dsimp only at this
          rwa [hr, Int.toNat_natCast] at this)
        have c3' := (FY.out.cell r (by omega)).cls
        rw [show clF F.m N r = (rk F.m r : Int) from by unfold clF; rw [if_pos ⟨by omega, hrr⟩]] at c3'
        obtain ⟨R, hR⟩ : ∃ R, rk F.m r = R := ⟨_, rfl⟩
        rw [hR] at c3' CE
        rw [CE.out] at NX
        have j0 : (0 : Int) ≤ (j : Int) := by omega
        have j1 : (j : Int) < (N : Int) := by omega
        have LY := Lib.hid (filR_len (m := F.m) (a := a) hk)
        have gY : W.heap.size < Y.heap.size := by omega
        clear hr hrr hR hj
        go_wp2_with fail
        (with_reducible refine RC.out.mono ?_)
        rintro e Y2 ⟨rfl, hY2⟩
        have c3' := (hY2.cell (p := ⟨g, r * 6 + 3, none⟩) (by dsimp only; omega)).trans c3'
        have BY2 := Lib.hid (BY.out.below hY2 gY)
        have KY2 := Lib.hid (KY.out.trans (Kept.of_below hY2 W.heap.size (W.heap.size + 1)))
        have CC := Lib.hid (class_impl g r (R : Int) (F.ss j) Y2 c3')
        clear hY2 RC
        go_wp2_with fail
        (with_reducible refine CC.out.mono ?_)
        rintro e w' ⟨rfl, rfl⟩
        have cc := BY2.out.cell (i := k) (by rw [LY.out]; exact hlt2)
        have ff := BY2.out.frozen k
        go_wp2
        go_roundw
        case rel => exact ⟨k + 1, by go_num, by omega, by rw [← NX.out]; exact BY2.out.set_ k R, KY2.out.set_ (p := ⟨W.heap.size, k, none⟩) (Nat.le_refl _) (Nat.lt_succ_self _) _⟩
        case measure => simp [intOf]; omega
      · obtain rfl : wd = k := by omega
        have k1 : ¬ (wd : Int) < (wd : Int) := by omega
        have BF := Lib.hid (show Blk Y W.heap.size (rowS F.m wd a wd) from by rw [← filR_all]; exact BY.out)
        have SY := Lib.hid (S3.out.below DWY.out (Nat.le_refl _))
        have RI := Lib.hid (show Rw.In ⟨some ⟨W.heap.size, 0, none⟩, wd, rowS F.m wd a wd⟩ Y W.heap.size (W.heap.size + 1) from ⟨by dsimp only; rw [rowS_len]; exact Nat.le_refl _, by dsimp only; unfold maxLen; omega, by dsimp only; rw [rowS_len]; exact (Own.of_blk BF.out (Nat.le_refl _) (Nat.lt_succ_self _) (rowS_len _ _ _ _) (by unfold maxLen; omega)).mine⟩)
        have SV := Lib.hid (show Rw.sv ⟨some ⟨W.heap.size, 0, none⟩, wd, rowS F.m wd a wd⟩ = .slice (some ⟨W.heap.size, 0, none⟩) wd wd from by show Value.slice _ (rowS F.m wd a wd).length _ = _; rw [rowS_len])
        have DY := Lib.hid (D3.out.trans (DWY.out.mono zW))
        go_upto_region 11 with fail
        go_wp2_with (at_builtin; refine push_row rfl _ _ rfl w.heap.size W.heap.size W.heap.size c3 n3 Y.heap.size A3 qs ⟨some ⟨W.heap.size, 0, none⟩, wd, rowS F.m wd a wd⟩ rfl QM.out (by exact SY.out.below (al1 Y _) (by omega)) rfl (by rw [SV.out]; exact Wd.alloc_first _ _ _ _ rfl) (by exact (RI.out.below (al1 Y _) (by omega)).wide (Nat.le_refl _) (by simp; omega)) (Nat.le_refl _) zW (by simp; omega) (by simp; omega) (by omega) ?_; intro A7 c7 w7 h5 h6; have p0 := ((((al1 Y (Obj.cells #[.slice (some ⟨W.heap.size, 0, none⟩) wd wd] 48)).mono (show w.heap.size ≤ Y.heap.size by omega)).trans (h6.below (Nat.le_refl _) (by simp; omega))).cell (p := ⟨g + 1, 0, none⟩) (by dsimp only; omega)).trans w0; have O7 := Lib.hid h5; have K7 := Lib.hid h6; have s7 := h6.size; simp only [World.size_alloc] at s7; clear h5 h6)
        go_roundw
        case rel => exact ⟨a + 1, n3 + 1, c7, A7, qs ++ [⟨some ⟨W.heap.size, 0, none⟩, wd, rowS F.m wd a wd⟩], by rw [HS.out]; go_num, rfl, by rw [List.length_append, QM.out]; rfl, by omega, by rw [TS.out, ← V3.out]; simp [vals], O7.out, (DY.out.trans ((al1 Y _).mono (by omega))).trans (K7.out.below (Nat.le_refl _) (by simp; omega))⟩
        case measure => simp [intOf]; omega
set_option maxRecDepth 100000 in
set_option maxHeartbeats 4000000 in
theorem classes_impl (g N wd l0 t : Nat) (F : FS) (w : World) (h : FoN w g N wd l0 F) (hN : wd * t = N) (ht : t ≤ 8) (hw : wd ≤ 6) (hw0 : 0 < wd) :
    Calls Tryd.prog 117 #[.pointer (some ⟨g + 1, 0, none⟩)] w (ResO2 w (tblS F.m wd t)) := by
  have TI := Lib.hid (table_impl g N wd l0 t F w h hN ht hw hw0)
  clear h
  go_enter Tryd.func117, Tryd.ntmps117
  go_wp2_with fail
  (with_reducible refine TI.out.mono ?_)
  rintro e w' ⟨A, c, rs, rfl, h1, h2, h3⟩
  have H1 := Lib.hid h1
  have H2 := Lib.hid h2
  have H3 := Lib.hid h3
  clear h1 h2 h3
  go_wp2
  go_ret
  exact ⟨A, c, rs, rfl, H1.out, H2.out, H3.out⟩
end Sk
end Go.Proofs.YtjendlfophdfeaaDoor

namespace Go.Proofs.YtjendlfophdfeaaDoor
open Go.RowKit
namespace Sk
/-- Three lists of lists of the call's own, apart from each other. -/
def OwnK (w : World) (lo hi : Nat) (A1 : Option Addr) (c1 : Nat) (r1 : List Rw) (A2 : Option Addr) (c2 : Nat) (r2 : List Rw) (A3 : Option Addr) (c3 : Nat) (r3 : List Rw) : Prop :=
  ∃ m1 m2, (lo ≤ m1 ∧ m1 ≤ m2 ∧ m2 ≤ hi) ∧ OwnS w lo m1 A1 c1 r1 ∧ OwnS w m1 m2 A2 c2 r2 ∧ OwnS w m2 hi A3 c3 r3
def RdK (w : World) (B : Nat) (A1 : Option Addr) (r1 : List Rw) (A2 : Option Addr) (r2 : List Rw) (A3 : Option Addr) (r3 : List Rw) : Prop := RdS w B A1 r1 ∧ RdS w B A2 r2 ∧ RdS w B A3 r3
section
variable {w w' : World} {lo hi lo' hi' B : Nat} {A1 A2 A3 : Option Addr} {c1 c2 c3 : Nat} {r1 r2 r3 : List Rw}
theorem OwnK.below (h : OwnK w lo hi A1 c1 r1 A2 c2 r2 A3 c3 r3) (hb : Below B w w') (hB : hi ≤ B) : OwnK w' lo hi A1 c1 r1 A2 c2 r2 A3 c3 r3 := by
  obtain ⟨m1, m2, ⟨a, b, c⟩, x, y, z⟩ := h
  exact ⟨m1, m2, ⟨a, b, c⟩, x.below hb (by omega), y.below hb (by omega), z.below hb (by omega)⟩
theorem OwnK.kept (h : OwnK w lo hi A1 c1 r1 A2 c2 r2 A3 c3 r3) (hb : Kept lo' hi' w w') (hw : hi ≤ w.heap.size) (hd : hi ≤ lo' ∨ hi' ≤ lo) : OwnK w' lo hi A1 c1 r1 A2 c2 r2 A3 c3 r3 := by
  obtain ⟨m1, m2, ⟨a, b, c⟩, x, y, z⟩ := h
  exact ⟨m1, m2, ⟨a, b, c⟩, x.kept hb (by omega) (by omega), y.kept hb (by omega) (by omega), z.kept hb (by omega) (by omega)⟩
theorem OwnK.al (h : OwnK w lo hi A1 c1 r1 A2 c2 r2 A3 c3 r3) (hw : hi ≤ w.heap.size) (hb : Below w.heap.size w w') : OwnK w' lo hi A1 c1 r1 A2 c2 r2 A3 c3 r3 := h.below hb hw
theorem OwnK.wide (h : OwnK w lo hi A1 c1 r1 A2 c2 r2 A3 c3 r3) (h1 : lo' ≤ lo) (h2 : hi ≤ hi') : OwnK w lo' hi' A1 c1 r1 A2 c2 r2 A3 c3 r3 := by
  obtain ⟨m1, m2, ⟨a, b, c⟩, x, y, z⟩ := h
  exact ⟨m1, m2, ⟨by omega, b, by omega⟩, x.wide h1 (Nat.le_refl _), y, z.wide (Nat.le_refl _) h2⟩
theorem OwnK.rd (h : OwnK w lo hi A1 c1 r1 A2 c2 r2 A3 c3 r3) : RdK w hi A1 r1 A2 r2 A3 r3 := by
  obtain ⟨m1, m2, ⟨a, b, c⟩, x, y, z⟩ := h
  exact ⟨x.rd.more (by omega), y.rd.more (by omega), z.rd⟩
theorem RdK.below (h : RdK w B A1 r1 A2 r2 A3 r3) (hb : Below B w w') : RdK w' B A1 r1 A2 r2 A3 r3 := ⟨h.1.below hb, h.2.1.below hb, h.2.2.below hb⟩
end
/-- Three lists of lists, each of them in blocks of its own between two bounds. -/
def RdO (w : World) (lo hi : Nat) (A1 : Option Addr) (c1 : Nat) (r1 : List Rw) (A2 : Option Addr) (c2 : Nat) (r2 : List Rw) (A3 : Option Addr) (c3 : Nat) (r3 : List Rw) : Prop :=
  (∃ l u, (lo ≤ l ∧ u ≤ hi) ∧ OwnS w l u A1 c1 r1) ∧ (∃ l u, (lo ≤ l ∧ u ≤ hi) ∧ OwnS w l u A2 c2 r2) ∧ (∃ l u, (lo ≤ l ∧ u ≤ hi) ∧ OwnS w l u A3 c3 r3)
section
variable {w w' : World} {lo hi lo' hi' B : Nat} {A1 A2 A3 : Option Addr} {c1 c2 c3 : Nat} {r1 r2 r3 : List Rw}
theorem RdO.below (h : RdO w lo hi A1 c1 r1 A2 c2 r2 A3 c3 r3) (hb : Below B w w') (hB : hi ≤ B) : RdO w' lo hi A1 c1 r1 A2 c2 r2 A3 c3 r3 := by
  obtain ⟨⟨l1, u1, a1, x⟩, ⟨l2, u2, a2, y⟩, ⟨l3, u3, a3, z⟩⟩ := h
  exact ⟨⟨l1, u1, a1, x.below hb (by omega)⟩, ⟨l2, u2, a2, y.below hb (by omega)⟩, ⟨l3, u3, a3, z.below hb (by omega)⟩⟩
theorem RdO.kept (h : RdO w lo hi A1 c1 r1 A2 c2 r2 A3 c3 r3) (hb : Kept lo' hi' w w') (hw : hi ≤ w.heap.size) (hd : hi ≤ lo' ∨ hi' ≤ lo) : RdO w' lo hi A1 c1 r1 A2 c2 r2 A3 c3 r3 := by
  obtain ⟨⟨l1, u1, a1, x⟩, ⟨l2, u2, a2, y⟩, ⟨l3, u3, a3, z⟩⟩ := h
  exact ⟨⟨l1, u1, a1, x.kept hb (by omega) (by omega)⟩, ⟨l2, u2, a2, y.kept hb (by omega) (by omega)⟩, ⟨l3, u3, a3, z.kept hb (by omega) (by omega)⟩⟩
theorem RdO.al (h : RdO w lo hi A1 c1 r1 A2 c2 r2 A3 c3 r3) (hw : hi ≤ w.heap.size) (hb : Below w.heap.size w w') : RdO w' lo hi A1 c1 r1 A2 c2 r2 A3 c3 r3 := h.below hb hw
theorem RdO.wide (h : RdO w lo hi A1 c1 r1 A2 c2 r2 A3 c3 r3) (h1 : lo' ≤ lo) (h2 : hi ≤ hi') : RdO w lo' hi' A1 c1 r1 A2 c2 r2 A3 c3 r3 := by
  obtain ⟨⟨l1, u1, a1, x⟩, ⟨l2, u2, a2, y⟩, ⟨l3, u3, a3, z⟩⟩ := h
  exact ⟨⟨l1, u1, by omega, x⟩, ⟨l2, u2, by omega, y⟩, ⟨l3, u3, by omega, z⟩⟩
theorem RdO.rd (h : RdO w lo hi A1 c1 r1 A2 c2 r2 A3 c3 r3) : RdK w hi A1 r1 A2 r2 A3 r3 := by
  obtain ⟨⟨l1, u1, a1, x⟩, ⟨l2, u2, a2, y⟩, ⟨l3, u3, a3, z⟩⟩ := h
  exact ⟨x.rd.more a1.2, y.rd.more a2.2, z.rd.more a3.2⟩
end
/-- Tables of at most eight rows of at most eight numbers. -/
theorem szr {T : List (List Int)} {rs : List Rw} (h : Fc.Szd T) (hv : vals rs = T) : rs.length ≤ 8 ∧ ∀ r ∈ rs, r.zs.length ≤ 8 := ⟨by have := h.1; rw [← hv, vals_len] at this; exact this, fun r hr => h.2 _ (by rw [← hv]; exact List.mem_map_of_mem hr)⟩
theorem tot8 : ∀ rs : List Rw, (∀ r ∈ rs, r.zs.length ≤ 8) → tot rs ≤ 8 * rs.length
  | [], _ => by simp [tot]
  | r :: rs, h => by
    have h1 := h r (List.mem_cons_self ..)
    have h2 := tot8 rs fun q hq => h q (List.mem_cons_of_mem _ hq)
    simp only [tot, List.length_cons]
    omega
structure Sz3 (T1 T2 T3 : List (List Int)) : Prop where
  a : Fc.Szd T1
  b : Fc.Szd T2
  c : Fc.Szd T3
structure V3 (T1 T2 T3 : List (List Int)) (r1 r2 r3 : List Rw) : Prop where
  a : vals r1 = T1
  b : vals r2 = T2
  c : vals r3 = T3
def tot3 (r1 r2 r3 : List Rw) : Nat := tot r1 + tot r2 + tot r3
theorem tot3_le {T1 T2 T3 : List (List Int)} {r1 r2 r3 : List Rw} (h : Sz3 T1 T2 T3) (v : V3 T1 T2 T3 r1 r2 r3) : tot3 r1 r2 r3 ≤ 192 ∧ r1.length + tot r1 ≤ 1048576 ∧ r2.length + tot r2 ≤ 1048576 ∧ r3.length + tot r3 ≤ 1048576 := by
  obtain ⟨a1, a2⟩ := szr h.a v.a
  obtain ⟨b1, b2⟩ := szr h.b v.b
  obtain ⟨d1, d2⟩ := szr h.c v.c
  have := tot8 r1 a2
  have := tot8 r2 b2
  have := tot8 r3 d2
  unfold tot3
  omega
set_option maxRecDepth 100000 in
set_option maxHeartbeats 4000000 in
theorem eqSk_any (A1 : Option Addr) (c1 : Nat) (r1 : List Rw) (A2 : Option Addr) (c2 : Nat) (r2 : List Rw) (A3 : Option Addr) (c3 : Nat) (r3 : List Rw) (A1x : Option Addr) (c1x : Nat) (r1x : List Rw) (A2x : Option Addr) (c2x : Nat) (r2x : List Rw) (A3x : Option Addr) (c3x : Nat) (r3x : List Rw) (T1 T2 T3 : List (List Int)) (B B' : Nat) (w : World) (h : RdK w B A1 r1 A2 r2 A3 r3) (h' : RdK w B' A1x r1x A2x r2x A3x r3x) (v : V3 T1 T2 T3 r1 r2 r3) (v' : V3 T1 T2 T3 r1x r2x r3x) (hz : Sz3 T1 T2 T3) (hB : B ≤ w.heap.size) (hB' : B' ≤ w.heap.size) :
    Calls Tryd.prog 41 #[.agg #[.slice A1 r1.length c1, .slice A2 r2.length c2, .slice A3 r3.length c3], .agg #[.slice A1x r1x.length c1x, .slice A2x r2x.length c2x, .slice A3x r3x.length c3x]] w fun e w' => e = .returned (.bool true) ∧ Below w.heap.size w w' := by
  obtain ⟨a1, a2⟩ := szr hz.a v.a
  obtain ⟨b1, b2⟩ := szr hz.b v.b
  obtain ⟨d1, d2⟩ := szr hz.c v.c
  obtain ⟨U, hU⟩ : ∃ U, U = (w.alloc (Obj.cells #[.slice A1 r1.length c1, .slice A2 r2.length c2, .slice A3 r3.length c3] 59)).alloc (Obj.cells #[.slice A1x r1x.length c1x, .slice A2x r2x.length c2x, .slice A3x r3x.length c3x] 59) := ⟨_, rfl⟩
  have DU := Lib.hid (show Below w.heap.size w U from by rw [hU]; exact al2 w _ _)
  obtain ⟨z, zb⟩ : U.heap.size ≤ w.heap.size + 2 ∧ w.heap.size + 2 ≤ U.heap.size := by rw [hU]; simp
  have k1 : U.cell? ⟨w.heap.size, 0, none⟩ = some (.slice A1 r1.length c1) := by rw [hU]; simp [go_sem]
  have k2 : U.cell? ⟨w.heap.size, 1, none⟩ = some (.slice A2 r2.length c2) := by rw [hU]; simp [go_sem]
  have k3 : U.cell? ⟨w.heap.size, 2, none⟩ = some (.slice A3 r3.length c3) := by rw [hU]; simp [go_sem]
  have j1 : U.cell? ⟨w.heap.size + 1, 0, none⟩ = some (.slice A1x r1x.length c1x) := by rw [hU]; simp [go_sem]
  have j2 : U.cell? ⟨w.heap.size + 1, 1, none⟩ = some (.slice A2x r2x.length c2x) := by rw [hU]; simp [go_sem]
  have j3 : U.cell? ⟨w.heap.size + 1, 2, none⟩ = some (.slice A3x r3x.length c3x) := by rw [hU]; simp [go_sem]
  have E1 := Lib.hid (fun (W : World) (hb : Below w.heap.size w W) => eqSS_any A1 A1x c1 c1x r1 r1x B B' W (h.1.below (hb.mono hB)) (h'.1.below (hb.mono hB')) (v.a.trans v'.a.symm) (Nat.le_trans hB hb.size) (Nat.le_trans hB' hb.size) (by omega) (fun r hr => by have := a2 r hr; omega))
  have E2 := Lib.hid (fun (W : World) (hb : Below w.heap.size w W) => eqSS_any A2 A2x c2 c2x r2 r2x B B' W (h.2.1.below (hb.mono hB)) (h'.2.1.below (hb.mono hB')) (v.b.trans v'.b.symm) (Nat.le_trans hB hb.size) (Nat.le_trans hB' hb.size) (by omega) (fun r hr => by have := b2 r hr; omega))
  have E3 := Lib.hid (fun (W : World) (hb : Below w.heap.size w W) => eqSS_any A3 A3x c3 c3x r3 r3x B B' W (h.2.2.below (hb.mono hB)) (h'.2.2.below (hb.mono hB')) (v.c.trans v'.c.symm) (Nat.le_trans hB hb.size) (Nat.le_trans hB' hb.size) (by omega) (fun r hr => by have := d2 r hr; omega))
  clear h h' v v' hz a2 b2 d2 a1 b1 d1
  go_enter Tryd.func41, Tryd.ntmps41
  go_upto_region 1 with fail
  rw [← hU]
  clear hU
  go_wp2_with fail
  (with_reducible refine (E1.out _ DU.out).mono ?_)
  rintro e w1 ⟨rfl, hb⟩
  have D1 := Lib.hid (DU.out.trans (hb.mono (by omega)))
  have k2 := (hb.cell (p := ⟨w.heap.size, 1, none⟩) (by dsimp only; omega)).trans k2
  have k3 := (hb.cell (p := ⟨w.heap.size, 2, none⟩) (by dsimp only; omega)).trans k3
  have j2 := (hb.cell (p := ⟨w.heap.size + 1, 1, none⟩) (by dsimp only; omega)).trans j2
  have j3 := (hb.cell (p := ⟨w.heap.size + 1, 2, none⟩) (by dsimp only; omega)).trans j3
  have z1 := hb.size
  clear hb E1
  go_wp2_with fail
  (with_reducible refine (E2.out _ D1.out).mono ?_)
  rintro e w2 ⟨rfl, hb⟩
  have D2 := Lib.hid (D1.out.trans (hb.mono (by omega)))
  have k3 := (hb.cell (p := ⟨w.heap.size, 2, none⟩) (by dsimp only; omega)).trans k3
  have j3 := (hb.cell (p := ⟨w.heap.size + 1, 2, none⟩) (by dsimp only; omega)).trans j3
  have z2 := hb.size
  clear hb E2
  go_wp2_with fail
  (with_reducible refine (E3.out _ D2.out).mono ?_)
  rintro e w3 ⟨rfl, hb⟩
  have D3 := Lib.hid (D2.out.trans (hb.mono (by omega)))
  clear hb E3
  go_wp2
  go_ret
  exact ⟨rfl, D3.out⟩
/-- A skeleton that is marked. -/
def mk1 (r1 : List Rw) : List Rw := mk 1 r1
def mk2 (r1 r2 : List Rw) : List Rw := mk (1 + tot r1) r2
def mk3 (r1 r2 r3 : List Rw) : List Rw := mk (1 + tot r1 + tot r2) r3
set_option maxRecDepth 100000 in
set_option maxHeartbeats 4000000 in
theorem markSk_any (A1 : Option Addr) (c1 : Nat) (r1 : List Rw) (A2 : Option Addr) (c2 : Nat) (r2 : List Rw) (A3 : Option Addr) (c3 : Nat) (r3 : List Rw) (T1 T2 T3 : List (List Int)) (lo hi : Nat) (w : World) (h : OwnK w lo hi A1 c1 r1 A2 c2 r2 A3 c3 r3) (hhi : hi ≤ w.heap.size) (v : V3 T1 T2 T3 r1 r2 r3) (hz : Sz3 T1 T2 T3) :
    Calls Tryd.prog 42 #[.agg #[.slice A1 r1.length c1, .slice A2 r2.length c2, .slice A3 r3.length c3], .int .i64 1] w fun e w' => e = .returned (.int .i64 (1 + (tot3 r1 r2 r3 : Nat))) ∧ OwnK w' lo hi A1 c1 (mk1 r1) A2 c2 (mk2 r1 r2) A3 c3 (mk3 r1 r2 r3) ∧ Kept lo hi w w' := by
  obtain ⟨t0, t1, t2, t3⟩ := tot3_le hz v
  have TT := Lib.hid (show tot3 r1 r2 r3 = tot r1 + tot r2 + tot r3 from rfl)
  unfold tot3 at t0
  obtain ⟨m1, m2, ⟨a, b, d⟩, x, y, q⟩ := h
  obtain ⟨U, hU⟩ : ∃ U, U = w.alloc (Obj.cells #[.slice A1 r1.length c1, .slice A2 r2.length c2, .slice A3 r3.length c3] 59) := ⟨_, rfl⟩
  have DU := Lib.hid (show Below w.heap.size w U from by rw [hU]; exact al1 w _)
  obtain ⟨z, zb⟩ : U.heap.size ≤ w.heap.size + 1 ∧ w.heap.size + 1 ≤ U.heap.size := by rw [hU]; simp
  have k1 : U.cell? ⟨w.heap.size, 0, none⟩ = some (.slice A1 r1.length c1) := by rw [hU]; simp [go_sem]
  have k2 : U.cell? ⟨w.heap.size, 1, none⟩ = some (.slice A2 r2.length c2) := by rw [hU]; simp [go_sem]
  have k3 : U.cell? ⟨w.heap.size, 2, none⟩ = some (.slice A3 r3.length c3) := by rw [hU]; simp [go_sem]
  have X := Lib.hid (x.below DU.out (by omega))
  have Y := Lib.hid (y.below DU.out (by omega))
  have QQ := Lib.hid (q.below DU.out (by omega))
  have KU := Lib.hid (Kept.of_below DU.out lo hi)
  clear x y q v hz
  go_enter Tryd.func42, Tryd.ntmps42
  go_upto_region 1 with fail
  rw [← hU]
  clear hU
  go_wp2_with fail
  (with_reducible refine (markSS_any A1 c1 1 r1 lo m1 _ X.out (by omega) t1 (by omega) (by omega)).mono ?_)
  rintro e w1 ⟨rfl, ho, hk⟩
  have X1 := Lib.hid ho
  have Y1 := Lib.hid (Y.out.kept hk (by omega) (.inr (Nat.le_refl _)))
  have Q1 := Lib.hid (QQ.out.kept hk (by omega) (.inr (by omega)))
  have K1 := Lib.hid (KU.out.trans (hk.wide (lo' := lo) (hi' := hi) (Nat.le_refl _) (by omega)))
  have k2 := (World.cell?_of_block (a := ⟨w.heap.size, 1, none⟩) (hk.block w.heap.size (by omega) (by omega))).trans k2
  have k3 := (World.cell?_of_block (a := ⟨w.heap.size, 2, none⟩) (hk.block w.heap.size (by omega) (by omega))).trans k3
  have z1 := hk.size
  clear ho hk X Y QQ KU
  go_wp2_with fail
  (with_reducible refine (markSS_any A2 c2 _ r2 m1 m2 _ Y1.out (by omega) t2 (by omega) (by omega)).mono ?_)
  rintro e w2 ⟨rfl, ho, hk⟩
  have Y2 := Lib.hid ho
  have X2 := Lib.hid (X1.out.kept hk (by omega) (.inl (Nat.le_refl _)))
  have Q2 := Lib.hid (Q1.out.kept hk (by omega) (.inr (Nat.le_refl _)))
  have K2 := Lib.hid (K1.out.trans (hk.wide (lo' := lo) (hi' := hi) (by omega) (by omega)))
  have k3 := (World.cell?_of_block (a := ⟨w.heap.size, 2, none⟩) (hk.block w.heap.size (by omega) (by omega))).trans k3
  have z2 := hk.size
  clear ho hk X1 Y1 Q1 K1
  go_wp2_with fail
  (with_reducible refine (markSS_any A3 c3 _ r3 m2 hi _ Q2.out (by omega) t3 (by omega) (by omega)).mono ?_)
  rintro e w3 ⟨rfl, ho, hk⟩
  have Q3 := Lib.hid ho
  have X3 := Lib.hid (X2.out.kept hk (by omega) (.inl (by omega)))
  have Y3 := Lib.hid (Y2.out.kept hk (by omega) (.inl (Nat.le_refl _)))
  have K3 := Lib.hid (K2.out.trans (hk.wide (lo' := lo) (hi' := hi) (by omega) (Nat.le_refl _)))
  clear ho hk X2 Y2 Q2 K2
  go_wp2
  go_ret
  refine ⟨?_, ⟨m1, m2, ⟨a, b, d⟩, X3.out, Y3.out, Q3.out⟩, K3.out⟩
  rw [TT.out]
  simp [Int.add_assoc]
set_option maxRecDepth 100000 in
set_option maxHeartbeats 4000000 in
theorem heldSk_any (A1 : Option Addr) (c1 : Nat) (r1 : List Rw) (A2 : Option Addr) (c2 : Nat) (r2 : List Rw) (A3 : Option Addr) (c3 : Nat) (r3 : List Rw) (T1 T2 T3 : List (List Int)) (B : Nat) (w : World) (h : RdK w B A1 (mk1 r1) A2 (mk2 r1 r2) A3 (mk3 r1 r2 r3)) (hB : B ≤ w.heap.size) (v : V3 T1 T2 T3 r1 r2 r3) (hz : Sz3 T1 T2 T3) :
    Calls Tryd.prog 43 #[.agg #[.slice A1 r1.length c1, .slice A2 r2.length c2, .slice A3 r3.length c3], .int .i64 1] w fun e w' => e = .returned (.int .i64 (1 + (tot3 r1 r2 r3 : Nat))) ∧ Below w.heap.size w w' := by
  obtain ⟨t0, t1, t2, t3⟩ := tot3_le hz v
  have TT := Lib.hid (show tot3 r1 r2 r3 = tot r1 + tot r2 + tot r3 from rfl)
  unfold tot3 at t0
  obtain ⟨U, hU⟩ : ∃ U, U = w.alloc (Obj.cells #[.slice A1 r1.length c1, .slice A2 r2.length c2, .slice A3 r3.length c3] 59) := ⟨_, rfl⟩
  have DU := Lib.hid (show Below w.heap.size w U from by rw [hU]; exact al1 w _)
  have k1 : U.cell? ⟨w.heap.size, 0, none⟩ = some (.slice A1 r1.length c1) := by rw [hU]; simp [go_sem]
  have k2 : U.cell? ⟨w.heap.size, 1, none⟩ = some (.slice A2 r2.length c2) := by rw [hU]; simp [go_sem]
  have k3 : U.cell? ⟨w.heap.size, 2, none⟩ = some (.slice A3 r3.length c3) := by rw [hU]; simp [go_sem]
  have H := Lib.hid (h.below (DU.out.mono hB))
  have H1 := Lib.hid (heldSS_any A1 c1 1 r1 B U H.out.1 t1 (by omega) (by omega))
  have H2 := Lib.hid (heldSS_any A2 c2 (1 + tot r1) r2 B U H.out.2.1 t2 (by omega) (by omega))
  have H3 := Lib.hid (heldSS_any A3 c3 (1 + tot r1 + tot r2) r3 B U H.out.2.2 t3 (by omega) (by omega))
  obtain ⟨u1, hu1⟩ : ∃ u, (1 : Int) + tot r1 = u := ⟨_, rfl⟩
  rw [hu1] at H1 H2 H3
  obtain ⟨u2, hu2⟩ : ∃ u, u1 + (tot r2 : Int) = u := ⟨_, rfl⟩
  rw [hu2] at H2 H3
  obtain ⟨u3, hu3⟩ : ∃ u, u2 + (tot r3 : Int) = u := ⟨_, rfl⟩
  rw [hu3] at H3
  have U3 := Lib.hid (show u3 = 1 + ((tot3 r1 r2 r3 : Nat) : Int) from by rw [TT.out]; omega)
  have p1 : ¬ u1 < 0 := by omega
  have p2 : ¬ u2 < 0 := by omega
  have p3 : ¬ u3 < 0 := by omega
  clear h v hz H hu1 hu2 hu3
  go_enter Tryd.func43, Tryd.ntmps43
  go_upto_region 1 with fail
  rw [← hU]
  clear hU
  go_wp2_with fail
  (with_reducible refine H1.out.mono ?_)
  rintro e w1 ⟨rfl, rfl⟩
  go_wp2_with fail
  (with_reducible refine H2.out.mono ?_)
  rintro e w1 ⟨rfl, rfl⟩
  go_wp2_with fail
  (with_reducible refine H3.out.mono ?_)
  rintro e w1 ⟨rfl, rfl⟩
  go_wp2
  go_ret
  exact ⟨by rw [← U3.out]; rfl, DU.out⟩
end Sk
end Go.Proofs.YtjendlfophdfeaaDoor

namespace Go.Proofs.YtjendlfophdfeaaDoor
open Go.RowKit
namespace Sk
def skV (T : List (List Int)) : List (List Int) := if Tr.Is T then tabV T else []
def skE (T : List (List Int)) : List (List Int) := if Tr.Is T then tabE T else []
def skF (T : List (List Int)) : List (List Int) := if Tr.Is T then tabF T else []
theorem sk_no {T : List (List Int)} (h : ¬ Tr.Is T) : skV T = [] ∧ skE T = [] ∧ skF T = [] ∧ euC T = 1 := by unfold skV skE skF euC; rw [if_neg h, if_neg h, if_neg h, if_neg h]; exact ⟨rfl, rfl, rfl, rfl⟩
theorem sk_yes {T : List (List Int)} (h : Tr.Is T) : skV T = tabV T ∧ skE T = tabE T ∧ skF T = tabF T ∧ euC T = 0 := by unfold skV skE skF euC; rw [if_pos h, if_pos h, if_pos h, if_pos h]; exact ⟨rfl, rfl, rfl, rfl⟩
theorem szd_tbl (m : List Int) (wd n : Nat) (h : n ≤ 8) (hw : wd ≤ 8) : Fc.Szd (tblS m wd n) := ⟨by rw [tblS_len]; exact h, fun z hz => by
  obtain ⟨a, _, rfl⟩ := List.mem_map.1 hz
  rw [rowS_len]; exact hw⟩
theorem sk_sz (T : List (List Int)) : Sz3 (skV T) (skE T) (skF T) := by
  by_cases h : Tr.Is T
  · obtain ⟨a, b, c, -⟩ := sk_yes h
    rw [a, b, c]
    exact ⟨szd_tbl _ _ _ h.1 (by omega), szd_tbl _ _ _ h.1 (by omega), szd_tbl _ _ _ h.1 (by omega)⟩
  · obtain ⟨a, b, c, -⟩ := sk_no h
    rw [a, b, c]
    exact ⟨Fc.Szd.nil, Fc.Szd.nil, Fc.Szd.nil⟩
def ResSkO (w : World) (T1 T2 T3 : List (List Int)) (code : Int) (e : Ending) (w' : World) : Prop :=
  ∃ A1 c1 r1 A2 c2 r2 A3 c3 r3, e = .returned (.tuple #[.agg #[.slice A1 r1.length c1, .slice A2 r2.length c2, .slice A3 r3.length c3], .int .i64 code]) ∧ OwnK w' w.heap.size w'.heap.size A1 c1 r1 A2 c2 r2 A3 c3 r3 ∧ V3 T1 T2 T3 r1 r2 r3 ∧ Below w.heap.size w w'
def ResSkR (w : World) (T1 T2 T3 : List (List Int)) (code : Int) (e : Ending) (w' : World) : Prop :=
  ∃ A1 c1 r1 A2 c2 r2 A3 c3 r3, e = .returned (.tuple #[.agg #[.slice A1 r1.length c1, .slice A2 r2.length c2, .slice A3 r3.length c3], .int .i64 code]) ∧ RdO w' w.heap.size w'.heap.size A1 c1 r1 A2 c2 r2 A3 c3 r3 ∧ V3 T1 T2 T3 r1 r2 r3 ∧ Below w.heap.size w w'
theorem nil_rdo (w : World) (lo hi : Nat) (_h : lo ≤ hi) : RdO w lo hi none 0 [] none 0 [] none 0 [] := ⟨⟨lo, hi, ⟨Nat.le_refl _, Nat.le_refl _⟩, OwnS.nil _ _ _⟩, ⟨lo, hi, ⟨Nat.le_refl _, Nat.le_refl _⟩, OwnS.nil _ _ _⟩, ⟨lo, hi, ⟨Nat.le_refl _, Nat.le_refl _⟩, OwnS.nil _ _ _⟩⟩
theorem nil_own (w : World) (lo hi : Nat) (h : lo ≤ hi) : OwnK w lo hi none 0 [] none 0 [] none 0 [] := ⟨lo, lo, ⟨Nat.le_refl _, Nat.le_refl _, h⟩, OwnS.nil _ _ _, OwnS.nil _ _ _, OwnS.nil _ _ _⟩
set_option maxRecDepth 100000 in
set_option maxHeartbeats 8000000 in
theorem skeleton_spec (A : Option Addr) (n c : Nat) (T : List (List Int)) (w : World) (h : Fc.RdT w w.heap.size A n T) (hn : n ≤ 1048576) :
    Calls Tryd.prog 39 #[.agg #[.slice A n c]] w (ResSkR w (skV T) (skE T) (skF T) (euC T)) := by
  obtain ⟨U, hU⟩ : ∃ U, U = (w.alloc (Obj.cells #[.slice A n c] 29)).alloc (Obj.cells #[.slice none 0 0, .slice none 0 0, .slice none 0 0] 59) := ⟨_, rfl⟩
  have hB : Below w.heap.size w U := by rw [hU]; exact al2 _ _ _
  obtain ⟨z, zb⟩ : U.heap.size ≤ w.heap.size + 2 ∧ w.heap.size + 2 ≤ U.heap.size := by rw [hU]; simp
  have k0 : U.cell? ⟨w.heap.size, 0, none⟩ = some (.slice A n c) := by rw [hU]; simp [go_sem]
  have k1 : U.cell? ⟨w.heap.size + 1, 0, none⟩ = some (.slice none 0 0) := by rw [hU]; simp [go_sem]
  have k2 : U.cell? ⟨w.heap.size + 1, 1, none⟩ = some (.slice none 0 0) := by rw [hU]; simp [go_sem]
  have k3 : U.cell? ⟨w.heap.size + 1, 2, none⟩ = some (.slice none 0 0) := by rw [hU]; simp [go_sem]
  have FU := Lib.hid (show Free U (w.heap.size + 1) from by rw [hU]; have := Free.new (w.alloc (Obj.cells #[.slice A n c] 29)) 59 #[.slice none 0 0, .slice none 0 0, .slice none 0 0]; simpa using this)
  have DU := Lib.hid hB
  have HT := Lib.hid h
  have TI := Lib.hid (Fc.isTri_specT A n c T U (h.into hB) hn)
  clear h hB
  by_cases hok : Tr.Is T
  case neg =>
    have R := Lib.hid (sk_no hok)
    rw [decide_eq_false hok] at TI
    clear hok
    go_enter Tryd.func39, Tryd.ntmps39
    go_upto_region 1 with fail
    rw [← hU]
    clear hU
    go_wp2_with fail
    (with_reducible refine TI.out.mono ?_)
    rintro e w1 ⟨rfl, hb⟩
    have D1 := Lib.hid (DU.out.trans (hb.mono (by omega)))
    have k1 := (hb.cell (p := ⟨w.heap.size + 1, 0, none⟩) (by dsimp only; omega)).trans k1
    have k2 := (hb.cell (p := ⟨w.heap.size + 1, 1, none⟩) (by dsimp only; omega)).trans k2
    have k3 := (hb.cell (p := ⟨w.heap.size + 1, 2, none⟩) (by dsimp only; omega)).trans k3
    have F1 := FU.out.below hb (by omega)
    have f0 := F1 0
    have f1 := F1 1
    have f2 := F1 2
    have zz1 : w.heap.size ≤ w1.heap.size := by have := hb.size; omega
    clear hb F1
    go_wp2
    refine bodyPost_ret (v := .tuple #[.agg #[.slice none 0 0, .slice none 0 0, .slice none 0 0], .int .i64 1]) (by simp [results, Tryd.results39, go_sem, k1, k2, k3]) rfl ?_
    obtain ⟨a, b, d, e⟩ := R.out
    rw [a, b, d, e]
    exact ⟨none, 0, [], none, 0, [], none, 0, [], rfl, nil_rdo _ _ _ (by simpa [World.setCell] using zz1), ⟨rfl, rfl, rfl⟩, ((D1.out.setCell (by dsimp only; omega) _).setCell (by dsimp only; omega) _).setCell (by dsimp only; omega) _⟩
  rw [decide_eq_true hok] at TI
  have R := Lib.hid (sk_yes hok)
  have IS := Lib.hid hok
  clear hok
  go_enter Tryd.func39, Tryd.ntmps39
  go_upto_region 1 with fail
  rw [← hU]
  clear hU
  go_wp2_with fail
  (with_reducible refine TI.out.mono ?_)
  rintro e w1 ⟨rfl, hb⟩
  have D1 := Lib.hid (DU.out.trans (hb.mono (by omega)))
  have k0 := (hb.cell (p := ⟨w.heap.size, 0, none⟩) (by dsimp only; omega)).trans k0
  have k1 := (hb.cell (p := ⟨w.heap.size + 1, 0, none⟩) (by dsimp only; omega)).trans k1
  have k2 := (hb.cell (p := ⟨w.heap.size + 1, 1, none⟩) (by dsimp only; omega)).trans k2
  have k3 := (hb.cell (p := ⟨w.heap.size + 1, 2, none⟩) (by dsimp only; omega)).trans k3
  have F1 := Lib.hid (FU.out.below hb (by omega))
  have z1 := hb.size
  have CI := Lib.hid (count_spec A n c T w1 (HT.out.into D1.out) IS.out)
  clear hb TI FU
  go_wp2_with fail
  (with_reducible refine CI.out.mono ?_)
  rintro e w2 ⟨Av, cv, Ae, ce, Af, cf, Ac, cc, rv, re, rf, rfl, ⟨l1, u1, ⟨y1, x1⟩, h1, v1⟩, ⟨l2, u2, ⟨y2, x2⟩, h2, v2⟩, ⟨l3, u3, ⟨y3, x3⟩, h3, v3⟩, -, hb⟩
  have D2 := Lib.hid (D1.out.trans (hb.mono (by omega)))
  have k1 := (hb.cell (p := ⟨w.heap.size + 1, 0, none⟩) (by dsimp only; omega)).trans k1
  have k2 := (hb.cell (p := ⟨w.heap.size + 1, 1, none⟩) (by dsimp only; omega)).trans k2
  have k3 := (hb.cell (p := ⟨w.heap.size + 1, 2, none⟩) (by dsimp only; omega)).trans k3
  have F2 := F1.out.below hb (by omega)
  have f0 := F2 0
  have f1 := F2 1
  have f2 := F2 2
  have z2 := hb.size
  have H1 := Lib.hid h1
  have H2 := Lib.hid h2
  have H3 := Lib.hid h3
  have VV := Lib.hid (show V3 (tabV T) (tabE T) (tabF T) rv re rf from ⟨v1, v2, v3⟩)
  obtain ⟨Y, hY⟩ : ∃ Y, Y = ((w2.setCell ⟨w.heap.size + 1, 0, none⟩ (.slice Av rv.length cv)).setCell ⟨w.heap.size + 1, 1, none⟩ (.slice Ae re.length ce)).setCell ⟨w.heap.size + 1, 2, none⟩ (.slice Af rf.length cf) := ⟨_, rfl⟩
  obtain ⟨X, hX⟩ : ∃ X, X = Y.alloc (Obj.cells #[.slice Av rv.length cv, .slice Ae re.length ce, .slice Af rf.length cf] 59) := ⟨_, rfl⟩
  have zY : Y.heap.size = w2.heap.size := by rw [hY]; simp [World.setCell]
  have BX : Below Y.heap.size Y X := by rw [hX]; exact al1 _ _
  have KY : ∀ {l u : Nat} {A' : Option Addr} {c' : Nat} {r' : List Rw}, w1.heap.size ≤ l → u ≤ w2.heap.size → OwnS w2 l u A' c' r' → ∃ l u, (w.heap.size ≤ l ∧ u ≤ X.heap.size) ∧ OwnS X l u A' c' r' := fun {l u} _ _ _ a b h => by
    have h2 := h.keep (w' := Y) fun k hk _ => by rw [hY, Below.heap_setCell _ _ _ _ (by dsimp only; omega), Below.heap_setCell _ _ _ _ (by dsimp only; omega), Below.heap_setCell _ _ _ _ (by dsimp only; omega)]
    exact ⟨l, u, ⟨by omega, by have := BX.size; omega⟩, h2.below BX (by omega)⟩
  have RK := Lib.hid (show RdO X w.heap.size X.heap.size Av cv rv Ae ce re Af cf rf from ⟨KY y1 x1 h1, KY y2 x2 h2, KY y3 x3 h3⟩)
  have r1 : X.cell? ⟨w.heap.size + 1, 0, none⟩ = some (.slice Av rv.length cv) := (BX.cell (p := ⟨w.heap.size + 1, 0, none⟩) (by dsimp only; omega)).trans (by rw [hY, World.cell?_setCell_other _ _ _ _ (by simp), World.cell?_setCell_other _ _ _ _ (by simp)]; exact World.cell?_setCell_same _ _ _ k1)
  have r2 : X.cell? ⟨w.heap.size + 1, 1, none⟩ = some (.slice Ae re.length ce) := (BX.cell (p := ⟨w.heap.size + 1, 1, none⟩) (by dsimp only; omega)).trans (by rw [hY, World.cell?_setCell_other _ _ _ _ (by simp)]; exact World.cell?_setCell_same _ _ _ (show _ = some (Value.slice none 0 0) from by rw [World.cell?_setCell_other _ _ _ _ (by simp)]; exact k2))
  have r3 : X.cell? ⟨w.heap.size + 1, 2, none⟩ = some (.slice Af rf.length cf) := (BX.cell (p := ⟨w.heap.size + 1, 2, none⟩) (by dsimp only; omega)).trans (by rw [hY]; exact World.cell?_setCell_same _ _ _ (show _ = some (Value.slice none 0 0) from by rw [World.cell?_setCell_other _ _ _ _ (by simp), World.cell?_setCell_other _ _ _ _ (by simp)]; exact k3))
  have DX := Lib.hid (show Below w.heap.size w X from (show Below w.heap.size w Y from by rw [hY]; exact ((D2.out.setCell (by dsimp only; omega) _).setCell (by dsimp only; omega) _).setCell (by dsimp only; omega) _).trans (BX.mono (by omega)))
  have VV := Lib.hid (show V3 (tabV T) (tabE T) (tabF T) rv re rf from ⟨v1, v2, v3⟩)
  have ne1 : ¬ w.heap.size + 1 = w2.heap.size := by omega
  have ne2 : ¬ w2.heap.size = w.heap.size + 1 := by omega
  have lt1 : w.heap.size + 1 < w2.heap.size := by omega
  have EX := Lib.hid (show (((w2.setCell ⟨w.heap.size + 1, 0, none⟩ (.slice Av rv.length cv)).setCell ⟨w.heap.size + 1, 1, none⟩ (.slice Ae re.length ce)).setCell ⟨w.heap.size + 1, 2, none⟩ (.slice Af rf.length cf)).alloc (Obj.cells #[.slice Av rv.length cv, .slice Ae re.length ce, .slice Af rf.length cf] 59) = X from by rw [hX, hY])
  clear h1 h2 h3 v1 v2 v3 hb F2 F1 CI hX hY zY BX KY
  go_wp2
  rw [EX.out]
  refine bodyPost_ret (v := .tuple #[.agg #[.slice Av rv.length cv, .slice Ae re.length ce, .slice Af rf.length cf], .int .i64 0]) (by simp [results, Tryd.results39, go_sem, r1, r2, r3]) rfl ?_
  obtain ⟨a, b, d, e⟩ := R.out
  rw [a, b, d, e]
  exact ⟨Av, cv, rv, Ae, ce, re, Af, cf, rf, rfl, RK.out, VV.out, DX.out⟩
set_option maxRecDepth 100000 in
set_option maxHeartbeats 8000000 in
theorem skeleton_impl (A : Option Addr) (n c : Nat) (T : List (List Int)) (w : World) (h : Fc.RdT w w.heap.size A n T) (hv : Ws w) (hn : n ≤ 1048576) :
    Calls Tryd.prog 40 #[.agg #[.slice A n c]] w (ResSkO w (skV T) (skE T) (skF T) (euC T)) := by
  obtain ⟨U, hU⟩ : ∃ U, U = (w.alloc (Obj.cells #[.slice A n c] 29)).alloc (Obj.cells #[.slice none 0 0, .slice none 0 0, .slice none 0 0] 59) := ⟨_, rfl⟩
  have hB : Below w.heap.size w U := by rw [hU]; exact al2 _ _ _
  obtain ⟨z, zb⟩ : U.heap.size ≤ w.heap.size + 2 ∧ w.heap.size + 2 ≤ U.heap.size := by rw [hU]; simp
  have k0 : U.cell? ⟨w.heap.size, 0, none⟩ = some (.slice A n c) := by rw [hU]; simp [go_sem]
  have k1 : U.cell? ⟨w.heap.size + 1, 0, none⟩ = some (.slice none 0 0) := by rw [hU]; simp [go_sem]
  have k2 : U.cell? ⟨w.heap.size + 1, 1, none⟩ = some (.slice none 0 0) := by rw [hU]; simp [go_sem]
  have k3 : U.cell? ⟨w.heap.size + 1, 2, none⟩ = some (.slice none 0 0) := by rw [hU]; simp [go_sem]
  have FU := Lib.hid (show Free U (w.heap.size + 1) from by rw [hU]; have := Free.new (w.alloc (Obj.cells #[.slice A n c] 29)) 59 #[.slice none 0 0, .slice none 0 0, .slice none 0 0]; simpa using this)
  have LN := Lib.hid h.len
  have DU := Lib.hid hB
  have HT := Lib.hid h
  have HV := Lib.hid hv
  have TI := Lib.hid (Fc.isTri_implT A n c T U (h.into hB) (hv.below hB (Nat.le_refl _)).1 hn)
  clear h hv hB
  by_cases hok : Tr.Is T
  case neg =>
    have R := Lib.hid (sk_no hok)
    rw [decide_eq_false hok] at TI
    clear hok
    go_enter Tryd.func40, Tryd.ntmps40
    go_upto_region 1 with fail
    rw [← hU]
    clear hU
    go_wp2_with fail
    (with_reducible refine TI.out.mono ?_)
    rintro e w1 ⟨rfl, hb⟩
    have D1 := Lib.hid (DU.out.trans (hb.mono (by omega)))
    have k1 := (hb.cell (p := ⟨w.heap.size + 1, 0, none⟩) (by dsimp only; omega)).trans k1
    have k2 := (hb.cell (p := ⟨w.heap.size + 1, 1, none⟩) (by dsimp only; omega)).trans k2
    have k3 := (hb.cell (p := ⟨w.heap.size + 1, 2, none⟩) (by dsimp only; omega)).trans k3
    have F1 := FU.out.below hb (by omega)
    have f0 := F1 0
    have f1 := F1 1
    have f2 := F1 2
    have z1 := hb.size
    have zz : w.heap.size ≤ w1.heap.size := by omega
    clear hb F1
    go_wp2
    refine bodyPost_ret (v := .tuple #[.agg #[.slice none 0 0, .slice none 0 0, .slice none 0 0], .int .i64 1]) (by simp [results, Tryd.results40, go_sem, k1, k2, k3]) rfl ?_
    obtain ⟨a, b, d, e⟩ := R.out
    rw [a, b, d, e]
    exact ⟨none, 0, [], none, 0, [], none, 0, [], rfl, nil_own _ _ _ (by simpa [World.setCell] using zz), ⟨rfl, rfl, rfl⟩, ((D1.out.setCell (by dsimp only; omega) _).setCell (by dsimp only; omega) _).setCell (by dsimp only; omega) _⟩
  rw [decide_eq_true hok] at TI
  have h8 : n ≤ 8 := by rw [← LN.out]; exact hok.1
  have R := Lib.hid (sk_yes hok)
  have IS := Lib.hid hok
  clear hok
  go_enter Tryd.func40, Tryd.ntmps40
  go_upto_region 1 with fail
  rw [← hU]
  clear hU
  go_wp2_with fail
  (with_reducible refine TI.out.mono ?_)
  rintro e w1 ⟨rfl, hb⟩
  have D1 := Lib.hid (DU.out.trans (hb.mono (by omega)))
  have k0 := (hb.cell (p := ⟨w.heap.size, 0, none⟩) (by dsimp only; omega)).trans k0
  have k1 := (hb.cell (p := ⟨w.heap.size + 1, 0, none⟩) (by dsimp only; omega)).trans k1
  have k2 := (hb.cell (p := ⟨w.heap.size + 1, 1, none⟩) (by dsimp only; omega)).trans k2
  have k3 := (hb.cell (p := ⟨w.heap.size + 1, 2, none⟩) (by dsimp only; omega)).trans k3
  have F1 := Lib.hid (FU.out.below hb (by omega))
  have z1 := hb.size
  have FI := Lib.hid (forest_impl A n c T w1 (HT.out.into D1.out) (HV.out.below D1.out (Nat.le_refl _)).1 (HV.out.below D1.out (Nat.le_refl _)).2 IS.out)
  clear hb TI FU
  go_wp2_with fail
  (with_reducible refine FI.out.mono ?_)
  rintro e w2 ⟨zz, rfl, hz, hS, hb⟩
  have D2 := Lib.hid (D1.out.trans (hb.mono (by omega)))
  have z2 := hb.size
  obtain ⟨V, hV⟩ : ∃ V, V = w2.alloc (Obj.cells #[.pointer (some ⟨zz + 1, 0, none⟩), .pointer (some ⟨zz + 3, 0, none⟩), .pointer (some ⟨zz + 5, 0, none⟩)] 149) := ⟨_, rfl⟩
  have BV : Below w2.heap.size w2 V := by rw [hV]; exact al1 _ _
  have D3 := Lib.hid (D2.out.trans (BV.mono (by omega)))
  have zV := BV.size
  have bV := hb.trans (BV.mono z2)
  have s0 : V.cell? ⟨w2.heap.size, 0, none⟩ = some (.pointer (some ⟨zz + 1, 0, none⟩)) := by rw [hV]; simp [go_sem]
  have s1 : V.cell? ⟨w2.heap.size, 1, none⟩ = some (.pointer (some ⟨zz + 3, 0, none⟩)) := by rw [hV]; simp [go_sem]
  have s2 : V.cell? ⟨w2.heap.size, 2, none⟩ = some (.pointer (some ⟨zz + 5, 0, none⟩)) := by rw [hV]; simp [go_sem]
  have lV : w2.heap.size < V.heap.size := World.block_lt_of_cell? V _ s0
  have k1 := (bV.cell (p := ⟨w.heap.size + 1, 0, none⟩) (by dsimp only; omega)).trans k1
  have k2 := (bV.cell (p := ⟨w.heap.size + 1, 1, none⟩) (by dsimp only; omega)).trans k2
  have k3 := (bV.cell (p := ⟨w.heap.size + 1, 2, none⟩) (by dsimp only; omega)).trans k3
  have FV := Lib.hid (F1.out.below bV (by omega))
  have SV := Lib.hid (hS.below BV)
  have e1 : tblS (FT T).v.m 4 n = tabV T := by show tblS (FT T).ms.v 4 n = _; rw [FT_ms, ← LN.out]; rfl
  have e2 : tblS (FT T).e.m 6 n = tabE T := by show tblS (FT T).ms.e 6 n = _; rw [FT_ms, ← LN.out]; rfl
  have e3 : tblS (FT T).f.m 4 n = tabF T := by show tblS (FT T).ms.f 4 n = _; rw [FT_ms, ← LN.out]; rfl
  have C1 := Lib.hid (show Calls Tryd.prog 117 #[.pointer (some ⟨zz + 1, 0, none⟩)] V.drew (ResO2 V.drew (tabV T)) from by rw [← e1]; exact classes_impl zz (4 * n) 4 _ n (FT T).v V.drew (SV.out.1.below (Below.refl _ _).drew) rfl h8 (by omega) (by omega))
  have C2 := Lib.hid (fun (Y : World) (hb : Below V.heap.size V Y) => (show Calls Tryd.prog 117 #[.pointer (some ⟨zz + 3, 0, none⟩)] Y (ResO2 Y (tabE T)) from by rw [← e2]; exact classes_impl (zz + 2) (6 * n) 6 _ n (FT T).e Y (SV.out.2.1.below hb) rfl h8 (by omega) (by omega)))
  have C3 := Lib.hid (fun (Y : World) (hb : Below V.heap.size V Y) => (show Calls Tryd.prog 117 #[.pointer (some ⟨zz + 5, 0, none⟩)] Y (ResO2 Y (tabF T)) from by rw [← e3]; exact classes_impl (zz + 4) (4 * n) 4 _ n (FT T).f Y (SV.out.2.2.below hb) rfl h8 (by omega) (by omega)))
  have SF := Lib.hid (fun (Y : World) (hb : Below V.heap.size V Y) => (show (Y.cell? ⟨w2.heap.size, 0, none⟩ = some (.pointer (some ⟨zz + 1, 0, none⟩)) ∧ Y.cell? ⟨w2.heap.size, 1, none⟩ = some (.pointer (some ⟨zz + 3, 0, none⟩)) ∧ Y.cell? ⟨w2.heap.size, 2, none⟩ = some (.pointer (some ⟨zz + 5, 0, none⟩))) ∧ Y.cell? ⟨w.heap.size + 1, 0, none⟩ = some (.slice none 0 0) ∧ Y.cell? ⟨w.heap.size + 1, 1, none⟩ = some (.slice none 0 0) ∧ Y.cell? ⟨w.heap.size + 1, 2, none⟩ = some (.slice none 0 0) ∧ Y.frozen? ⟨w.heap.size + 1, 0, none⟩ = false ∧ Y.frozen? ⟨w.heap.size + 1, 1, none⟩ = false ∧ Y.frozen? ⟨w.heap.size + 1, 2, none⟩ = false from
    ⟨⟨(hb.cell (p := ⟨w2.heap.size, 0, none⟩) lV).trans s0, (hb.cell (p := ⟨w2.heap.size, 1, none⟩) lV).trans s1, (hb.cell (p := ⟨w2.heap.size, 2, none⟩) lV).trans s2⟩, (hb.cell (p := ⟨w.heap.size + 1, 0, none⟩) (by dsimp only; omega)).trans k1, (hb.cell (p := ⟨w.heap.size + 1, 1, none⟩) (by dsimp only; omega)).trans k2, (hb.cell (p := ⟨w.heap.size + 1, 2, none⟩) (by dsimp only; omega)).trans k3,
      (hb.frozen (p := ⟨w.heap.size + 1, 0, none⟩) (by dsimp only; omega)).trans (FV.out 0), (hb.frozen (p := ⟨w.heap.size + 1, 1, none⟩) (by dsimp only; omega)).trans (FV.out 1), (hb.frozen (p := ⟨w.heap.size + 1, 2, none⟩) (by dsimp only; omega)).trans (FV.out 2)⟩))
  have ne1 : ¬ w.heap.size + 1 = w2.heap.size := by omega
  have ne2 : ¬ w2.heap.size = w.heap.size + 1 := by omega
  have zw2 : w.heap.size + 2 ≤ V.heap.size := by omega
  clear e1 e2 e3 hS hb bV BV FI F1
  go_upto_region 4 with fail
  rw [← hV]
  clear hV
  go_region_held3 (fun Y => Y.cell? ⟨w2.heap.size, 0, none⟩ = some (.pointer (some ⟨zz + 1, 0, none⟩)) ∧ Y.cell? ⟨w2.heap.size, 1, none⟩ = some (.pointer (some ⟨zz + 3, 0, none⟩)) ∧ Y.cell? ⟨w2.heap.size, 2, none⟩ = some (.pointer (some ⟨zz + 5, 0, none⟩))) (go_keep) (first
    | (go_at_call 117; (with_reducible refine C1.out.mono ?_); rintro e y6 ⟨A6, c6, r6, rfl, o6, v6, hb6'⟩; have hb6 := undrew hb6'; have O6 := Lib.hid (show OwnS y6 V.heap.size y6.heap.size A6 c6 r6 from o6); have V6 := Lib.hid v6; have Z6 := Lib.hid hb6.size; have CUR := Lib.hid hb6; obtain ⟨⟨s0, s1, s2⟩, k1, k2, k3, f0, f1, f2⟩ := SF.out _ hb6; clear o6 v6 hb6 hb6')
    | (go_at_call 117; (with_reducible refine (C2.out _ CUR.out).mono ?_); rintro e y7 ⟨A7, c7, r7, rfl, o7, v7, hb7⟩; have O67 := Lib.hid (O6.out.below hb7 (Nat.le_refl _)); have Z67 := Lib.hid hb7.size; have O7 := Lib.hid o7; have V7 := Lib.hid v7; replace CUR := Lib.hid (CUR.out.trans (hb7.mono CUR.out.size)); obtain ⟨⟨s0, s1, s2⟩, k1, k2, k3, f0, f1, f2⟩ := SF.out _ CUR.out; clear o7 v7 hb7)
    | (go_at_call 117; (with_reducible refine (C3.out _ CUR.out).mono ?_); rintro e y8 ⟨A8, c8, r8, rfl, o8, v8, hb8⟩; have O68 := Lib.hid (O67.out.below hb8 Z67.out); have O78 := Lib.hid (O7.out.below hb8 (Nat.le_refl _)); have Z78 := Lib.hid hb8.size; have O8 := Lib.hid o8; have V8 := Lib.hid v8; replace CUR := Lib.hid (CUR.out.trans (hb8.mono CUR.out.size)); obtain ⟨⟨s0, s1, s2⟩, k1, k2, k3, f0, f1, f2⟩ := SF.out _ CUR.out; clear o8 v8 hb8))
  all_goals
    have z6 : V.heap.size ≤ y6.heap.size := Z6.out
    have z67 := Z67.out
    have z78 := Z78.out
    have zc := CUR.out.size
    obtain ⟨Y, hY⟩ : ∃ Y, Y = ((y8.setCell ⟨w.heap.size + 1, 0, none⟩ (.slice A6 r6.length c6)).setCell ⟨w.heap.size + 1, 1, none⟩ (.slice A7 r7.length c7)).setCell ⟨w.heap.size + 1, 2, none⟩ (.slice A8 r8.length c8) := ⟨_, rfl⟩
    have KY : ∀ {l u : Nat} {A' : Option Addr} {c' : Nat} {r' : List Rw}, V.heap.size ≤ l → OwnS y8 l u A' c' r' → OwnS Y l u A' c' r' := fun a h => h.keep fun k hk _ => by rw [hY, Below.heap_setCell _ _ _ _ (by dsimp only; omega), Below.heap_setCell _ _ _ _ (by dsimp only; omega), Below.heap_setCell _ _ _ _ (by dsimp only; omega)]
    have zY : Y.heap.size = y8.heap.size := by rw [hY]; simp [World.setCell]
    have OK := Lib.hid (show OwnK Y w.heap.size Y.heap.size A6 c6 r6 A7 c7 r7 A8 c8 r8 from ⟨y6.heap.size, y7.heap.size, by omega, (KY (Nat.le_refl _) O68.out).wide (by omega) (Nat.le_refl _), KY (by have := CUR.out; omega) O78.out, by rw [zY]; exact KY (by omega) O8.out⟩)
    have r1 : Y.cell? ⟨w.heap.size + 1, 0, none⟩ = some (.slice A6 r6.length c6) := by rw [hY, World.cell?_setCell_other _ _ _ _ (by simp), World.cell?_setCell_other _ _ _ _ (by simp)]; exact World.cell?_setCell_same _ _ _ k1
    have r2 : Y.cell? ⟨w.heap.size + 1, 1, none⟩ = some (.slice A7 r7.length c7) := by rw [hY, World.cell?_setCell_other _ _ _ _ (by simp)]; exact World.cell?_setCell_same _ _ _ (show _ = some (Value.slice none 0 0) from by rw [World.cell?_setCell_other _ _ _ _ (by simp)]; exact k2)
    have r3 : Y.cell? ⟨w.heap.size + 1, 2, none⟩ = some (.slice A8 r8.length c8) := by rw [hY]; exact World.cell?_setCell_same _ _ _ (show _ = some (Value.slice none 0 0) from by rw [World.cell?_setCell_other _ _ _ _ (by simp), World.cell?_setCell_other _ _ _ _ (by simp)]; exact k3)
    have DY := Lib.hid (show Below w.heap.size w Y from by rw [hY]; exact (((D3.out.trans (CUR.out.mono (by omega))).setCell (by dsimp only; omega) _).setCell (by dsimp only; omega) _).setCell (by dsimp only; omega) _)
    have VV := Lib.hid (show V3 (tabV T) (tabE T) (tabF T) r6 r7 r8 from ⟨V6.out, V7.out, V8.out⟩)
    have EY := Lib.hid (show ((y8.setCell ⟨w.heap.size + 1, 0, none⟩ (.slice A6 r6.length c6)).setCell ⟨w.heap.size + 1, 1, none⟩ (.slice A7 r7.length c7)).setCell ⟨w.heap.size + 1, 2, none⟩ (.slice A8 r8.length c8) = Y from hY.symm)
    clear hY KY zY
    go_wp2
    rw [EY.out]
    refine bodyPost_ret (v := .tuple #[.agg #[.slice A6 r6.length c6, .slice A7 r7.length c7, .slice A8 r8.length c8], .int .i64 0]) (by simp [results, Tryd.results40, go_sem, r1, r2, r3]) rfl ?_
    obtain ⟨a, b, d, e⟩ := R.out
    rw [a, b, d, e]
    exact ⟨A6, c6, r6, A7, c7, r7, A8, c8, r8, rfl, OK.out, VV.out, DY.out⟩
end Sk
end Go.Proofs.YtjendlfophdfeaaDoor

namespace Go.Proofs.YtjendlfophdfeaaDoor
open Go Go.ChangeShapes Go.WideShapes Go.ChangeAt Go.RowKit

set_option maxRecDepth 100000 in
set_option maxHeartbeats 16000000 in
theorem exactSkeletonOf (Aa : Option Addr) (ca : Nat) (rsa : List Fc.Rw) (T1 T2 T3 : List (List Int)) (code : Int) (w : World) (ha : Fc.RdS w w.heap.size Aa rsa) (hna : rsa.length + Fc.cnt rsa ≤ 1048576) (hz : Sk.Sz3 T1 T2 T3)
    (hs : ∀ (W : World) (A : Option Addr) (c : Nat) (qs : List Fc.Rw), Fc.RdS W W.heap.size A qs → Fc.vals qs = Fc.vals rsa → Below w.heap.size w W → Calls Tryd.prog 39 #[.agg #[.slice A qs.length c]] W (Sk.ResSkR W T1 T2 T3 code))
    (hi : ∀ (W : World) (A : Option Addr) (c : Nat) (qs : List Fc.Rw), Fc.RdS W W.heap.size A qs → Fc.vals qs = Fc.vals rsa → Below w.heap.size w W → Calls Tryd.prog 40 #[.agg #[.slice A qs.length c]] W (Sk.ResSkO W T1 T2 T3 code)) :
    Calls Tryd.prog 7 #[.agg #[.slice Aa rsa.length ca]] w fun e w' => e = .returned (.bool true) ∧ Below w.heap.size w w' := by
  have HS := Lib.hid hs
  have HI := Lib.hid hi
  clear hs hi
  have HB := Lib.hid (Below.refl w.heap.size w)
  have Ha := Lib.hid ha
  have HZ := Lib.hid hz
  clear ha hz
  have hnl : rsa.length ≤ 1048576 := by omega
  have hml : rsa.length ≤ maxLen := Nat.le_trans hnl (by unfold maxLen; omega)
  have ROW := Lib.hid (show ∀ r ∈ rsa, r.zs.length / 2 ≤ 1048576 from fun r hr => by have := Fc.row_le_cnt hr; omega)
  have EV := Lib.hid (show ∀ r ∈ rsa, r.zs.length % 2 = 0 from fun r hr => (Ha.out.1 r hr).le.2)
  have TT := Lib.hid (show Fc.tot rsa = 2 * Fc.cnt rsa from Fc.tot_cnt EV.out)
  have tl0 : decide ((1048576 : Int) - (rsa.length : Int) - (Fc.cnt rsa : Int) < 0) = false := by simp; omega
  go_enter Tryd.func7, Tryd.ntmps7
  go_wp2_with fail
  refine (Fc.szT_any Aa ca rsa _ _ (Ha.out.into (al1 _ _)) hml (by omega) (by omega)).mono ?_
  rintro e w1 ⟨rfl, hb⟩
  rw [if_neg (by omega)]
  have D1 := Lib.hid (on1 _ hb)
  have s1 : w.heap.size + 1 ≤ w1.heap.size := by have := hb.size; (try simp at this); omega
  have aa_1 := Lib.hid ((Box1.new w 24 (.slice Aa rsa.length ca)).below hb (by simp))
  have HB1 := Lib.hid (HB.out.trans (D1.out.mono (by omega)))
  clear HB
  have HB := HB1
  clear HB1 hb
  have z_aa : w.heap.size < w1.heap.size := by omega
  obtain ⟨qaa0⟩ := aa_1.out
  go_wp2_with fail
  refine (Fc.toT_any Aa ca rsa _ (Ha.out.into HB.out) hnl ROW.out).mono ?_
  rintro e w2 ⟨g2, c2, rs2, rfl, hk, hv, hb⟩
  clear qaa0
  have X2_2 := Lib.hid (hk.wide (lo' := w1.heap.size) (hi' := w2.heap.size) (by simp) (Nat.le_refl _))
  have V2 := Lib.hid hv
  clear hk hv
  have D2 := Lib.hid (hb)
  have s2 : w1.heap.size + 0 ≤ w2.heap.size := by have := hb.size; (try simp at this); omega
  have aa_2 := Lib.hid (aa_1.out.below D2.out (by omega))
  clear aa_1
  have HB2 := Lib.hid (HB.out.trans (D2.out.mono (by omega)))
  clear HB
  have HB := HB2
  clear HB2 hb
  clear z_aa
  have z_aa : w.heap.size < w2.heap.size := by omega
  obtain ⟨qaa0⟩ := aa_2.out
  go_wp2_with fail
  refine (HS.out _ _ _ _ (X2_2.out.rd.more (by (try simp) <;> omega)) V2.out HB.out).mono ?_
  rintro e w3 ⟨Ra3, ta3, ra3, Rb3, tb3, rb3, Rc3, tc3, rc3, rfl, hown, hv, hb⟩
  clear qaa0
  have Y3_3 := Lib.hid (hown.wide (lo' := w2.heap.size) (hi' := w3.heap.size) (by simp) (Nat.le_refl _))
  have V3 := Lib.hid hv
  clear hown hv
  have D3 := Lib.hid (hb)
  have s3 : w2.heap.size + 0 ≤ w3.heap.size := by have := hb.size; (try simp at this); omega
  have aa_3 := Lib.hid (aa_2.out.below D3.out (by omega))
  clear aa_2
  have X2_3 := Lib.hid (X2_2.out.below D3.out (by omega))
  clear X2_2
  have HB3 := Lib.hid (HB.out.trans (D3.out.mono (by omega)))
  clear HB
  have HB := HB3
  clear HB3 hb
  clear z_aa
  have z_aa : w.heap.size < w3.heap.size := by omega
  clear X2_3
  as_aux_lemma =>
    obtain ⟨qaa0⟩ := aa_3.out
    go_wp2_with fail
    refine (Fc.toT_any Aa ca rsa _ (Ha.out.into (HB.out.trans ((al1 _ _).mono (by omega)))) hnl ROW.out).mono ?_
    rintro e w4 ⟨g4, c4, rs4, rfl, hk, hv, hb⟩
    clear qaa0
    have X4_4 := Lib.hid (hk.wide (lo' := w3.heap.size + 1) (hi' := w4.heap.size) (by simp) (Nat.le_refl _))
    have V4 := Lib.hid hv
    clear hk hv
    have D4 := Lib.hid (on1 _ hb)
    have s4 : w3.heap.size + 1 ≤ w4.heap.size := by have := hb.size; (try simp at this); omega
    have aa_4 := Lib.hid (aa_3.out.below D4.out (by omega))
    clear aa_3
    have bw_4 := Lib.hid ((Box3.new w3 59 (.slice Ra3 ra3.length ta3) (.slice Rb3 rb3.length tb3) (.slice Rc3 rc3.length tc3)).below hb (by simp))
    have Y3_4 := Lib.hid (Y3_3.out.below D4.out (by omega))
    clear Y3_3
    have HB4 := Lib.hid (HB.out.trans (D4.out.mono (by omega)))
    clear HB
    have HB := HB4
    clear HB4 hb
    clear z_aa
    have z_aa : w.heap.size < w4.heap.size := by omega
    have z_bw : w3.heap.size < w4.heap.size := by omega
    obtain ⟨qaa0⟩ := aa_4.out
    obtain ⟨qbw0, qbw1, qbw2⟩ := bw_4.out
    go_wp2_with fail
    refine (HI.out _ _ _ _ ((X4_4.out.al (by omega) (al1 _ _)).rd.more (by (try simp) <;> omega)) V4.out (HB.out.trans ((al1 _ _).mono (by omega)))).mono ?_
    rintro e w5 ⟨Ra5, ta5, ra5, Rb5, tb5, rb5, Rc5, tc5, rc5, rfl, hown, hv, hb⟩
    clear qaa0 qbw0 qbw1 qbw2
    have Y5_5 := Lib.hid (hown.wide (lo' := w4.heap.size + 1) (hi' := w5.heap.size) (by simp) (Nat.le_refl _))
    have V5 := Lib.hid hv
    clear hown hv
    have D5 := Lib.hid (on1 _ hb)
    have s5 : w4.heap.size + 1 ≤ w5.heap.size := by have := hb.size; (try simp at this); omega
    have aa_5 := Lib.hid (aa_4.out.below D5.out (by omega))
    clear aa_4
    have bw_5 := Lib.hid (bw_4.out.below D5.out (by omega))
    clear bw_4
    have bx_5 := Lib.hid ((Box1.new w4 29 (.slice (some ⟨g4, 0, none⟩) rs4.length c4)).below hb (by simp))
    have Y3_5 := Lib.hid (Y3_4.out.below D5.out (by omega))
    clear Y3_4
    have X4_5 := Lib.hid (X4_4.out.below D5.out (by omega))
    clear X4_4
    have HB5 := Lib.hid (HB.out.trans (D5.out.mono (by omega)))
    clear HB
    have HB := HB5
    clear HB5 hb
    clear z_aa
    have z_aa : w.heap.size < w5.heap.size := by omega
    clear z_bw
    have z_bw : w3.heap.size < w5.heap.size := by omega
    have z_bx : w4.heap.size < w5.heap.size := by omega
    obtain ⟨qaa0⟩ := aa_5.out
    obtain ⟨qbw0, qbw1, qbw2⟩ := bw_5.out
    obtain ⟨qbx0⟩ := bx_5.out
    go_wp2_with fail
    refine (Sk.eqSk_any Ra5 ta5 ra5 Rb5 tb5 rb5 Rc5 tc5 rc5 Ra3 ta3 ra3 Rb3 tb3 rb3 Rc3 tc3 rc3 T1 T2 T3 (w5.heap.size) (w3.heap.size) _ (Y5_5.out.al (by omega) (al1 _ _)).rd (Y3_5.out.al (by omega) (al1 _ _)).rd V5.out V3.out HZ.out (by (try simp) <;> omega) (by (try simp) <;> omega)).mono ?_
    rintro e w6 ⟨rfl, hb⟩
    clear qaa0 qbw0 qbw1 qbw2 qbx0
    have D6 := Lib.hid (on1 _ hb)
    have s6 : w5.heap.size + 1 ≤ w6.heap.size := by have := hb.size; (try simp at this); omega
    have aa_6 := Lib.hid (aa_5.out.below D6.out (by omega))
    clear aa_5
    have bw_6 := Lib.hid (bw_5.out.below D6.out (by omega))
    clear bw_5
    have bx_6 := Lib.hid (bx_5.out.below D6.out (by omega))
    clear bx_5
    have bg_6 := Lib.hid ((Box3.new w5 59 (.slice Ra5 ra5.length ta5) (.slice Rb5 rb5.length tb5) (.slice Rc5 rc5.length tc5)).below hb (by simp))
    have Y3_6 := Lib.hid (Y3_5.out.below D6.out (by omega))
    clear Y3_5
    have X4_6 := Lib.hid (X4_5.out.below D6.out (by omega))
    clear X4_5
    have Y5_6 := Lib.hid (Y5_5.out.below D6.out (by omega))
    clear Y5_5
    have HB6 := Lib.hid (HB.out.trans (D6.out.mono (by omega)))
    clear HB
    have HB := HB6
    clear HB6 hb
    clear z_aa
    have z_aa : w.heap.size < w6.heap.size := by omega
    clear z_bw
    have z_bw : w3.heap.size < w6.heap.size := by omega
    clear z_bx
    have z_bx : w4.heap.size < w6.heap.size := by omega
    have z_bg : w5.heap.size < w6.heap.size := by omega
    as_aux_lemma =>
      obtain ⟨qaa0⟩ := aa_6.out
      obtain ⟨qbw0, qbw1, qbw2⟩ := bw_6.out
      obtain ⟨qbx0⟩ := bx_6.out
      obtain ⟨qbg0, qbg1, qbg2⟩ := bg_6.out
      go_wp2_with fail
      go_region_held3 (fun W => (W.cell? ⟨w4.heap.size, 0, none⟩ = some (.slice (some ⟨g4, 0, none⟩) rs4.length c4)) ∧ (W.cell? ⟨w.heap.size, 0, none⟩ = some (.slice Aa rsa.length ca))) (go_keep)
        (first
          | (go_at_call 16; (with_reducible refine (Fc.toT_any Aa ca rsa _ (by exact Ha.out.into HB.out.drew) hnl ROW.out).mono ?_); rintro e w7 ⟨g7, c7, rs7, rfl, hk6, hv6, hb6'⟩; have hb6 := undrew hb6'; have K6 := Lib.hid hk6; have B6 := Lib.hid hb6; have V6 := Lib.hid hv6; have z6 := hb6.size; have e0 := (hb6.cell (p := ⟨w4.heap.size, 0, none⟩) (by dsimp only; omega)).trans bx_6.out.c; have f0 := (hb6.cell (p := ⟨w.heap.size, 0, none⟩) (by dsimp only; omega)).trans aa_6.out.c; clear hk6 hv6 hb6 hb6')
          | (go_at_call 18; (with_reducible refine (Fc.eqT_any _ _ _ _ rs4 _ (w4.heap.size) _ _ (by exact X4_6.out.rd.below (B6.out.mono (by omega))) (by exact K6.out.rd) (V4.out.trans V6.out.symm) (by have := B6.out.size; omega) (Nat.le_refl _) (by have := Fc.vals_same V4.out; omega) (Fc.rows_same V4.out ROW.out)).mono ?_); rintro e w8 ⟨rfl, hb7⟩; have m0 := (hb7.cell (p := ⟨w4.heap.size, 0, none⟩) (by dsimp only; omega)).trans e0; have y0 := (hb7.cell (p := ⟨w.heap.size, 0, none⟩) (by dsimp only; omega)).trans f0))
      clear e0 f0 m0 y0 K6 V6
      clear qaa0 qbw0 qbw1 qbw2 qbx0 qbg0 qbg1 qbg2
      have hb6 := B6.out
      clear B6
      have D7 := Lib.hid (hb6)
      have s7 : w6.heap.size + 0 ≤ w7.heap.size := by have := hb6.size; (try simp at this); omega
      have aa_7 := Lib.hid (aa_6.out.below D7.out (by omega))
      clear aa_6
      have bw_7 := Lib.hid (bw_6.out.below D7.out (by omega))
      clear bw_6
      have bx_7 := Lib.hid (bx_6.out.below D7.out (by omega))
      clear bx_6
      have bg_7 := Lib.hid (bg_6.out.below D7.out (by omega))
      clear bg_6
      have Y3_7 := Lib.hid (Y3_6.out.below D7.out (by omega))
      clear Y3_6
      have X4_7 := Lib.hid (X4_6.out.below D7.out (by omega))
      clear X4_6
      have Y5_7 := Lib.hid (Y5_6.out.below D7.out (by omega))
      clear Y5_6
      have HB7 := Lib.hid (HB.out.trans (D7.out.mono (by omega)))
      clear HB
      have HB := HB7
      clear HB7 hb6
      clear z_aa
      have z_aa : w.heap.size < w7.heap.size := by omega
      clear z_bw
      have z_bw : w3.heap.size < w7.heap.size := by omega
      clear z_bx
      have z_bx : w4.heap.size < w7.heap.size := by omega
      clear z_bg
      have z_bg : w5.heap.size < w7.heap.size := by omega
      have D8 := Lib.hid (hb7)
      have s8 : w7.heap.size + 0 ≤ w8.heap.size := by have := hb7.size; (try simp at this); omega
      have aa_8 := Lib.hid (aa_7.out.below D8.out (by omega))
      clear aa_7
      have bw_8 := Lib.hid (bw_7.out.below D8.out (by omega))
      clear bw_7
      have bx_8 := Lib.hid (bx_7.out.below D8.out (by omega))
      clear bx_7
      have bg_8 := Lib.hid (bg_7.out.below D8.out (by omega))
      clear bg_7
      have Y3_8 := Lib.hid (Y3_7.out.below D8.out (by omega))
      clear Y3_7
      have X4_8 := Lib.hid (X4_7.out.below D8.out (by omega))
      clear X4_7
      have Y5_8 := Lib.hid (Y5_7.out.below D8.out (by omega))
      clear Y5_7
      have HB8 := Lib.hid (HB.out.trans (D8.out.mono (by omega)))
      clear HB
      have HB := HB8
      clear HB8 hb7
      clear z_aa
      have z_aa : w.heap.size < w8.heap.size := by omega
      clear z_bw
      have z_bw : w3.heap.size < w8.heap.size := by omega
      clear z_bx
      have z_bx : w4.heap.size < w8.heap.size := by omega
      clear z_bg
      have z_bg : w5.heap.size < w8.heap.size := by omega
      as_aux_lemma =>
        obtain ⟨qaa0⟩ := aa_8.out
        obtain ⟨qbw0, qbw1, qbw2⟩ := bw_8.out
        obtain ⟨qbx0⟩ := bx_8.out
        obtain ⟨qbg0, qbg1, qbg2⟩ := bg_8.out
        go_wp2_with fail
        have tx := Fc.tot_vals V4.out
        have lx := Fc.vals_same V4.out
        have tt2 := TT.out
        refine (Fc.markT_any (some ⟨g4, 0, none⟩) c4 1 rs4 (w3.heap.size + 1) (w4.heap.size) _ X4_8.out (by omega) (by omega) (by omega) (by omega)).mono ?_
        rintro e w9 ⟨rfl, hown, hk⟩
        have TX := Lib.hid (show Fc.tot rs4 ≤ 2097152 from by omega)
        clear X4_8 hown lx tx tt2
        clear qaa0 qbw0 qbw1 qbw2 qbx0 qbg0 qbg1 qbg2
        have D9 := Lib.hid (hk)
        have s9 : w8.heap.size ≤ w9.heap.size := hk.size
        have aa_9 := Lib.hid (aa_8.out.kept D9.out (by omega) (by omega))
        clear aa_8
        have bw_9 := Lib.hid (bw_8.out.kept D9.out (by omega) (by omega))
        clear bw_8
        have bx_9 := Lib.hid (bx_8.out.kept D9.out (by omega) (by omega))
        clear bx_8
        have bg_9 := Lib.hid (bg_8.out.kept D9.out (by omega) (by omega))
        clear bg_8
        have Y3_9 := Lib.hid (Y3_8.out.kept D9.out (by omega) (by omega))
        clear Y3_8
        have Y5_9 := Lib.hid (Y5_8.out.kept D9.out (by omega) (by omega))
        clear Y5_8
        have HB9 := Lib.hid (HB.out.trans (D9.out.below (by omega) (by omega)))
        clear HB
        have HB := HB9
        clear HB9 hk
        clear z_aa
        have z_aa : w.heap.size < w9.heap.size := by omega
        clear z_bw
        have z_bw : w3.heap.size < w9.heap.size := by omega
        clear z_bx
        have z_bx : w4.heap.size < w9.heap.size := by omega
        clear z_bg
        have z_bg : w5.heap.size < w9.heap.size := by omega
        have tx9 : Fc.tot rs4 ≤ 2097152 := TX.out
        have tx1 : decide ((1 : Int) + (Fc.tot rs4 : Int) < 0) = false := by simp; omega
        clear tx9
        obtain ⟨qaa0⟩ := aa_9.out
        obtain ⟨qbw0, qbw1, qbw2⟩ := bw_9.out
        obtain ⟨qbx0⟩ := bx_9.out
        obtain ⟨qbg0, qbg1, qbg2⟩ := bg_9.out
        go_wp2_with fail
        refine (Sk.eqSk_any Ra5 ta5 ra5 Rb5 tb5 rb5 Rc5 tc5 rc5 Ra3 ta3 ra3 Rb3 tb3 rb3 Rc3 tc3 rc3 T1 T2 T3 (w5.heap.size) (w3.heap.size) _ Y5_9.out.rd Y3_9.out.rd V5.out V3.out HZ.out (by (try simp) <;> omega) (by (try simp) <;> omega)).mono ?_
        rintro e w10 ⟨rfl, hb⟩
        clear qaa0 qbw0 qbw1 qbw2 qbx0 qbg0 qbg1 qbg2
        have D10 := Lib.hid (hb)
        have s10 : w9.heap.size + 0 ≤ w10.heap.size := by have := hb.size; (try simp at this); omega
        have aa_10 := Lib.hid (aa_9.out.below D10.out (by omega))
        clear aa_9
        have bw_10 := Lib.hid (bw_9.out.below D10.out (by omega))
        clear bw_9
        have bx_10 := Lib.hid (bx_9.out.below D10.out (by omega))
        clear bx_9
        have bg_10 := Lib.hid (bg_9.out.below D10.out (by omega))
        clear bg_9
        have Y3_10 := Lib.hid (Y3_9.out.below D10.out (by omega))
        clear Y3_9
        have Y5_10 := Lib.hid (Y5_9.out.below D10.out (by omega))
        clear Y5_9
        have HB10 := Lib.hid (HB.out.trans (D10.out.mono (by omega)))
        clear HB
        have HB := HB10
        clear HB10 hb
        clear z_aa
        have z_aa : w.heap.size < w10.heap.size := by omega
        clear z_bw
        have z_bw : w3.heap.size < w10.heap.size := by omega
        clear z_bx
        have z_bx : w4.heap.size < w10.heap.size := by omega
        clear z_bg
        have z_bg : w5.heap.size < w10.heap.size := by omega
        as_aux_lemma =>
          obtain ⟨qaa0⟩ := aa_10.out
          obtain ⟨qbw0, qbw1, qbw2⟩ := bw_10.out
          obtain ⟨qbx0⟩ := bx_10.out
          obtain ⟨qbg0, qbg1, qbg2⟩ := bg_10.out
          go_wp2_with fail
          have t192 := (Sk.tot3_le HZ.out V5.out).1
          refine (Sk.markSk_any Ra5 ta5 ra5 Rb5 tb5 rb5 Rc5 tc5 rc5 T1 T2 T3 (w4.heap.size + 1) (w5.heap.size) _ Y5_10.out (by omega) V5.out HZ.out).mono ?_
          rintro e w11 ⟨rfl, hown, hk⟩
          have Y5_11 := Lib.hid hown
          clear Y5_10 hown
          clear qaa0 qbw0 qbw1 qbw2 qbx0 qbg0 qbg1 qbg2
          have D11 := Lib.hid (hk)
          have s11 : w10.heap.size ≤ w11.heap.size := hk.size
          have aa_11 := Lib.hid (aa_10.out.kept D11.out (by omega) (by omega))
          clear aa_10
          have bw_11 := Lib.hid (bw_10.out.kept D11.out (by omega) (by omega))
          clear bw_10
          have bx_11 := Lib.hid (bx_10.out.kept D11.out (by omega) (by omega))
          clear bx_10
          have bg_11 := Lib.hid (bg_10.out.kept D11.out (by omega) (by omega))
          clear bg_10
          have Y3_11 := Lib.hid (Y3_10.out.kept D11.out (by omega) (by omega))
          clear Y3_10
          have HB11 := Lib.hid (HB.out.trans (D11.out.below (by omega) (by omega)))
          clear HB
          have HB := HB11
          clear HB11 hk
          clear z_aa
          have z_aa : w.heap.size < w11.heap.size := by omega
          clear z_bw
          have z_bw : w3.heap.size < w11.heap.size := by omega
          clear z_bx
          have z_bx : w4.heap.size < w11.heap.size := by omega
          clear z_bg
          have z_bg : w5.heap.size < w11.heap.size := by omega
          have tq : decide ((1 : Int) + ((Sk.tot3 ra5 rb5 rc5 : Nat) : Int) < 0) = false := by simp; omega
          obtain ⟨qaa0⟩ := aa_11.out
          obtain ⟨qbw0, qbw1, qbw2⟩ := bw_11.out
          obtain ⟨qbx0⟩ := bx_11.out
          obtain ⟨qbg0, qbg1, qbg2⟩ := bg_11.out
          go_wp2_with fail
          refine (Sk.heldSk_any Ra5 ta5 ra5 Rb5 tb5 rb5 Rc5 tc5 rc5 T1 T2 T3 (w5.heap.size) _ Y5_11.out.rd (by omega) V5.out HZ.out).mono ?_
          rintro e w12 ⟨rfl, hb⟩
          clear qaa0 qbw0 qbw1 qbw2 qbx0 qbg0 qbg1 qbg2
          have D12 := Lib.hid (hb)
          have s12 : w11.heap.size + 0 ≤ w12.heap.size := by have := hb.size; (try simp at this); omega
          have aa_12 := Lib.hid (aa_11.out.below D12.out (by omega))
          clear aa_11
          have bw_12 := Lib.hid (bw_11.out.below D12.out (by omega))
          clear bw_11
          have bx_12 := Lib.hid (bx_11.out.below D12.out (by omega))
          clear bx_11
          have bg_12 := Lib.hid (bg_11.out.below D12.out (by omega))
          clear bg_11
          have Y3_12 := Lib.hid (Y3_11.out.below D12.out (by omega))
          clear Y3_11
          have Y5_12 := Lib.hid (Y5_11.out.below D12.out (by omega))
          clear Y5_11
          have HB12 := Lib.hid (HB.out.trans (D12.out.mono (by omega)))
          clear HB
          have HB := HB12
          clear HB12 hb
          clear z_aa
          have z_aa : w.heap.size < w12.heap.size := by omega
          clear z_bw
          have z_bw : w3.heap.size < w12.heap.size := by omega
          clear z_bx
          have z_bx : w4.heap.size < w12.heap.size := by omega
          clear z_bg
          have z_bg : w5.heap.size < w12.heap.size := by omega
          as_aux_lemma =>
            obtain ⟨qaa0⟩ := aa_12.out
            obtain ⟨qbw0, qbw1, qbw2⟩ := bw_12.out
            obtain ⟨qbx0⟩ := bx_12.out
            obtain ⟨qbg0, qbg1, qbg2⟩ := bg_12.out
            go_wp2_with fail
            refine (Fc.toT_any Aa ca rsa _ (Ha.out.into HB.out) hnl ROW.out).mono ?_
            rintro e w13 ⟨g13, c13, rs13, rfl, hk, hv, hb⟩
            clear qaa0 qbw0 qbw1 qbw2 qbx0 qbg0 qbg1 qbg2
            have X13_13 := Lib.hid (hk.wide (lo' := w12.heap.size) (hi' := w13.heap.size) (by simp) (Nat.le_refl _))
            have V13 := Lib.hid hv
            clear hk hv
            have D13 := Lib.hid (hb)
            have s13 : w12.heap.size + 0 ≤ w13.heap.size := by have := hb.size; (try simp at this); omega
            have aa_13 := Lib.hid (aa_12.out.below D13.out (by omega))
            clear aa_12
            have bw_13 := Lib.hid (bw_12.out.below D13.out (by omega))
            clear bw_12
            have bx_13 := Lib.hid (bx_12.out.below D13.out (by omega))
            clear bx_12
            have bg_13 := Lib.hid (bg_12.out.below D13.out (by omega))
            clear bg_12
            have Y3_13 := Lib.hid (Y3_12.out.below D13.out (by omega))
            clear Y3_12
            have Y5_13 := Lib.hid (Y5_12.out.below D13.out (by omega))
            clear Y5_12
            have HB13 := Lib.hid (HB.out.trans (D13.out.mono (by omega)))
            clear HB
            have HB := HB13
            clear HB13 hb
            clear z_aa
            have z_aa : w.heap.size < w13.heap.size := by omega
            clear z_bw
            have z_bw : w3.heap.size < w13.heap.size := by omega
            clear z_bx
            have z_bx : w4.heap.size < w13.heap.size := by omega
            clear z_bg
            have z_bg : w5.heap.size < w13.heap.size := by omega
            obtain ⟨qaa0⟩ := aa_13.out
            obtain ⟨qbw0, qbw1, qbw2⟩ := bw_13.out
            obtain ⟨qbx0⟩ := bx_13.out
            obtain ⟨qbg0, qbg1, qbg2⟩ := bg_13.out
            go_wp2_with fail
            refine (HI.out _ _ _ _ (X13_13.out.rd.more (by (try simp) <;> omega)) V13.out HB.out).mono ?_
            rintro e w14 ⟨Ra14, ta14, ra14, Rb14, tb14, rb14, Rc14, tc14, rc14, rfl, hown, hv, hb⟩
            clear qaa0 qbw0 qbw1 qbw2 qbx0 qbg0 qbg1 qbg2
            have Y14_14 := Lib.hid (hown.wide (lo' := w13.heap.size) (hi' := w14.heap.size) (by simp) (Nat.le_refl _))
            have V14 := Lib.hid hv
            clear hown hv
            have D14 := Lib.hid (hb)
            have s14 : w13.heap.size + 0 ≤ w14.heap.size := by have := hb.size; (try simp at this); omega
            have aa_14 := Lib.hid (aa_13.out.below D14.out (by omega))
            clear aa_13
            have bw_14 := Lib.hid (bw_13.out.below D14.out (by omega))
            clear bw_13
            have bx_14 := Lib.hid (bx_13.out.below D14.out (by omega))
            clear bx_13
            have bg_14 := Lib.hid (bg_13.out.below D14.out (by omega))
            clear bg_13
            have Y3_14 := Lib.hid (Y3_13.out.below D14.out (by omega))
            clear Y3_13
            have Y5_14 := Lib.hid (Y5_13.out.below D14.out (by omega))
            clear Y5_13
            have X13_14 := Lib.hid (X13_13.out.below D14.out (by omega))
            clear X13_13
            have HB14 := Lib.hid (HB.out.trans (D14.out.mono (by omega)))
            clear HB
            have HB := HB14
            clear HB14 hb
            clear z_aa
            have z_aa : w.heap.size < w14.heap.size := by omega
            clear z_bw
            have z_bw : w3.heap.size < w14.heap.size := by omega
            clear z_bx
            have z_bx : w4.heap.size < w14.heap.size := by omega
            clear z_bg
            have z_bg : w5.heap.size < w14.heap.size := by omega
            clear X13_14
            obtain ⟨qaa0⟩ := aa_14.out
            obtain ⟨qbw0, qbw1, qbw2⟩ := bw_14.out
            obtain ⟨qbx0⟩ := bx_14.out
            obtain ⟨qbg0, qbg1, qbg2⟩ := bg_14.out
            go_wp2_with fail
            refine (Sk.eqSk_any Ra14 ta14 ra14 Rb14 tb14 rb14 Rc14 tc14 rc14 Ra3 ta3 ra3 Rb3 tb3 rb3 Rc3 tc3 rc3 T1 T2 T3 (w14.heap.size) (w3.heap.size) _ (Y14_14.out.al (by omega) (al1 _ _)).rd (Y3_14.out.al (by omega) (al1 _ _)).rd V14.out V3.out HZ.out (by (try simp) <;> omega) (by (try simp) <;> omega)).mono ?_
            rintro e w15 ⟨rfl, hb⟩
            clear qaa0 qbw0 qbw1 qbw2 qbx0 qbg0 qbg1 qbg2
            have D15 := Lib.hid (on1 _ hb)
            have s15 : w14.heap.size + 1 ≤ w15.heap.size := by have := hb.size; (try simp at this); omega
            have aa_15 := Lib.hid (aa_14.out.below D15.out (by omega))
            clear aa_14
            have bw_15 := Lib.hid (bw_14.out.below D15.out (by omega))
            clear bw_14
            have bx_15 := Lib.hid (bx_14.out.below D15.out (by omega))
            clear bx_14
            have bg_15 := Lib.hid (bg_14.out.below D15.out (by omega))
            clear bg_14
            have bh_15 := Lib.hid ((Box3.new w14 59 (.slice Ra14 ra14.length ta14) (.slice Rb14 rb14.length tb14) (.slice Rc14 rc14.length tc14)).below hb (by simp))
            have Y3_15 := Lib.hid (Y3_14.out.below D15.out (by omega))
            clear Y3_14
            have Y5_15 := Lib.hid (Y5_14.out.below D15.out (by omega))
            clear Y5_14
            have Y14_15 := Lib.hid (Y14_14.out.below D15.out (by omega))
            clear Y14_14
            have HB15 := Lib.hid (HB.out.trans (D15.out.mono (by omega)))
            clear HB
            have HB := HB15
            clear HB15 hb
            clear z_aa
            have z_aa : w.heap.size < w15.heap.size := by omega
            clear z_bw
            have z_bw : w3.heap.size < w15.heap.size := by omega
            clear z_bx
            have z_bx : w4.heap.size < w15.heap.size := by omega
            clear z_bg
            have z_bg : w5.heap.size < w15.heap.size := by omega
            have z_bh : w14.heap.size < w15.heap.size := by omega
            as_aux_lemma =>
              obtain ⟨qaa0⟩ := aa_15.out
              obtain ⟨qbw0, qbw1, qbw2⟩ := bw_15.out
              obtain ⟨qbx0⟩ := bx_15.out
              obtain ⟨qbg0, qbg1, qbg2⟩ := bg_15.out
              obtain ⟨qbh0, qbh1, qbh2⟩ := bh_15.out
              go_wp2_with fail
              refine (Sk.heldSk_any Ra5 ta5 ra5 Rb5 tb5 rb5 Rc5 tc5 rc5 T1 T2 T3 (w5.heap.size) _ Y5_15.out.rd (by omega) V5.out HZ.out).mono ?_
              rintro e w16 ⟨rfl, hb⟩
              clear qaa0 qbw0 qbw1 qbw2 qbx0 qbg0 qbg1 qbg2 qbh0 qbh1 qbh2
              have D16 := Lib.hid (hb)
              have s16 : w15.heap.size + 0 ≤ w16.heap.size := by have := hb.size; (try simp at this); omega
              have aa_16 := Lib.hid (aa_15.out.below D16.out (by omega))
              clear aa_15
              have bw_16 := Lib.hid (bw_15.out.below D16.out (by omega))
              clear bw_15
              have bx_16 := Lib.hid (bx_15.out.below D16.out (by omega))
              clear bx_15
              have bg_16 := Lib.hid (bg_15.out.below D16.out (by omega))
              clear bg_15
              have bh_16 := Lib.hid (bh_15.out.below D16.out (by omega))
              clear bh_15
              have Y3_16 := Lib.hid (Y3_15.out.below D16.out (by omega))
              clear Y3_15
              have Y5_16 := Lib.hid (Y5_15.out.below D16.out (by omega))
              clear Y5_15
              have Y14_16 := Lib.hid (Y14_15.out.below D16.out (by omega))
              clear Y14_15
              have HB16 := Lib.hid (HB.out.trans (D16.out.mono (by omega)))
              clear HB
              have HB := HB16
              clear HB16 hb
              clear z_aa
              have z_aa : w.heap.size < w16.heap.size := by omega
              clear z_bw
              have z_bw : w3.heap.size < w16.heap.size := by omega
              clear z_bx
              have z_bx : w4.heap.size < w16.heap.size := by omega
              clear z_bg
              have z_bg : w5.heap.size < w16.heap.size := by omega
              clear z_bh
              have z_bh : w14.heap.size < w16.heap.size := by omega
              go_wp2
              go_ret
              exact ⟨rfl, HB.out⟩

end Go.Proofs.YtjendlfophdfeaaDoor

