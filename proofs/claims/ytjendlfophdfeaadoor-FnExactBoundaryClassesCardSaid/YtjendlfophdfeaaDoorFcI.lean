/- The program's test of a triangulation. No condition but those that each theorem names. -/
import Derived.Test.YtjendlfophdfeaaDoorFcH
namespace Go.Proofs.YtjendlfophdfeaaDoor
open Go.RowKit Go.Shelf
namespace Fc
attribute [local go_sem] Oper.semAt_some

/-- What the first test of the program says. -/
def AllOk (T : List (List Int)) : Prop := Tr.Four T ∧ ∀ a, a < T.length → ∀ f, f < 4 → Tr.Ok T a f
instance (T : List (List Int)) : Decidable (AllOk T) := by unfold AllOk; infer_instance

theorem cell_one (W : World) (v : Value) (t : TypeId) : (W.alloc (.cells #[v] t)).cell? ⟨W.heap.size, 0, none⟩ = some v := by simp [go_sem]
theorem cell_al {W : World} {a : Addr} {v : Value} (o : Obj) (h : W.cell? a = some v) : (W.alloc o).cell? a = some v := cell_kept h (World.grownBy_alloc W o none) (fun r e => by cases e)
theorem frozen_al {W : World} {a : Addr} {v : Value} (o : Obj) (h : W.cell? a = some v) (hf : W.frozen? a = false) : (W.alloc o).frozen? a = false := (frozen_kept h (World.grownBy_alloc W o none) (fun r e => by cases e)).trans hf
theorem leave0 {F : Fence} {n : Nat} {P : Program} {fn : Func} {R : Ending → World → Prop} {tmps : Array Value} {w : World} {v : Value} (h1 : (results fn tmps).run P w = .ok v w) (h2 : R (.returned v) w) :
    bodyPostM F n P fn R .ret { tmps := tmps, defers := [] } w := ⟨v, h1, h2⟩
theorem leave1 {F : Fence} {n : Nat} {P : Program} {fn : Func} {R : Ending → World → Prop} {tmps : Array Value} {w : World} {v : Value} {D : Nat} (hK : w.heap[D]? = some (.deferred (some [])))
    (h1 : (results fn tmps).run P (w.putObj D (.deferred none)) = .ok v (w.putObj D (.deferred none))) (h2 : R (.returned v) (w.putObj D (.deferred none))) :
    bodyPostM F n P fn R .ret { tmps := tmps, defers := [{ target := .collected D, args := #[] }] } w := ⟨by simp, .inl ⟨_, _, rfl, run_takeDeferred hK, v, h1, h2⟩⟩
theorem up_all {n : Nat} {P : Nat → Nat → Prop} (h : ∀ x ∈ up n (n * 4), P (x.1 / 4) (x.1 % 4)) : ∀ a, a < n → ∀ f, f < 4 → P a f := fun a ha f hf => by
  have h1 := h ⟨a * 4 + f, by omega⟩ ((up_mem (Nat.le_refl _) _).2 (by dsimp only; omega))
  dsimp only at h1
  rwa [show (a * 4 + f) / 4 = a from by omega, show (a * 4 + f) % 4 = f from by omega] at h1

set_option maxRecDepth 100000 in
set_option maxHeartbeats 8000000 in
theorem described_impl (A : Option Addr) (n c : Nat) (T : List (List Int)) (w : World) (h : RdT w w.heap.size A n T) (hv : Vs w) (hn : n ≤ 1048576) :
    Calls Tryd.prog 103 #[.agg #[.slice A n c]] w fun e w' => e = .returned (.bool (decide (AllOk T))) ∧ Below w.heap.size w w' := by
  have h0 := hv.pos
  have HT := Lib.hid h
  have LN := Lib.hid h.len
  have HV := Lib.hid hv
  clear h hv
  refine (callsIn_wide (n := 5)).1 ?_
  refine callsIn_of_wp_marks Tryd.func103 rfl trivial ?_ rfl
  simp only [Tryd.ntmps103, List.size_toArray, List.length_cons, List.length_nil, Nat.reduceAdd, Nat.reduceSub, Array.replicate_succ, Array.replicate_zero, List.push_toArray, List.append_toArray, List.nil_append, List.cons_append]
  gi_wp2
  obtain ⟨U, hU⟩ : ∃ U, U = ((w.alloc (Obj.cells #[.slice A n c] 29)).alloc (Obj.cells #[.bool false] 4)) := ⟨_, rfl⟩
  have hB : Below w.heap.size w U := by rw [hU]; exact al2 _ _ _
  have z : w.heap.size + 1 < U.heap.size := by rw [hU]; simp
  have k0 : U.cell? ⟨w.heap.size, 0, none⟩ = some (.slice A n c) := by rw [hU]; simp [go_sem]
  have k1 : U.cell? ⟨w.heap.size + 1, 0, none⟩ = some (.bool false) := by rw [hU]; simp [go_sem]
  have kf : U.frozen? ⟨w.heap.size + 1, 0, none⟩ = false := by rw [hU]; simp [go_sem]
  have RT := Lib.hid (HT.out.below hB)
  have DU := Lib.hid hB
  rw [← hU]
  clear hU hB HT
  gi_loopw [11] (fun i W => ∃ k : Nat, k ≤ n ∧ i = .int .i64 k ∧ (∀ a, a < k → (T.getD a []).length = 8) ∧ W = U) (fun i _ => n - (intOf i).toNat)
  case atStart => exact ⟨0, Nat.zero_le _, rfl, (fun a ha => by omega), rfl⟩
  case round =>
    obtain ⟨k, hk, rfl, h8, rfl⟩ := hrel
    have H8 := Lib.hid h8
    clear h8
    have i0 : (0 : Int) ≤ (k : Int) := by omega
    by_cases hlt : k < n
    · obtain ⟨b, off, Aj, cj, m, rfl, hb, hc, hc1, hc2, hz⟩ := RT.out.size hlt
      have i1 : (k : Int) < (n : Int) := by omega
      by_cases hm : m = 4
      · subst hm
        have HZ := Lib.hid hz
        clear hz
        gi_wp2
        go_roundw
        case rel => exact ⟨k + 1, by omega, by simp, (fun a ha => if e : a = k then (by rw [e, HZ.out]) else H8.out a (by omega)), by first | trivial | rfl⟩
        case measure => simp [intOf]; omega
      · have R := Lib.hid (show decide (AllOk T) = false from decide_eq_false fun e => hm (by have := e.1 k (by rw [LN.out]; exact hlt); omega))
        have t1 : ¬ (m : Int) = 4 := by omega
        have t2 : ((m : Int) == 4) = false := by simpa using t1
        clear hz
        gi_wp2
        refine leave0 (v := .bool false) (by simp [results, Tryd.results103, go_sem, k1]) ⟨by rw [R.out], DU.out.setCell (by dsimp only; omega) _⟩
    · obtain rfl : k = n := by omega
      have i1 : ¬ (k : Int) < (k : Int) := by omega
      have H4 := Lib.hid (show Tr.Four T from fun a ha => H8.out a (by rw [← LN.out]; exact ha))
      have DV := Lib.hid (DU.out.alloc (by omega) (Obj.cells #[.slice A k c] 29))
      have KB := Lib.hid (cell_one wr (.slice A k c) 29)
      have A0 := Lib.hid (cell_al (Obj.cells #[.slice A k c] 29) k0)
      have A1 := Lib.hid (cell_al (Obj.cells #[.slice A k c] 29) k1)
      have A2 := Lib.hid (frozen_al (Obj.cells #[.slice A k c] 29) k1 kf)
      have RV := Lib.hid (RT.out.below (((Below.refl w.heap.size wr)).alloc (by omega) (Obj.cells #[.slice A k c] 29)))
      gi_wp2_with (refine ⟨trivial, ?_⟩; gi_at_call 69; refine (facesOf_in Fence.wide _ trivial rfl _ _ _ _).mono ?_; rintro e w' ⟨rfl, rfl⟩)
      obtain ⟨V, hV⟩ : ∃ V, V = wr.alloc (Obj.cells #[.slice A k c] 29) := ⟨_, rfl⟩
      have zV : wr.heap.size < V.heap.size := by rw [hV]; simp
      rw [← hV] at DV KB A0 A1 A2 RV ⊢
      clear hV
      refine rangeB (by omega) wr.heap.size w.heap.size c A T H4.out hn zV (by omega) rfl rfl KB.out RV.out
        (fun pre W => ((∀ x ∈ pre, Tr.Ok T (x.1 / 4) (x.1 % 4)) ∧ W.cell? ⟨w.heap.size, 0, none⟩ = some (.slice A k c) ∧ W.cell? ⟨w.heap.size + 1, 0, none⟩ = some (.bool false) ∧ W.frozen? ⟨w.heap.size + 1, 0, none⟩ = false) ∧ Below w.heap.size w W)
        (fun c pre W => (c = .ret ∧ (∃ x ∈ pre, ¬ Tr.Ok T (x.1 / 4) (x.1 % 4)) ∧ W.cell? ⟨w.heap.size + 1, 0, none⟩ = some (.bool false)) ∧ Below w.heap.size w W)
        (OwnFrom.and (Own.from (fun s A B row hs hg hr => ⟨hs.1, cell_kept hs.2.1 hg hr, cell_kept hs.2.2.1 hg hr, (frozen_kept hs.2.2.1 hg hr).trans hs.2.2.2⟩) _) (ownFrom_below (Nat.le_refl _) (by omega)))
        (fun c => OwnFrom.and (Own.from (fun s A B row hs hg hr => ⟨hs.1, hs.2.1, cell_kept hs.2.2 hg hr⟩) _) (ownFrom_below (Nat.le_refl _) (by omega)))
        ⟨⟨by simp, A0.out, A1.out, A2.out⟩, DV.out⟩
        (fun x Bx W => W.cell? ⟨Bx, 0, none⟩ = some (.int .i64 (Tr.tt T (x.1 / 4) (x.1 % 4))) ∧ W.cell? ⟨Bx, 1, none⟩ = some (.int .i64 (Tr.pp T (x.1 / 4) (x.1 % 4))))
        (fun x Bx => Own.from (fun s X Y row hs hg hr => ⟨cell_kept hs.1 hg hr, cell_kept hs.2 hg hr⟩) _) ?acts ?assign ?body ?done ?stop
      case assign =>
        rintro l pre x W K ⟨⟨hp, b0, b1, b2⟩, hB⟩ hK
        dsimp only [encF]
        have zW : w.heap.size ≤ W.heap.size := hB.size
        gi_wp2
        have n0 : (W.alloc (Obj.cells #[.int .i64 (Tr.tt T (x.1 / 4) (x.1 % 4)), .int .i64 (Tr.pp T (x.1 / 4) (x.1 % 4))] 83)).cell? ⟨W.heap.size, 0, none⟩ = some (.int .i64 (Tr.tt T (x.1 / 4) (x.1 % 4))) := by simp [go_sem]
        have n1 : (W.alloc (Obj.cells #[.int .i64 (Tr.tt T (x.1 / 4) (x.1 % 4)), .int .i64 (Tr.pp T (x.1 / 4) (x.1 % 4))] 83)).cell? ⟨W.heap.size, 1, none⟩ = some (.int .i64 (Tr.pp T (x.1 / 4) (x.1 % 4))) := by simp [go_sem]
        have hA : Below w.heap.size W (W.alloc (Obj.cells #[.int .i64 (Tr.tt T (x.1 / 4) (x.1 % 4)), .int .i64 (Tr.pp T (x.1 / 4) (x.1 % 4))] 83)) := (Below.refl _ W).alloc zW _
        have hF : KeepsFrom V.heap.size W (W.alloc (Obj.cells #[.int .i64 (Tr.tt T (x.1 / 4) (x.1 % 4)), .int .i64 (Tr.pp T (x.1 / 4) (x.1 % 4))] 83)) := (KeepsOthers.alloc W _).from _
        have hI := cell_al (Obj.cells #[.int .i64 (Tr.tt T (x.1 / 4) (x.1 % 4)), .int .i64 (Tr.pp T (x.1 / 4) (x.1 % 4))] 83) b0
        have hI1 := cell_al (Obj.cells #[.int .i64 (Tr.tt T (x.1 / 4) (x.1 % 4)), .int .i64 (Tr.pp T (x.1 / 4) (x.1 % 4))] 83) b1
        have hI2 := frozen_al (Obj.cells #[.int .i64 (Tr.tt T (x.1 / 4) (x.1 % 4)), .int .i64 (Tr.pp T (x.1 / 4) (x.1 % 4))] 83) b1 b2
        revert n0 n1
        generalize W.heap.size = Bx
        intro n0 n1
        exact hK Bx _ hF hA ⟨⟨hp, hI, hI1, hI2⟩, hB.trans hA⟩ ⟨n0, n1⟩
      case body =>
        rintro l pre x Bx W hl ⟨r, hr⟩ ⟨⟨hp, b0, b1, b2⟩, hB⟩ ⟨c0, c1⟩
        obtain ⟨tv, htv⟩ : ∃ tv, Tr.tt T (x.1 / 4) (x.1 % 4) = tv := ⟨_, rfl⟩
        obtain ⟨pv, hpv⟩ : ∃ pv, Tr.pp T (x.1 / 4) (x.1 % 4) = pv := ⟨_, rfl⟩
        rw [htv] at c0
        rw [hpv] at c1
        have zW : w.heap.size ≤ W.heap.size := hB.size
        have zB : Bx < W.heap.size := World.block_lt_of_cell? W _ c0
        have zW1 : w.heap.size + 1 < W.heap.size := World.block_lt_of_cell? W _ b1
        have bv := (HV.out.2.below hB h0.2)
        obtain ⟨v0, v1⟩ := bv
        by_cases hok : (0 ≤ tv ∧ tv < k) ∧ (0 ≤ pv ∧ pv < 24)
        · obtain ⟨⟨t0, t1⟩, p0, p1⟩ := hok
          have OK := Lib.hid (show Tr.Ok T (x.1 / 4) (x.1 % 4) from .inr (by rw [htv, hpv, LN.out]; exact ⟨⟨t0, t1⟩, p0, p1⟩))
          clear htv hpv
          gi_wp2_with (first
            | (refine ⟨trivial, ?_⟩; gi_at_call 89; refine (CallsIn.inRound l (callsIn_wide.2 (isTet_yes A k c tv W t0 t1))).mono ?_; rintro e w6 ⟨rfl, hb6⟩; have e0 := (hb6.cell (p := ⟨Bx, 0, none⟩) (by dsimp only; omega)).trans c0; have e1 := (hb6.cell (p := ⟨Bx, 1, none⟩) (by dsimp only; omega)).trans c1; have e2 := (hb6.cell (p := ⟨w.heap.size, 0, none⟩) (by dsimp only; omega)).trans b0; have e3 := (hb6.cell (p := ⟨w.heap.size + 1, 0, none⟩) (by dsimp only; omega)).trans b1; have e4 := (hb6.frozen (p := ⟨w.heap.size + 1, 0, none⟩) (by dsimp only; omega)).trans b2; have D6 := Lib.hid hb6; clear hb6)
            | (refine ⟨trivial, ?_⟩; gi_at_call 91; refine (CallsIn.inRound l (callsIn_wide.2 (isPerm4_yes pv _ p0 p1))).mono ?_; rintro e w7 ⟨rfl, rfl⟩))
          exact ⟨KeepsFrom.of_below D6.out (Nat.le_refl _), D6.out.mono zW, ⟨fun y hy => (List.mem_append.1 hy).elim (hp y) (fun e => by simp at e; rw [e]; exact OK.out), e2, e3, e4⟩, hB.trans (D6.out.mono zW)⟩
        · by_cases hbd : tv = -1 ∧ pv = 0
          · obtain ⟨rfl, rfl⟩ := hbd
            have OK := Lib.hid (show Tr.Ok T (x.1 / 4) (x.1 % 4) from .inl ⟨htv, hpv⟩)
            clear htv hpv hok
            gi_wp2_with (refine ⟨trivial, ?_⟩; gi_at_call 89; refine (CallsIn.inRound l (callsIn_wide.2 (isTet_no A k c (-1) W (by omega)))).mono ?_; rintro e w6 ⟨rfl, hb6⟩; have e0 := (hb6.cell (p := ⟨Bx, 0, none⟩) (by dsimp only; omega)).trans c0; have e1 := (hb6.cell (p := ⟨Bx, 1, none⟩) (by dsimp only; omega)).trans c1; have e2 := (hb6.cell (p := ⟨w.heap.size, 0, none⟩) (by dsimp only; omega)).trans b0; have e3 := (hb6.cell (p := ⟨w.heap.size + 1, 0, none⟩) (by dsimp only; omega)).trans b1; have e4 := (hb6.frozen (p := ⟨w.heap.size + 1, 0, none⟩) (by dsimp only; omega)).trans b2; have d0 := (hb6.cell (p := ⟨0, 0, none⟩) (by dsimp only; omega)).trans v0; have d1 := (hb6.cell (p := ⟨0, 1, none⟩) (by dsimp only; omega)).trans v1; have D6 := Lib.hid hb6; clear hb6)
            refine ⟨trivial, ?_⟩
            gi_wp2
            exact ⟨KeepsFrom.of_below D6.out (Nat.le_refl _), D6.out.mono zW, ⟨fun y hy => (List.mem_append.1 hy).elim (hp y) (fun e => by simp at e; rw [e]; exact OK.out), e2, e3, e4⟩, hB.trans (D6.out.mono zW)⟩
          · have NO := Lib.hid (show ¬ Tr.Ok T (x.1 / 4) (x.1 % 4) from fun e => by
              rcases e with e | e
              · exact hbd ⟨by rw [← htv]; exact e.1, by rw [← hpv]; exact e.2⟩
              · rw [htv, hpv, LN.out] at e; exact hok e)
            clear htv hpv
            by_cases ht : 0 ≤ tv ∧ tv < k
            · have hp' : ¬ (0 ≤ pv ∧ pv < 24) := fun e => hok ⟨ht, e⟩
              have nb : ¬ tv = -1 := by omega
              have b8 : (tv == -1) = false := by simpa using nb
              clear hok
              gi_wp2_with (first
            | (refine ⟨trivial, ?_⟩; gi_at_call 89; refine (CallsIn.inRound l (callsIn_wide.2 (isTet_yes A k c tv W ht.1 ht.2))).mono ?_; rintro e w6 ⟨rfl, hb6⟩; have e0 := (hb6.cell (p := ⟨Bx, 0, none⟩) (by dsimp only; omega)).trans c0; have e1 := (hb6.cell (p := ⟨Bx, 1, none⟩) (by dsimp only; omega)).trans c1; have e2 := (hb6.cell (p := ⟨w.heap.size, 0, none⟩) (by dsimp only; omega)).trans b0; have e3 := (hb6.cell (p := ⟨w.heap.size + 1, 0, none⟩) (by dsimp only; omega)).trans b1; have e4 := (hb6.frozen (p := ⟨w.heap.size + 1, 0, none⟩) (by dsimp only; omega)).trans b2; have d0 := (hb6.cell (p := ⟨0, 0, none⟩) (by dsimp only; omega)).trans v0; have d1 := (hb6.cell (p := ⟨0, 1, none⟩) (by dsimp only; omega)).trans v1; have D6 := Lib.hid hb6; clear hb6)
            | (refine ⟨trivial, ?_⟩; gi_at_call 91; refine (CallsIn.inRound l (callsIn_wide.2 (isPerm4_no pv _ hp'))).mono ?_; rintro e w7 ⟨rfl, rfl⟩))
              exact ⟨(KeepsFrom.of_below D6.out (Nat.le_refl _)).trans ((KeepsOthers.setCell _ _ _).from _), ⟨rfl, ⟨x, by simp, NO.out⟩, World.cell?_setCell_same' _ _ _ (by rw [e3]; rfl)⟩, (hB.trans (D6.out.mono zW)).setCell (by dsimp only; omega) _⟩
            · clear hok
              by_cases eb : tv = -1
              · subst eb
                have np : ¬ pv = 0 := fun e => hbd ⟨rfl, e⟩
                have b8 : (pv == 0) = false := by simpa using np
                clear hbd
                gi_wp2_with (refine ⟨trivial, ?_⟩; gi_at_call 89; refine (CallsIn.inRound l (callsIn_wide.2 (isTet_no A k c (-1) W ht))).mono ?_; rintro e w6 ⟨rfl, hb6⟩; have e0 := (hb6.cell (p := ⟨Bx, 0, none⟩) (by dsimp only; omega)).trans c0; have e1 := (hb6.cell (p := ⟨Bx, 1, none⟩) (by dsimp only; omega)).trans c1; have e2 := (hb6.cell (p := ⟨w.heap.size, 0, none⟩) (by dsimp only; omega)).trans b0; have e3 := (hb6.cell (p := ⟨w.heap.size + 1, 0, none⟩) (by dsimp only; omega)).trans b1; have e4 := (hb6.frozen (p := ⟨w.heap.size + 1, 0, none⟩) (by dsimp only; omega)).trans b2; have d0 := (hb6.cell (p := ⟨0, 0, none⟩) (by dsimp only; omega)).trans v0; have d1 := (hb6.cell (p := ⟨0, 1, none⟩) (by dsimp only; omega)).trans v1; have D6 := Lib.hid hb6; clear hb6)
                refine ⟨trivial, ?_⟩
                gi_wp2
                exact ⟨(KeepsFrom.of_below D6.out (Nat.le_refl _)).trans ((KeepsOthers.setCell _ _ _).from _), ⟨rfl, ⟨x, by simp, NO.out⟩, World.cell?_setCell_same' _ _ _ (by rw [e3]; rfl)⟩, (hB.trans (D6.out.mono zW)).setCell (by dsimp only; omega) _⟩
              · have b8 : (tv == -1) = false := by simpa using eb
                clear hbd
                gi_wp2_with (refine ⟨trivial, ?_⟩; gi_at_call 89; refine (CallsIn.inRound l (callsIn_wide.2 (isTet_no A k c tv W ht))).mono ?_; rintro e w6 ⟨rfl, hb6⟩; have e0 := (hb6.cell (p := ⟨Bx, 0, none⟩) (by dsimp only; omega)).trans c0; have e1 := (hb6.cell (p := ⟨Bx, 1, none⟩) (by dsimp only; omega)).trans c1; have e2 := (hb6.cell (p := ⟨w.heap.size, 0, none⟩) (by dsimp only; omega)).trans b0; have e3 := (hb6.cell (p := ⟨w.heap.size + 1, 0, none⟩) (by dsimp only; omega)).trans b1; have e4 := (hb6.frozen (p := ⟨w.heap.size + 1, 0, none⟩) (by dsimp only; omega)).trans b2; have d0 := (hb6.cell (p := ⟨0, 0, none⟩) (by dsimp only; omega)).trans v0; have d1 := (hb6.cell (p := ⟨0, 1, none⟩) (by dsimp only; omega)).trans v1; have D6 := Lib.hid hb6; clear hb6)
                refine ⟨trivial, ?_⟩
                gi_wp2
                exact ⟨(KeepsFrom.of_below D6.out (Nat.le_refl _)).trans ((KeepsOthers.setCell _ _ _).from _), ⟨rfl, ⟨x, by simp, NO.out⟩, World.cell?_setCell_same' _ _ _ (by rw [e3]; rfl)⟩, (hB.trans (D6.out.mono zW)).setCell (by dsimp only; omega) _⟩
      case done =>
        rintro D W hD ⟨⟨hall, b0, b1, b2⟩, hB⟩ hK
        have R := Lib.hid (show decide (AllOk T) = true from decide_eq_true ⟨H4.out, fun a ha f hf => up_all hall a (by rw [← LN.out]; exact ha) f hf⟩)
        gi_wp2
        have hK' := (KeepsOthers.setCell W ⟨w.heap.size + 1, 0, none⟩ (.bool true)).same D _ hK rfl
        have hc5 := cell_kept (World.cell?_setCell_same' W ⟨w.heap.size + 1, 0, none⟩ (.bool true) (by rw [b1]; rfl)) (grownBy_putObj' _ D (.deferred none)) (fun r e => by cases e; exact ⟨_, hK', rfl⟩)
        refine leave1 (v := .bool true) hK' (by simp [results, Tryd.results103, go_sem, hc5]) ⟨by rw [R.out], (hB.setCell (p := ⟨w.heap.size + 1, 0, none⟩) (by dsimp only; omega) _).trans (belowK_b (w := w) (Nat.le_refl _) _ D _ _ (by omega) hK' rfl rfl)⟩
      case stop =>
        rintro D c q W hD hq ⟨⟨rfl, ⟨x, hx, hbad⟩, hcr⟩, hB⟩ hK
        have R := Lib.hid (show decide (AllOk T) = false from decide_eq_false fun e => hbad (e.2 (x.1 / 4) (by rw [LN.out]; have := x.2; omega) (x.1 % 4) (by omega)))
        gi_wp2
        have hc5 := cell_kept hcr (grownBy_putObj' _ D (.deferred none)) (fun r e => by cases e; exact ⟨_, hK, rfl⟩)
        refine leave1 (v := .bool false) hK (by simp [results, Tryd.results103, go_sem, hc5]) ⟨by rw [R.out], hB.trans (belowK_b (w := w) (Nat.le_refl _) _ D _ _ (by omega) hK rfl rfl)⟩

end Fc
end Go.Proofs.YtjendlfophdfeaaDoor
