/- The specification's test of a triangulation. No condition but those that each theorem names. -/
import Derived.Test.YtjendlfophdfeaaDoorFcS
import Derived.Deep.RegionHeld3
import Derived.Outline
import Derived.Deep.Cut
import Derived.DeepKeys
namespace Go.Proofs.YtjendlfophdfeaaDoor
open Go.RowKit
namespace Fc

set_option maxRecDepth 100000 in
theorem face_eqS (a b c d : Int) (w : World) : (Op.equalIn 10000 83 (.agg #[.int .i64 a, .int .i64 b]) (.agg #[.int .i64 c, .int .i64 d])).run Tryd.prog w = .ok (a == c && b == d) w := by
  have u3 := Tryd.underlying2
  have a3 := Tryd.isAgg2
  have z3 := Tryd.sizeOf2
  have hS : Tryd.prog.underlying 83 = some (.struct (Tryd.prog.fieldsOf 83)) := by kernel_rfl
  have hp : Tryd.prog.stoodInHeld 83 = false := by kernel_rfl
  rw [show (10000 : Nat) = 9999 + 1 from rfl, run_equalIn_agg w 9999 83 _ _ hS hp]
  simp only [Program.fieldsOf, Tryd.underlying83]
  go_simp
  by_cases h1 : a = c <;> by_cases h2 : b = d <;> simp [h1, h2]

set_option maxRecDepth 100000 in
set_option maxHeartbeats 8000000 in
theorem isTri_specT (A : Option Addr) (n c : Nat) (T : List (List Int)) (w : World) (h : RdT w w.heap.size A n T) (hn : n ≤ 1048576) :
    Calls Tryd.prog 33 #[.agg #[.slice A n c]] w fun e w' => e = .returned (.bool (decide (Tr.Is T))) ∧ Below w.heap.size w w' := by
  have LN := Lib.hid h.len
  have HT := Lib.hid h
  clear h
  by_cases h8 : n ≤ 8
  case neg =>
    have R := Lib.hid (show decide (Tr.Is T) = false from decide_eq_false fun e => h8 (by rw [← LN.out]; exact e.1))
    rw [R.out]
    have t1 : (8 : Int) < (n : Int) := by omega
    go_enter Tryd.func33, Tryd.ntmps33
    go_wp2_with fail
    refine (tets_spec A n c _).mono ?_
    rintro e w1 ⟨rfl, hb1⟩
    have D1 := Lib.hid (on1 _ hb1)
    clear hb1
    go_wp2
    go_ret
    exact ⟨rfl, D1.out⟩
  go_enter Tryd.func33, Tryd.ntmps33
  go_wp2_with fail
  refine (tets_spec A n c _).mono ?_
  rintro e U ⟨rfl, hb1⟩
  have hB : Below w.heap.size w U := on1 _ hb1
  have z : w.heap.size < U.heap.size := by have := hb1.size; simp at this; omega
  have k0 : U.cell? ⟨w.heap.size, 0, none⟩ = some (.slice A n c) := (hb1.cell (p := ⟨w.heap.size, 0, none⟩) (by simp)).trans (by simp [go_sem])
  have RT := Lib.hid (HT.out.below hB)
  have DU := Lib.hid hB
  clear hb1 hB
  have t1 : ¬ (8 : Int) < (n : Int) := by omega
  go_wp2
  go_loop [3] (fun i => ∃ k : Nat, k ≤ n ∧ i = .int .i64 k ∧ (∀ a, a < k → (T.getD a []).length = 8)) (fun i => n - (intOf i).toNat)
  case atStart => exact ⟨0, Nat.zero_le _, rfl, fun a ha => by omega⟩
  case round =>
    obtain ⟨k, hk, rfl, h8'⟩ := hrel
    have H8 := Lib.hid h8'
    clear h8'
    have i0 : (0 : Int) ≤ (k : Int) := by omega
    by_cases hlt : k < n
    · obtain ⟨b, off, Aj, cj, m, rfl, hb, hc, hc1, hc2, hz⟩ := RT.out.size hlt
      have i1 : (k : Int) < (n : Int) := by omega
      by_cases hm : m = 4
      · subst hm
        have HZ := Lib.hid hz
        clear hz
        go_wp2
        go_round
        case rel => exact ⟨k + 1, by omega, by go_num, fun a ha => if e : a = k then (by rw [e, HZ.out]) else H8.out a (by omega)⟩
        case measure => simp [intOf]; omega
      · have R := Lib.hid (show decide (Tr.Is T) = false from decide_eq_false fun e => hm (by have := e.2.1 k (by rw [LN.out]; exact hlt); omega))
        have t2 : ((m : Int) == 4) = false := by simp; omega
        clear hz
        go_wp2
        go_ret
        exact ⟨by rw [R.out]; rfl, DU.out⟩
    · obtain rfl : k = n := by omega
      have i1 : ¬ (k : Int) < (k : Int) := by omega
      have H4 := Lib.hid (show Tr.Four T from fun a ha => H8.out a (by rw [← LN.out]; exact ha))
      go_wp2
      go_loopw [4] (fun i W => ∃ a : Nat, a ≤ k ∧ i = .int .i64 a ∧ (∀ a', a' < a → ∀ f, f < 4 → Tr.Good T a' f) ∧ Below U.heap.size U W) (fun i _ => k - (intOf i).toNat)
      case atStart => exact ⟨0, Nat.zero_le _, rfl, (fun a ha => by omega), Below.refl _ _⟩
      case round =>
        obtain ⟨a, ha, rfl, hgood, hbel⟩ := hrel
        have GD := Lib.hid hgood
        have BW := Lib.hid hbel
        have kw := (hbel.cell (p := ⟨w.heap.size, 0, none⟩) z).trans k0
        have zW : U.heap.size ≤ wr.heap.size := hbel.size
        have j0 : (0 : Int) ≤ (a : Int) := by omega
        clear hgood hbel
        by_cases hlta : a < k
        case neg =>
          obtain rfl : a = k := by omega
          have R := Lib.hid (show decide (Tr.Is T) = true from decide_eq_true ⟨by rw [LN.out]; exact h8, H4.out, fun a' h1 f hf => GD.out a' (by rw [← LN.out]; exact h1) f hf⟩)
          have j1 : ¬ (a : Int) < (a : Int) := by omega
          go_wp2_with fail
          refine (tets_spec A a c _).mono ?_
          rintro e w2 ⟨rfl, hb2⟩
          have B2 := Lib.hid (DU.out.trans ((BW.out.trans (hb2.mono zW)).mono (by omega)))
          clear hb2
          go_wp2
          go_ret
          exact ⟨by rw [R.out]; rfl, B2.out⟩
        have j1 : (a : Int) < (k : Int) := by omega
        go_wp2_with fail
        refine (tets_spec A k c _).mono ?_
        rintro e w2 ⟨rfl, hb2⟩
        have B2 := Lib.hid (BW.out.trans (hb2.mono zW))
        clear hb2 kw BW
        go_wp2
        go_loopw [5] (fun i W => ∃ f : Nat, f ≤ 4 ∧ i = .int .i64 f ∧ (∀ f', f' < f → Tr.Good T a f') ∧ Below U.heap.size U W) (fun i _ => 4 - (intOf i).toNat)
        case atStart => exact ⟨0, Nat.zero_le _, rfl, (fun f hf => by omega), B2.out⟩
        case round =>
          obtain ⟨f, hf, rfl, hgood, hbel⟩ := hrel
          have GF := Lib.hid hgood
          have BW := Lib.hid hbel
          have zV : U.heap.size ≤ wr.heap.size := hbel.size
          have l0 : (0 : Int) ≤ (f : Int) := by omega
          clear hgood B2
          by_cases hlf : f < 4
          case neg =>
            obtain rfl : f = 4 := by omega
            clear hbel
            go_wp2
            go_roundw
            case rel => exact ⟨a + 1, by omega, by go_num, (fun a' h1 f hf => if e : a' = a then (by rw [e]; exact GF.out f hf) else GD.out a' (by omega) f hf), BW.out⟩
            case measure => simp [intOf]; omega
          have l1 : (f : Int) < 4 := by omega
          obtain ⟨b, off, g, o, cj, rfl, hb, hg, hcr, _, _, hfc⟩ := (RT.out.below (hbel.mono (by omega))).row4 hlta (H4.out a (by rw [LN.out]; exact hlta))
          obtain ⟨c0, c1⟩ := hfc f hlf
          have kw := (hbel.cell (p := ⟨w.heap.size, 0, none⟩) z).trans k0
          have LP := Lib.hid (show ∀ t : Nat, t < k → ∀ f', f' < 4 → ∃ g' o' cj', g' < w.heap.size ∧ 4 ≤ cj' ∧ wr.cell? ⟨b, off + t, none⟩ = some (.slice (some ⟨g', o', none⟩) 4 cj') ∧ wr.cell? ⟨g', o' + f' * 2, none⟩ = some (.int .i64 (Tr.tt T t f')) ∧ wr.cell? ⟨g', o' + f' * 2 + 1, none⟩ = some (.int .i64 (Tr.pp T t f')) from fun t ht f' hf' => by
            obtain ⟨b', off', g', o', cj', e', hb', hg', hcr', h4', _, hfc'⟩ := (RT.out.below (hbel.mono (by omega))).row4 ht (H4.out t (by rw [LN.out]; exact ht))
            cases e'
            exact ⟨g', o', cj', hg', h4', hcr', (hfc' f' hf').1, (hfc' f' hf').2⟩)
          obtain ⟨tv, htv⟩ : ∃ tv, Tr.tt T a f = tv := ⟨_, rfl⟩
          obtain ⟨pv, hpv⟩ : ∃ pv, Tr.pp T a f = pv := ⟨_, rfl⟩
          rw [htv] at c0
          rw [hpv] at c1
          have wk : IntKind.i64.wrap ((k : Int) - 1) = (k : Int) - 1 := IntWalk.i64_in _ (by omega)
          have HTV := Lib.hid htv
          have HPV := Lib.hid hpv
          clear hfc hbel htv hpv
          by_cases eb : tv = -1
          · subst eb
            by_cases ep : pv = 0
            · subst ep
              have GN := Lib.hid (show Tr.Good T a f from .inl ⟨HTV.out, HPV.out⟩)
              have BX := Lib.hid (BW.out.alloc zV (Obj.cells #[.int .i64 (-1), .int .i64 0] 83))
              go_wp2
              go_roundw
              case rel => exact ⟨f + 1, by omega, by go_num, (fun f' hf' => if e : f' = f then (by rw [e]; exact GN.out) else GF.out f' (by omega)), BX.out⟩
              case measure => simp [intOf]; omega
            · have R := Lib.hid (show decide (Tr.Is T) = false from decide_eq_false fun e => by
                have h1 := e.2.2 a (by rw [LN.out]; exact hlta) f hlf
                rcases h1 with h1 | h1
                · exact ep (by rw [← HPV.out]; exact h1.2)
                · have := h1.1.1.1; rw [HTV.out] at this; omega)
              go_upto_region 16 with fail
              obtain ⟨X, hX⟩ : ∃ X, X = wr.alloc (Obj.cells #[.int .i64 (-1), .int .i64 pv] 83) := ⟨_, rfl⟩
              have hBX : Below wr.heap.size wr X := by rw [hX]; exact al1 _ _
              have zX : wr.heap.size < X.heap.size := by rw [hX]; simp
              have x0 : X.cell? ⟨wr.heap.size, 0, none⟩ = some (.int .i64 (-1)) := by rw [hX]; simp [go_sem]
              have x1 : X.cell? ⟨wr.heap.size, 1, none⟩ = some (.int .i64 pv) := by rw [hX]; simp [go_sem]
              have x2 := (hBX.cell (p := ⟨w.heap.size, 0, none⟩) (by dsimp only; omega)).trans kw
              have SX := Lib.hid (fun (W : World) (hb : Below X.heap.size X W) => (hb.cell (p := ⟨w.heap.size, 0, none⟩) (by dsimp only; omega)).trans x2)
              have PX0 := Lib.hid (fun (W : World) (hb : Below X.heap.size X W) => (hb.cell (p := ⟨wr.heap.size, 0, none⟩) (by dsimp only; omega)).trans x0)
              have PX1 := Lib.hid (fun (W : World) (hb : Below X.heap.size X W) => (hb.cell (p := ⟨wr.heap.size, 1, none⟩) (by dsimp only; omega)).trans x1)
              have BX := Lib.hid (BW.out.trans (hBX.mono zV))
              have BR := Lib.hid hBX
              have CUR := Lib.hid (Below.refl X.heap.size X)
              rw [← hX]
              clear hX hBX c0 c1 kw
              first
                | go_region_with (first
                | (go_at_call 87; (with_reducible refine (tets_spec _ _ _ _).mono ?_); rintro e w6 ⟨rfl, hb6'⟩; (first | have hb6 := undrew hb6' | have hb6 := hb6'); replace CUR := Lib.hid (CUR.out.trans (hb6.mono CUR.out.size)); have e0 := SX.out _ CUR.out; have e1 := PX0.out _ CUR.out; have e2 := PX1.out _ CUR.out; clear hb6 hb6')
                | (go_at_call 97; (with_reducible refine (in_spec_no _ _ _ _ (by omega)).mono ?_); rintro e w7 ⟨rfl, rfl⟩))
                | fail
              all_goals
                go_wp2
                go_ret
                exact ⟨by rw [R.out]; rfl, by first | exact DU.out.trans ((BX.out.trans (CUR.out.mono (by omega))).mono (by omega)) | exact (DU.out.trans ((BX.out.trans (CUR.out.mono (by omega))).mono (by omega))).drew⟩
          · by_cases ht : 0 ≤ tv ∧ tv ≤ (k : Int) - 1
            case neg =>
              have R := Lib.hid (show decide (Tr.Is T) = false from decide_eq_false fun e => by
                have h1 := e.2.2 a (by rw [LN.out]; exact hlta) f hlf
                rcases h1 with h1 | h1
                · exact eb (by rw [← HTV.out]; exact h1.1)
                · have h2 := h1.1.1; rw [HTV.out, LN.out] at h2; exact ht ⟨h2.1, by omega⟩)
              go_upto_region 16 with fail
              obtain ⟨X, hX⟩ : ∃ X, X = wr.alloc (Obj.cells #[.int .i64 tv, .int .i64 pv] 83) := ⟨_, rfl⟩
              have hBX : Below wr.heap.size wr X := by rw [hX]; exact al1 _ _
              have zX : wr.heap.size < X.heap.size := by rw [hX]; simp
              have x0 : X.cell? ⟨wr.heap.size, 0, none⟩ = some (.int .i64 tv) := by rw [hX]; simp [go_sem]
              have x1 : X.cell? ⟨wr.heap.size, 1, none⟩ = some (.int .i64 pv) := by rw [hX]; simp [go_sem]
              have x2 := (hBX.cell (p := ⟨w.heap.size, 0, none⟩) (by dsimp only; omega)).trans kw
              have SX := Lib.hid (fun (W : World) (hb : Below X.heap.size X W) => (hb.cell (p := ⟨w.heap.size, 0, none⟩) (by dsimp only; omega)).trans x2)
              have PX0 := Lib.hid (fun (W : World) (hb : Below X.heap.size X W) => (hb.cell (p := ⟨wr.heap.size, 0, none⟩) (by dsimp only; omega)).trans x0)
              have PX1 := Lib.hid (fun (W : World) (hb : Below X.heap.size X W) => (hb.cell (p := ⟨wr.heap.size, 1, none⟩) (by dsimp only; omega)).trans x1)
              have BX := Lib.hid (BW.out.trans (hBX.mono zV))
              have BR := Lib.hid hBX
              have CUR := Lib.hid (Below.refl X.heap.size X)
              rw [← hX]
              clear hX hBX c0 c1 kw
              first
                | go_region_with (first
                | (go_at_call 87; (with_reducible refine (tets_spec _ _ _ _).mono ?_); rintro e w6 ⟨rfl, hb6'⟩; (first | have hb6 := undrew hb6' | have hb6 := hb6'); replace CUR := Lib.hid (CUR.out.trans (hb6.mono CUR.out.size)); have e0 := SX.out _ CUR.out; have e1 := PX0.out _ CUR.out; have e2 := PX1.out _ CUR.out; clear hb6 hb6')
                | (go_at_call 97; (with_reducible refine (in_spec_no _ _ _ _ ht).mono ?_); rintro e w7 ⟨rfl, rfl⟩))
                | fail
              all_goals
                go_wp2
                go_ret
                exact ⟨by rw [R.out]; rfl, by first | exact DU.out.trans ((BX.out.trans (CUR.out.mono (by omega))).mono (by omega)) | exact (DU.out.trans ((BX.out.trans (CUR.out.mono (by omega))).mono (by omega))).drew⟩
            by_cases hp : 0 ≤ pv ∧ pv < 24
            case neg =>
              have R := Lib.hid (show decide (Tr.Is T) = false from decide_eq_false fun e => by
                have h1 := e.2.2 a (by rw [LN.out]; exact hlta) f hlf
                rcases h1 with h1 | h1
                · exact eb (by rw [← HTV.out]; exact h1.1)
                · have h2 := h1.1.2; rw [HPV.out] at h2; exact hp h2)
              go_upto_region 16 with fail
              obtain ⟨X, hX⟩ : ∃ X, X = wr.alloc (Obj.cells #[.int .i64 tv, .int .i64 pv] 83) := ⟨_, rfl⟩
              have hBX : Below wr.heap.size wr X := by rw [hX]; exact al1 _ _
              have zX : wr.heap.size < X.heap.size := by rw [hX]; simp
              have x0 : X.cell? ⟨wr.heap.size, 0, none⟩ = some (.int .i64 tv) := by rw [hX]; simp [go_sem]
              have x1 : X.cell? ⟨wr.heap.size, 1, none⟩ = some (.int .i64 pv) := by rw [hX]; simp [go_sem]
              have x2 := (hBX.cell (p := ⟨w.heap.size, 0, none⟩) (by dsimp only; omega)).trans kw
              have SX := Lib.hid (fun (W : World) (hb : Below X.heap.size X W) => (hb.cell (p := ⟨w.heap.size, 0, none⟩) (by dsimp only; omega)).trans x2)
              have PX0 := Lib.hid (fun (W : World) (hb : Below X.heap.size X W) => (hb.cell (p := ⟨wr.heap.size, 0, none⟩) (by dsimp only; omega)).trans x0)
              have PX1 := Lib.hid (fun (W : World) (hb : Below X.heap.size X W) => (hb.cell (p := ⟨wr.heap.size, 1, none⟩) (by dsimp only; omega)).trans x1)
              have BX := Lib.hid (BW.out.trans (hBX.mono zV))
              have BR := Lib.hid hBX
              have CUR := Lib.hid (Below.refl X.heap.size X)
              rw [← hX]
              clear hX hBX c0 c1 kw
              first
                | go_region_held3 (fun W => W.cell? ⟨w.heap.size, 0, none⟩ = some (.slice (some ⟨b, off, none⟩) k c) ∧ W.cell? ⟨wr.heap.size, 0, none⟩ = some (.int .i64 tv) ∧ W.cell? ⟨wr.heap.size, 1, none⟩ = some (.int .i64 pv)) (go_keep) (first
                | (go_at_call 87; (with_reducible refine (tets_spec _ _ _ _).mono ?_); rintro e w6 ⟨rfl, hb6'⟩; (first | have hb6 := undrew hb6' | have hb6 := hb6'); replace CUR := Lib.hid (CUR.out.trans (hb6.mono CUR.out.size)); have e0 := SX.out _ CUR.out; have e1 := PX0.out _ CUR.out; have e2 := PX1.out _ CUR.out; clear hb6 hb6')
                | (go_at_call 97; (with_reducible refine (in_spec_yes _ _ _ _ ht.1 ht.2).mono ?_); rintro e w7 ⟨rfl, rfl⟩)
                | (go_at_call 98; (with_reducible refine (l06Valid_no pv _ hp).mono ?_); rintro e w8 ⟨rfl, rfl⟩))
                | fail
              all_goals
                go_wp2
                go_ret
                exact ⟨by rw [R.out]; rfl, by first | exact DU.out.trans ((BX.out.trans (CUR.out.mono (by omega))).mono (by omega)) | exact (DU.out.trans ((BX.out.trans (CUR.out.mono (by omega))).mono (by omega))).drew⟩
            obtain ⟨p, rfl⟩ : ∃ p : Nat, pv = p := ⟨pv.toNat, by omega⟩
            obtain ⟨tb, rfl⟩ : ∃ tb : Nat, tv = tb := ⟨tv.toNat, by omega⟩
            have hp24 : p < 24 := by omega
            have htb : tb < k := by omega
            go_upto_region 16 with fail
            obtain ⟨X, hX⟩ : ∃ X, X = wr.alloc (Obj.cells #[.int .i64 (tb : Int), .int .i64 (p : Int)] 83) := ⟨_, rfl⟩
            have hBX : Below wr.heap.size wr X := by rw [hX]; exact al1 _ _
            have zX : wr.heap.size < X.heap.size := by rw [hX]; simp
            have x0 : X.cell? ⟨wr.heap.size, 0, none⟩ = some (.int .i64 (tb : Int)) := by rw [hX]; simp [go_sem]
            have x1 : X.cell? ⟨wr.heap.size, 1, none⟩ = some (.int .i64 (p : Int)) := by rw [hX]; simp [go_sem]
            have x2 := (hBX.cell (p := ⟨w.heap.size, 0, none⟩) (by dsimp only; omega)).trans kw
            have SX := Lib.hid (fun (W : World) (hb : Below X.heap.size X W) => (hb.cell (p := ⟨w.heap.size, 0, none⟩) (by dsimp only; omega)).trans x2)
            have PX0 := Lib.hid (fun (W : World) (hb : Below X.heap.size X W) => (hb.cell (p := ⟨wr.heap.size, 0, none⟩) (by dsimp only; omega)).trans x0)
            have PX1 := Lib.hid (fun (W : World) (hb : Below X.heap.size X W) => (hb.cell (p := ⟨wr.heap.size, 1, none⟩) (by dsimp only; omega)).trans x1)
            have BX := Lib.hid (BW.out.trans (hBX.mono zV))
            have BR := Lib.hid hBX
            have CUR := Lib.hid (Below.refl X.heap.size X)
            rw [← hX]
            clear hX hBX c0 c1 kw
            first
              | go_region_held3 (fun W => W.cell? ⟨w.heap.size, 0, none⟩ = some (.slice (some ⟨b, off, none⟩) k c) ∧ W.cell? ⟨wr.heap.size, 0, none⟩ = some (.int .i64 (tb : Int)) ∧ W.cell? ⟨wr.heap.size, 1, none⟩ = some (.int .i64 (p : Int))) (go_keep) (first
                | (go_at_call 87; (with_reducible refine (tets_spec _ _ _ _).mono ?_); rintro e w6 ⟨rfl, hb6'⟩; (first | have hb6 := undrew hb6' | have hb6 := hb6'); replace CUR := Lib.hid (CUR.out.trans (hb6.mono CUR.out.size)); have e0 := SX.out _ CUR.out; have e1 := PX0.out _ CUR.out; have e2 := PX1.out _ CUR.out; clear hb6 hb6')
                | (go_at_call 97; (with_reducible refine (in_spec_yes _ _ _ _ ht.1 ht.2).mono ?_); rintro e w7 ⟨rfl, rfl⟩)
                | (go_at_call 98; (with_reducible refine (l06Valid_yes (p : Int) _ hp.1 hp.2).mono ?_); rintro e w8 ⟨rfl, rfl⟩))
              | fail
            all_goals
              obtain ⟨G, hG, hG4⟩ : ∃ G : Nat, (P4.im p).getD f 0 = (G : Int) ∧ G < 4 := ⟨((P4.im p).getD f 0).toNat, by have := P4.im_in p hp24 f hlf; omega, by have := P4.im_in p hp24 f hlf; omega⟩
              have AT := Lib.hid (fun (W : World) => (show Calls Tryd.prog 67 #[.int .i64 (p : Int), .int .i64 (f : Int)] W (ResI W (G : Int)) from by have := at_spec p f W hp24 hlf; rw [hG] at this; exact this))
              have BK := Lib.hid (fun (W : World) => back_spec p W hp24)
              obtain ⟨g', o', cj', hg', hcj', q0, q1, q2⟩ := LP.out tb htb G hG4
              obtain ⟨t2, ht2⟩ : ∃ t2, Tr.tt T tb G = t2 := ⟨_, rfl⟩
              obtain ⟨p2, hp2⟩ : ∃ p2, Tr.pp T tb G = p2 := ⟨_, rfl⟩
              obtain ⟨v, hv⟩ : ∃ v, P4.ivt p = v := ⟨_, rfl⟩
              rw [hv] at BK
              rw [ht2] at q1
              rw [hp2] at q2
              have MT := Lib.hid (show Tr.mt T a f = G from by unfold Tr.mt; rw [HPV.out, Int.toNat_natCast, hG]; omega)
              have BKV := Lib.hid (show Tr.Bk T a f ↔ (t2 = (a : Int) ∧ p2 = (v : Int)) ∧ ¬ (tb = a ∧ G = f) from by
                unfold Tr.Bk
                rw [MT.out, HTV.out, HPV.out, Int.toNat_natCast, Int.toNat_natCast, ht2, hp2, hv])
              have GDV := Lib.hid (show (t2 = (a : Int) ∧ p2 = (v : Int)) ∧ ¬ (tb = a ∧ G = f) → Tr.Good T a f from fun hh => .inr ⟨⟨by rw [HTV.out, LN.out]; exact ⟨by omega, by omega⟩, by rw [HPV.out]; exact hp⟩, BKV.out.2 hh⟩)
              have BAD := Lib.hid (show ¬ ((t2 = (a : Int) ∧ p2 = (v : Int)) ∧ ¬ (tb = a ∧ G = f)) → decide (Tr.Is T) = false from fun hh => decide_eq_false fun e => by
                have h1 := e.2.2 a (by rw [LN.out]; exact hlta) f hlf
                exact hh (BKV.out.1 (h1.bk fun hb => eb (by rw [← HTV.out]; exact hb.1))))
              have j2 : (0 : Int) ≤ (tb : Int) := by omega
              have j3 : (tb : Int) < (k : Int) := by omega
              have j4 : (0 : Int) ≤ (G : Int) := by omega
              have j5 : (G : Int) < 4 := by omega
              clear ht2 hp2 hv hG
              go_wp2_with fail
              refine (AT.out _).mono ?_
              rintro e w9 ⟨rfl, hb9⟩
              replace CUR := Lib.hid (CUR.out.trans (hb9.mono CUR.out.size))
              have e0 := SX.out _ CUR.out
              have e1 := PX0.out _ CUR.out
              have e2 := PX1.out _ CUR.out
              clear hb9
              go_wp2_with fail
              refine (BK.out _).mono ?_
              rintro e wz ⟨rfl, hb9⟩
              replace CUR := Lib.hid (CUR.out.trans (hb9.mono CUR.out.size))
              have e0 := SX.out _ CUR.out
              have e1 := PX0.out _ CUR.out
              have e2 := PX1.out _ CUR.out
              clear hb9
              go_upto_region 20 with fail
              obtain ⟨Y, hY⟩ : ∃ Y, Y = wz.alloc (Obj.cells #[.int .i64 (a : Int), .int .i64 (v : Int)] 83) := ⟨_, rfl⟩
              have hBY : Below wz.heap.size wz Y := by rw [hY]; exact al1 _ _
              have y0 : Y.cell? ⟨wz.heap.size, 0, none⟩ = some (.int .i64 (a : Int)) := by rw [hY]; simp [go_sem]
              have y1 : Y.cell? ⟨wz.heap.size, 1, none⟩ = some (.int .i64 (v : Int)) := by rw [hY]; simp [go_sem]
              have cur := CUR.out.trans (hBY.mono CUR.out.size)
              have e0 := SX.out _ cur
              have e1 := PX0.out _ cur
              have e2 := PX1.out _ cur
              have far := BR.out.trans (cur.mono (by omega))
              have q0 := (far.cell (p := ⟨b, off + tb, none⟩) (by dsimp only; omega)).trans q0
              have q1 := (far.cell (p := ⟨g', o' + G * 2, none⟩) (by dsimp only; omega)).trans q1
              have q2 := (far.cell (p := ⟨g', o' + G * 2 + 1, none⟩) (by dsimp only; omega)).trans q2
              have BY := Lib.hid (BX.out.trans (cur.mono (by omega)))
              rw [← hY]
              clear hY hBY cur far
              by_cases n1 : t2 = (a : Int)
              case neg =>
                have R := Lib.hid (BAD.out fun e => n1 e.1.1)
                have b1 : (t2 == (a : Int)) = false := by simpa using n1
                clear LP
                go_wp2
                go_quiet (fail)
                all_goals
                  go_wp2
                  go_ret
                  exact ⟨by rw [R.out]; rfl, by first | exact DU.out.trans (BY.out.mono (by omega)) | exact (DU.out.trans (BY.out.mono (by omega))).drew | exact (DU.out.trans (BY.out.mono (by omega))).trans (Go.Joins.below_draws _ _ _)⟩
              subst n1
              by_cases n2 : p2 = (v : Int)
              case neg =>
                have R := Lib.hid (BAD.out fun e => n2 e.1.2)
                have b1 : (p2 == (v : Int)) = false := by simpa using n2
                clear LP
                go_wp2
                go_quiet (fail)
                all_goals
                  go_wp2
                  go_ret
                  exact ⟨by rw [R.out]; rfl, by first | exact DU.out.trans (BY.out.mono (by omega)) | exact (DU.out.trans (BY.out.mono (by omega))).drew | exact (DU.out.trans (BY.out.mono (by omega))).trans (Go.Joins.below_draws _ _ _)⟩
              subst n2
              by_cases n3 : tb = a
              case neg =>
                have GN := Lib.hid (GDV.out ⟨⟨rfl, rfl⟩, fun e => n3 e.1⟩)
                have b1 : ((tb : Int) == (a : Int)) = false := by simp; omega
                have b2 : ¬ (tb : Int) = (a : Int) := by omega
                clear LP
                go_wp2
                go_quiet (fail)
                all_goals
                  go_wp2
                  go_roundw
                  case rel => exact ⟨f + 1, by omega, by go_num, (fun f' hf' => if e : f' = f then (by rw [e]; exact GN.out) else GF.out f' (by omega)), by first | exact BY.out | exact BY.out.drew | exact BY.out.trans (Go.Joins.below_draws _ _ _)⟩
                  case measure => simp [intOf]; omega
              by_cases n4 : G = f
              case neg =>
                have GN := Lib.hid (GDV.out ⟨⟨rfl, rfl⟩, fun e => n4 e.2⟩)
                have b1 : ((G : Int) == (f : Int)) = false := by simp; omega
                have b2 : ¬ (G : Int) = (f : Int) := by omega
                subst n3
                clear LP
                go_wp2
                go_quiet (fail)
                all_goals
                  go_wp2
                  go_roundw
                  case rel => exact ⟨f + 1, by omega, by go_num, (fun f' hf' => if e : f' = f then (by rw [e]; exact GN.out) else GF.out f' (by omega)), by first | exact BY.out | exact BY.out.drew | exact BY.out.trans (Go.Joins.below_draws _ _ _)⟩
                  case measure => simp [intOf]; omega
              have R := Lib.hid (BAD.out fun e => e.2 ⟨n3, n4⟩)
              subst n3
              subst n4
              clear LP
              go_wp2
              go_quiet (fail)
              all_goals
                go_wp2
                go_ret
                exact ⟨by rw [R.out]; rfl, by first | exact DU.out.trans (BY.out.mono (by omega)) | exact (DU.out.trans (BY.out.mono (by omega))).drew | exact (DU.out.trans (BY.out.mono (by omega))).trans (Go.Joins.below_draws _ _ _)⟩

end Fc
end Go.Proofs.YtjendlfophdfeaaDoor
