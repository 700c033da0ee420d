/- Texts of one proof laid together. No condition but those that each theorem names. -/
import Derived.Test.YtajbahfbldmckaaDoorRpA
import Derived.Test.YtajbahfbldmckaaDoorFcS
import Derived.Test.YtajbahfbldmckaaDoorPfE
import Derived.Test.YtajbahfbldmckaaDoorFcT
import Derived.OrdersHeld
import Derived.StillTail
import Derived.Test.YtajbahfbldmckaaDoorFcD
import Derived.Test.YtajbahfbldmckaaDoorFcN
import Derived.Test.YtajbahfbldmckaaDoorFcP
import Derived.Test.YtajbahfbldmckaaDoorFcL
import Derived.StillTailTactics
import Derived.OrdersIn
import Derived.TacticsIn
import Derived.RegionIn
import Derived.BigRegionIn
import Derived.IntWalk
import Derived.Test.YtajbahfbldmckaaDoorPfH
import Derived.Maps.OwnOps
import Derived.Maps.OwnSet
import Derived.DeepKeys4
import Derived.Carry
import Derived.Deep.RegionHeld3
import Derived.Test.YtajbahfbldmckaaDoorFcW
import Derived.Deep.DeepCutAuto
import Derived.Test.YtajbahfbldmckaaDoorFcH
namespace Go.Proofs.YtajbahfbldmckaaDoor
open Go.RowKit

def PmK (n : Int) (z : List Int) (k : Nat) : Prop := ∀ i, i < k → (0 ≤ z.getD i 0 ∧ z.getD i 0 < n) ∧ ∀ j, j < i → z.getD j 0 ≠ z.getD i 0
theorem PmK.snoc {n : Int} {z : List Int} {k : Nat} (h : PmK n z k) (h1 : 0 ≤ z.getD k 0 ∧ z.getD k 0 < n) (h2 : ∀ j, j < k → z.getD j 0 ≠ z.getD k 0) : PmK n z (k + 1) := fun i hi => by
  by_cases e : i = k
  · subst e; exact ⟨h1, h2⟩
  · exact h i (by omega)
theorem mem_take_iff {z : List Int} {k : Nat} (hk : k ≤ z.length) (x : Int) : x ∈ Lau.cut z 0 k ↔ ∃ j, j < k ∧ z.getD j 0 = x := by
  unfold Lau.cut
  rw [List.drop_zero]
  constructor
  · intro h
    obtain ⟨j, hj, e⟩ := List.mem_iff_getElem.1 h
    have hj2 : j < k := by simp at hj; omega
    refine ⟨j, hj2, ?_⟩
    rw [List.getD_eq_getElem?_getD, List.getElem?_eq_getElem (by omega)]
    rw [List.getElem_take] at e
    simpa using e
  · rintro ⟨j, hj, rfl⟩
    rw [List.getD_eq_getElem?_getD, List.getElem?_eq_getElem (by omega)]
    exact List.mem_iff_getElem.2 ⟨j, by simp; omega, by simp⟩
theorem infoB : (Tryd.prog.info? 4).map (fun i => (i.zero, i.size, i.bytes)) = some (some (.bool false), 1, 1) := by kernel_rfl
theorem run_make_bools (n : Nat) (hn : n ≤ 1048576) (w : World) :
    (Instr.makeSlice 137 (.int .i64 (n : Int)) (.int .i64 (n : Int))).run Tryd.prog w = .ok (.slice (some ⟨w.heap.size, 0, none⟩) n n) (w.alloc (.cells ((List.replicate n false).map Value.bool).toArray 4)) := by
  obtain ⟨i0, hi, hz0, hz1, hz2⟩ := info_parts infoB
  have hr := run_make (P := Tryd.prog) w 137 4 i0 _ Tryd.underlying137 hi hz0 .i64 .i64 n n (by omega) (by omega) (by rw [hz2]; omega) (by omega)
  simp only [Int.toNat_natCast] at hr
  have e : madeCells (Value.bool false).cells (n * 1) = ((List.replicate n false).map Value.bool).toArray := by
    apply Array.ext
    · simp [madeCells]
    · intro i h1 h2
      simp [madeCells, Value.cells, Nat.mod_one]
  rw [hz1, e] at hr
  exact hr
/-- A block of truth values that is known whole. -/
def BlkB (W : World) (g : Nat) (d : List Bool) : Prop := W.heap[g]? = some (.cells (d.map Value.bool).toArray 4 (0, 0))
theorem BlkB.lt {W : World} {g : Nat} {d : List Bool} (h : BlkB W g d) : g < W.heap.size := by
  rcases Nat.lt_or_ge g W.heap.size with hlt | hge
  · exact hlt
  · unfold BlkB at h; rw [Array.getElem?_eq_none hge] at h; cases h
theorem BlkB.cell {W : World} {g : Nat} {d : List Bool} (h : BlkB W g d) {i : Nat} (hi : i < d.length) : W.cell? ⟨g, i, none⟩ = some (.bool (d.getD i false)) := by
  rw [cell_of_row W g i _ _ (0, 0) h]
  simp [List.getElem?_eq_getElem hi]
theorem BlkB.frozen {W : World} {g : Nat} {d : List Bool} (h : BlkB W g d) (i : Nat) : W.frozen? ⟨g, i, none⟩ = false := by
  unfold BlkB at h
  simp [World.frozen?, h]
theorem BlkB.set_ {W : World} {g : Nat} {d : List Bool} (h : BlkB W g d) (i : Nat) (u : Bool) : BlkB (W.setCell ⟨g, i, none⟩ (.bool u)) g (d.set i u) := by
  unfold BlkB at h ⊢
  simp [World.setCell, Array.getElem?_modify, h]
theorem getD_setB {d : List Bool} {i j : Nat} {u : Bool} (hj : j < d.length) : (d.set i u).getD j false = if i = j then u else d.getD j false := by
  rw [List.getD_eq_getElem?_getD, List.getD_eq_getElem?_getD, List.getElem?_set]
  by_cases e : i = j
  · subst e
    simp [hj]
  · simp [e]

set_option maxHeartbeats 4000000 in
theorem perm_impl (N : Nat) (A : Option Addr) (m c : Nat) (z : List Int) (w : World) (h : Ints w w.heap.size A m z) (hm : m ≤ 1048576) :
    Calls Tryd.prog 73 #[.int .i64 N, .slice A m c] w fun e w' => e = .returned (.bool (decide (Rp.Pm (N : Int) z))) ∧ Below w.heap.size w w' := by
  have hl := Lib.hid h.1
  have H := Lib.hid h
  clear h
  by_cases hmn : m = N
  case neg =>
    have NO := Lib.hid (show decide (Rp.Pm (N : Int) z) = false from by
      rw [decide_eq_false_iff_not]
      intro hp
      have := hp.1
      rw [hl.out] at this
      omega)
    have t0 : ((m : Int) != (N : Int)) = true := by simp; omega
    clear hmn
    go_enter Tryd.func73, Tryd.ntmps73
    go_wp2
    go_ret
    exact ⟨ret_b NO.out, Below.refl _ _⟩
  · subst hmn
    have t0 : ((m : Int) != (m : Int)) = false := by simp
    have MK := run_make_bools m hm
    go_enter Tryd.func73, Tryd.ntmps73
    go_wp2
    go_loopw [16] (fun i W => ∃ (k : Nat) (d : List Bool), k ≤ m ∧ i = .int .i64 k ∧ BlkB W w.heap.size d ∧ d.length = m ∧ PmK (m : Int) z k ∧ (∀ y, y < m → (d.getD y false = true ↔ ∃ j, j < k ∧ z.getD j 0 = (y : Int))) ∧ Below w.heap.size w W) (fun i _ => m - (intOf i).toNat)
    case atStart => exact ⟨0, List.replicate m false, Nat.zero_le _, rfl, by (have h9 := heap_alloc_new w (Obj.cells (Array.replicate m (Value.bool false)) 4)); unfold BlkB; simpa using h9, List.length_replicate .., (fun i hi => by omega), (fun y hy => by simp [List.getD_eq_getElem?_getD, hy]), al1 _ _⟩
    case round =>
      obtain ⟨k, d, hk, rfl, hbk, hdl, hpk, hfd, hbel⟩ := hrel
      have BK := Lib.hid hbk
      have PK := Lib.hid hpk
      have FD := Lib.hid hfd
      have DB := Lib.hid hbel
      have DL := Lib.hid hdl
      have bl := hbk.lt
      clear hbk hpk hfd hbel hdl
      by_cases hlt : k < m
      · obtain ⟨b, off, v, rfl, hb, hz, hck⟩ := (H.out.below DB.out).at_z hlt
        have Z := Lib.hid hz
        have i1 : (k : Int) < (m : Int) := by omega
        by_cases hin : 0 ≤ v ∧ v < m
        · obtain ⟨y, rfl⟩ : ∃ y : Nat, v = y := ⟨v.toNat, by omega⟩
          have hy : y < m := by omega
          have hcy := BK.out.cell (i := y) (by rw [DL.out]; exact hy)
          have hfy := BK.out.frozen y
          obtain ⟨bv, hbv⟩ : ∃ bv, d.getD y false = bv := ⟨_, rfl⟩
          have BV := Lib.hid hbv
          rw [hbv] at hcy
          have t1 : decide ((y : Int) < 0) = false := by simp
          have t2 : decide ((m : Int) ≤ (y : Int)) = false := by simp; omega
          have t3 : ¬ (y : Int) < 0 := by omega
          have t4 : ¬ (m : Int) ≤ (y : Int) := by omega
          have t5 : (y : Int) < (m : Int) := by omega
          clear hz hbv hin
          cases bv
          · have NP := Lib.hid (show PmK (m : Int) z (k + 1) from PK.out.snoc (by rw [Z.out]; omega) fun j hj e => by
              have := (FD.out y hy).2 ⟨j, hj, by rw [← Z.out]; exact e⟩
              rw [BV.out] at this
              cases this)
            have NF := Lib.hid (show ∀ x, x < m → ((d.set y true).getD x false = true ↔ ∃ j, j < k + 1 ∧ z.getD j 0 = (x : Int)) from fun x hx => by
              rw [getD_setB (by rw [DL.out]; exact hx)]
              by_cases e : y = x
              · subst e
                rw [if_pos rfl]
                exact ⟨fun _ => ⟨k, by omega, Z.out⟩, fun _ => rfl⟩
              · rw [if_neg e, FD.out x hx]
                constructor
                · rintro ⟨j, hj, hj2⟩; exact ⟨j, by omega, hj2⟩
                · rintro ⟨j, hj, hj2⟩
                  by_cases e2 : j = k
                  · rw [e2, Z.out] at hj2; omega
                  · exact ⟨j, by omega, hj2⟩)
            go_wp2
            go_roundw
            case rel => exact ⟨k + 1, _, by omega, by go_num, BK.out.set_ _ _, by rw [List.length_set]; exact DL.out, NP.out, NF.out, DB.out.setCell (Nat.le_refl _) _⟩
            case measure => simp [intOf]; omega
          · have NO := Lib.hid (show decide (Rp.Pm (m : Int) z) = false from by
              rw [decide_eq_false_iff_not]
              intro hp
              obtain ⟨j, hj, e⟩ := (FD.out y hy).1 BV.out
              exact (hp.2 k (by rw [hl.out]; exact hlt)).2 j hj (e.trans Z.out.symm))
            go_wp2
            go_ret
            exact ⟨ret_b NO.out, DB.out⟩
        · have NO := Lib.hid (show decide (Rp.Pm (m : Int) z) = false from by
            rw [decide_eq_false_iff_not]
            intro hp
            have := (hp.2 k (by rw [hl.out]; exact hlt)).1
            rw [Z.out] at this
            exact hin this)
          clear hz
          by_cases h0 : v < 0
          · clear hin
            go_wp2
            go_ret
            exact ⟨ret_b NO.out, DB.out⟩
          · have h4 : (m : Int) ≤ v := by omega
            clear hin
            go_wp2
            go_ret
            exact ⟨ret_b NO.out, DB.out⟩
      · have hkm : k = m := by omega
        have i1 : ¬ (k : Int) < (m : Int) := by omega
        have YES := Lib.hid (show decide (Rp.Pm (m : Int) z) = true from by
          rw [decide_eq_true_iff]
          exact ⟨by rw [hl.out], by rw [hl.out, ← hkm]; exact hkm ▸ PK.out⟩)
        clear hkm
        go_wp2
        go_ret
        exact ⟨ret_b YES.out, DB.out⟩


namespace Fc
/-- All numbers are permutations of vertices. -/
def AllP (pl : List Int) : Prop := ∀ i, i < pl.length → 0 ≤ pl.getD i 0 ∧ pl.getD i 0 < 24
instance (pl : List Int) : Decidable (AllP pl) := by unfold AllP; infer_instance
set_option maxRecDepth 100000 in
set_option maxHeartbeats 4000000 in
theorem arePerms_impl (A : Option Addr) (m c : Nat) (pl : List Int) (w : World) (h : Ints w w.heap.size A m pl) (hm : m ≤ 1048576) :
    Calls Tryd.prog 74 #[.slice A m c] w fun e w' => e = .returned (.bool (decide (AllP pl))) ∧ w' = w := by
  have hl := Lib.hid h.1
  have H := Lib.hid h
  clear h
  go_enter Tryd.func74, Tryd.ntmps74
  go_wp2
  go_loopw [7] (fun i W => ∃ k : Nat, k ≤ m ∧ i = .int .i64 k ∧ (∀ i, i < k → 0 ≤ pl.getD i 0 ∧ pl.getD i 0 < 24) ∧ W = w) (fun i _ => m - (intOf i).toNat)
  case atStart => exact ⟨0, Nat.zero_le _, rfl, fun i hi => absurd hi (Nat.not_lt_zero _), rfl⟩
  case round =>
    obtain ⟨k, hk, rfl, hall, rfl⟩ := hrel
    have AL := Lib.hid hall
    clear hall
    by_cases hlt : k < m
    case neg =>
      obtain rfl : m = k := by omega
      have Y := Lib.hid (show decide (AllP pl) = true from decide_eq_true (fun i hi => AL.out i (by rw [hl.out] at hi; exact hi)))
      have i1 : ¬ (m : Int) < (m : Int) := by omega
      go_wp2
      go_ret
      exact ⟨ret_b Y.out, rfl⟩
    have i1 : (k : Int) < (m : Int) := by omega
    have i0 : (0 : Int) ≤ (k : Int) := by omega
    obtain ⟨b, off, v, rfl, hb, hz, hck⟩ := H.out.at_z hlt
    by_cases hin : 0 ≤ v ∧ v < 24
    · have NX := Lib.hid (show ∀ i, i < k + 1 → 0 ≤ pl.getD i 0 ∧ pl.getD i 0 < 24 from fun i hi => by
        by_cases e : i = k
        · subst e; rw [hz]; exact hin
        · exact AL.out i (by omega))
      clear hz
      go_wp2_with fail
      refine (isPerm4_yes v _ hin.1 hin.2).mono ?_
      rintro e w1 ⟨rfl, rfl⟩
      clear hin
      go_wp2
      go_roundw
      case rel => exact ⟨k + 1, by omega, by go_num, NX.out, by first | rfl | trivial⟩
      case measure => simp [intOf]; omega
    · have NO := Lib.hid (show decide (AllP pl) = false from decide_eq_false fun e => hin (by rw [← hz]; exact e k (by rw [hl.out]; exact hlt)))
      clear hz
      go_wp2_with fail
      refine (isPerm4_no v _ hin).mono ?_
      rintro e w1 ⟨rfl, rfl⟩
      clear hin
      go_wp2
      go_ret
      exact ⟨ret_b NO.out, rfl⟩

set_option maxRecDepth 100000 in
set_option maxHeartbeats 4000000 in
theorem perm_spec (n : Nat) (A : Option Addr) (m c : Nat) (z : List Int) (w : World) (h : Ints w w.heap.size A m z) (hm : m ≤ 1048576) (hn : n ≤ 8) :
    Calls Tryd.prog 104 #[.slice A m c, .int .i64 n] w fun e w' => e = .returned (.bool (decide (Rp.Pm (n : Int) z))) ∧ Below w.heap.size w w' := by
  have hl := Lib.hid h.1
  have H := Lib.hid h
  clear h
  have MK := run_make_bools n (by omega)
  have wn : IntKind.i64.wrap ((n : Int) - 1) = (n : Int) - 1 := IntWalk.i64_in _ (by omega)
  go_enter Tryd.func104, Tryd.ntmps104
  go_wp2
  go_loopw [6] (fun i W => ∃ (k : Nat) (d : List Bool), k ≤ m ∧ i = .int .i64 k ∧ BlkB W w.heap.size d ∧ d.length = n ∧ PmK (n : Int) z k ∧ (∀ y, y < n → (d.getD y false = true ↔ ∃ j, j < k ∧ z.getD j 0 = (y : Int))) ∧ Below w.heap.size w W) (fun i _ => m - (intOf i).toNat)
  case atStart => exact ⟨0, List.replicate n false, Nat.zero_le _, rfl, by (have h9 := heap_alloc_new w (Obj.cells (Array.replicate n (Value.bool false)) 4)); unfold BlkB; simpa using h9, by simp, fun i hi => absurd hi (Nat.not_lt_zero _), fun y hy => by
    constructor
    · intro e; rw [List.getD_eq_getElem?_getD, List.getElem?_replicate, if_pos hy] at e; cases e
    · rintro ⟨j, hj, _⟩; exact absurd hj (Nat.not_lt_zero _), al1 _ _⟩
  case round =>
    obtain ⟨k, d, hk, rfl, hbk, hdl, hpk, hfd, hbel⟩ := hrel
    have BK := Lib.hid hbk
    have PK := Lib.hid hpk
    have FD := Lib.hid hfd
    have DB := Lib.hid hbel
    have DL := Lib.hid hdl
    have bl := hbk.lt
    have i0 : (0 : Int) ≤ (k : Int) := by omega
    clear hbk hpk hfd hbel hdl
    by_cases hlt : k < m
    case neg =>
      obtain rfl : m = k := by omega
      have i1 : ¬ (m : Int) < (m : Int) := by omega
      have R := Lib.hid (show decide (Rp.Pm (n : Int) z) = decide ((m : Int) = n) from by
        refine decide_eq_decide.2 ⟨fun e => by have := e.1; rw [hl.out] at this; exact this, fun e => ⟨by rw [hl.out]; exact e, fun i hi => PK.out i (by rw [hl.out] at hi; exact hi)⟩⟩)
      have e1 : ((m : Int) == (n : Int)) = decide ((m : Int) = n) := by
        by_cases e : (m : Int) = n
        · rw [decide_eq_true e]; simpa using e
        · rw [decide_eq_false e]; simpa using e
      go_wp2
      go_ret
      exact ⟨by rw [R.out, ← e1]; rfl, DB.out⟩
    have i1 : (k : Int) < (m : Int) := by omega
    obtain ⟨b, off, v, rfl, hb, hz, hck⟩ := (H.out.below DB.out).at_z hlt
    have Z := Lib.hid hz
    clear hz
    by_cases hin : 0 ≤ v ∧ v < n
    case neg =>
      have NO := Lib.hid (show decide (Rp.Pm (n : Int) z) = false from by
        rw [decide_eq_false_iff_not]
        intro hp
        have := (hp.2 k (by rw [hl.out]; exact hlt)).1
        rw [Z.out] at this
        exact hin this)
      go_wp2_with fail
      refine (in_spec_no v 0 ((n : Int) - 1) _ (by omega)).mono ?_
      rintro e w1 ⟨rfl, rfl⟩
      clear hin
      go_wp2
      go_ret
      exact ⟨ret_b NO.out, DB.out⟩
    obtain ⟨y, rfl⟩ : ∃ y : Nat, v = y := ⟨v.toNat, by omega⟩
    have hy : y < n := by omega
    have hcy := BK.out.cell (i := y) (by rw [DL.out]; exact hy)
    have hfy := BK.out.frozen y
    obtain ⟨bv, hbv⟩ : ∃ bv, d.getD y false = bv := ⟨_, rfl⟩
    have BV := Lib.hid hbv
    rw [hbv] at hcy
    have y0 : (0 : Int) ≤ (y : Int) := by omega
    have y1 : (y : Int) < (n : Int) := by omega
    clear hbv hin
    go_wp2_with fail
    refine (in_spec_yes (y : Int) 0 ((n : Int) - 1) _ (by omega) (by omega)).mono ?_
    rintro e w1 ⟨rfl, rfl⟩
    cases bv
    · have NP := Lib.hid (show PmK (n : Int) z (k + 1) from PK.out.snoc (by rw [Z.out]; omega) fun j hj e => by
        have := (FD.out y hy).2 ⟨j, hj, by rw [← Z.out]; exact e⟩
        rw [BV.out] at this
        cases this)
      have NF := Lib.hid (show ∀ x, x < n → ((d.set y true).getD x false = true ↔ ∃ j, j < k + 1 ∧ z.getD j 0 = (x : Int)) from fun x hx => by
        rw [getD_setB (by rw [DL.out]; exact hx)]
        by_cases e : y = x
        · subst e
          rw [if_pos rfl]
          exact ⟨fun _ => ⟨k, by omega, Z.out⟩, fun _ => rfl⟩
        · rw [if_neg e, FD.out x hx]
          constructor
          · rintro ⟨j, hj, hj2⟩; exact ⟨j, by omega, hj2⟩
          · rintro ⟨j, hj, hj2⟩
            by_cases e2 : j = k
            · rw [e2, Z.out] at hj2; omega
            · exact ⟨j, by omega, hj2⟩)
      go_wp2
      go_roundw
      case rel => exact ⟨k + 1, _, by omega, by go_num, BK.out.set_ _ _, by rw [List.length_set]; exact DL.out, NP.out, NF.out, DB.out.setCell (Nat.le_refl _) _⟩
      case measure => simp [intOf]; omega
    · have NO := Lib.hid (show decide (Rp.Pm (n : Int) z) = false from by
        rw [decide_eq_false_iff_not]
        intro hp
        obtain ⟨j, hj, e⟩ := (FD.out y hy).1 BV.out
        exact (hp.2 k (by rw [hl.out]; exact hlt)).2 j hj (e.trans Z.out.symm))
      go_wp2
      go_ret
      exact ⟨ret_b NO.out, DB.out⟩

set_option maxRecDepth 100000 in
set_option maxHeartbeats 4000000 in
theorem labels_spec (AT : Option Addr) (n c : Nat) (A : Option Addr) (m cm : Nat) (zl : List Int) (B : Option Addr) (p cp : Nat) (pl : List Int) (w : World) (h : Ints w w.heap.size A m zl) (h2 : Ints w w.heap.size B p pl) (hm : m ≤ 1048576) (hp : p ≤ 1048576) (hn : n ≤ 8) :
    Calls Tryd.prog 71 #[.agg #[.slice AT n c], .slice A m cm, .slice B p cp] w fun e w' => e = .returned (.bool (decide (Rp.Pm (n : Int) zl ∧ p = n ∧ AllP pl))) ∧ Below w.heap.size w w' := by
  have hl := Lib.hid h2.1
  have H := Lib.hid h
  have H2 := Lib.hid h2
  clear h h2
  obtain ⟨U, hU⟩ : ∃ U, U = w.alloc (Obj.cells #[.slice AT n c] 28) := ⟨_, rfl⟩
  have hB : Below w.heap.size w U := by rw [hU]; exact al1 w _
  have k0 : U.cell? ⟨w.heap.size, 0, none⟩ = some (.slice AT n c) := by rw [hU]; simp [go_sem]
  have HU := Lib.hid (H.out.into hB)
  have H2U := Lib.hid (H2.out.into hB)
  have DU := Lib.hid hB
  have z : w.heap.size < U.heap.size := by rw [hU]; simp
  clear hB
  go_enter Tryd.func71, Tryd.ntmps71
  go_wp2
  rw [← hU]
  clear hU
  go_loopw [7] (fun i W => ∃ k : Nat, k ≤ p ∧ i = .int .i64 k ∧ (∀ i, i < k → 0 ≤ pl.getD i 0 ∧ pl.getD i 0 < 24) ∧ W = U) (fun i _ => p - (intOf i).toNat)
  case atStart => exact ⟨0, Nat.zero_le _, rfl, fun i hi => absurd hi (Nat.not_lt_zero _), rfl⟩
  case round =>
    obtain ⟨k, hk, rfl, hall, rfl⟩ := hrel
    have AL := Lib.hid hall
    clear hall
    have i0 : (0 : Int) ≤ (k : Int) := by omega
    by_cases hlt : k < p
    case neg =>
      obtain rfl : p = k := by omega
      have Y := Lib.hid (show AllP pl from fun i hi => AL.out i (by rw [hl.out] at hi; exact hi))
      have i1 : ¬ (p : Int) < (p : Int) := by omega
      have e1 : ((p : Int) == (n : Int)) = decide (p = n) := by
        by_cases e : p = n
        · rw [decide_eq_true e]; simp [e]
        · rw [decide_eq_false e]; simp; omega
      go_wp2_with fail
      refine (perm_spec n A m cm _ _ HU.out hm hn).mono ?_
      rintro e w1 ⟨rfl, hb⟩
      have k0 := (hb.cell (p := ⟨w.heap.size, 0, none⟩) (by dsimp only; omega)).trans k0
      have D1 := Lib.hid (DU.out.trans (hb.mono (by omega)))
      clear hb
      by_cases hpm : Rp.Pm (n : Int) zl
      · rw [decide_eq_true hpm]
        have R := Lib.hid (show decide (Rp.Pm (n : Int) zl ∧ p = n ∧ AllP pl) = decide (p = n) from decide_eq_decide.2 ⟨fun e => e.2.1, fun e => ⟨hpm, e, Y.out⟩⟩)
        clear hpm
        go_wp2
        go_ret
        exact ⟨by rw [R.out, ← e1]; rfl, D1.out⟩
      · rw [decide_eq_false hpm]
        have R := Lib.hid (show decide (Rp.Pm (n : Int) zl ∧ p = n ∧ AllP pl) = false from decide_eq_false fun e => hpm e.1)
        clear hpm
        go_wp2
        go_ret
        exact ⟨ret_b R.out, D1.out⟩
    have i1 : (k : Int) < (p : Int) := by omega
    obtain ⟨b, off, v, rfl, hb, hz, hck⟩ := H2U.out.at_z hlt
    by_cases hin : 0 ≤ v ∧ v < 24
    · have NX := Lib.hid (show ∀ i, i < k + 1 → 0 ≤ pl.getD i 0 ∧ pl.getD i 0 < 24 from fun i hi => by
        by_cases e : i = k
        · subst e; rw [hz]; exact hin
        · exact AL.out i (by omega))
      clear hz
      go_wp2_with fail
      refine (l06Valid_yes v _ hin.1 hin.2).mono ?_
      rintro e w1 ⟨rfl, rfl⟩
      clear hin
      go_wp2
      go_roundw
      case rel => exact ⟨k + 1, by omega, by go_num, NX.out, by first | rfl | trivial⟩
      case measure => simp [intOf]; omega
    · have NO := Lib.hid (show decide (Rp.Pm (n : Int) zl ∧ p = n ∧ AllP pl) = false from decide_eq_false fun e => hin (by rw [← hz]; exact e.2.2 k (by rw [hl.out]; exact hlt)))
      clear hz
      go_wp2_with fail
      refine (l06Valid_no v _ hin).mono ?_
      rintro e w1 ⟨rfl, rfl⟩
      clear hin
      go_wp2
      go_ret
      exact ⟨ret_b NO.out, DU.out⟩
end Fc
end Go.Proofs.YtajbahfbldmckaaDoor

namespace Go.Proofs.YtajbahfbldmckaaDoor
open Go

section
variable {P : Program} {ops : Array Oper} {Q : Exit → Act → World → Prop} {md : Region.Mode} {S : World → Prop} {N : List Nat}

/-- Whether some load of N might come behind number j. -/
def asksS (md : Region.Mode) (ops : Array Oper) (N : List Nat) (j : Nat) : Bool := N.any fun k => !Region.waitsFor md ops j k
/-- Whatever order is drawn; behind each operation that a load may follow the world meets S. -/
def wpN (P : Program) (md : Region.Mode) (ops : Array Oper) (Q : Exit → Act → World → Prop) (S : World → Prop) (N : List Nat) : Nat → Array Bool → Act → World → Prop
  | 0, l, a, w => Region.ready md ops l = [] ∧ Q .normal a w
  | f + 1, l, a, w => (Region.ready md ops l = [] → Q .normal a w) ∧ ∀ j ∈ Region.ready md ops l, wpOp P ops Q j (fun a' w' => (asksS md ops N j = true → S w') ∧ wpN P md ops Q S N f (l.setIfInBounds j true) a' w') a w

theorem wpAny_of_N : ∀ (f : Nat) (l : Array Bool) (a : Act) (w : World), wpN P md ops Q S N f l a w → wpAny P md ops Q f l a w := by
  intro f
  induction f with
  | zero => exact fun _ _ _ h => h
  | succ f ih => exact fun l a w h => ⟨h.1, fun j hj => wpOp_mono (fun a' w' hk => ih _ a' w' hk.2) (h.2 j hj)⟩

theorem asks_of_ready {i j : Nat} {l : Array Bool} (hN : i ∈ N) (hi : i ∈ Region.ready md ops l) (hj : j ∈ Region.ready md ops l) : asksS md ops N j = true := by
  refine List.any_eq_true.2 ⟨i, hN, ?_⟩
  cases hw : Region.waitsFor md ops j i with
  | false => rfl
  | true =>
    obtain ⟨oj, hoj, e, he, hb, hon⟩ := Region.waitsFor_spec hw
    obtain ⟨_, oj', hoj', hall⟩ := mem_ready.1 hj
    obtain rfl : oj = oj' := Option.some.inj (hoj.symm.trans hoj')
    have h1 := hall e he hb
    rw [hon, getD_both (mem_ready.1 hi).1] at h1
    cases h1

/-- A load of N is taken first. -/
theorem wpN_first {i : Nat} {oi : Oper} {v : Value} (hi : ops[i]? = some oi) (hN : i ∈ N) (hsel : ∀ (j : Nat) (o : Oper) cs b, ops[j]? = some o → o.op ≠ .select cs b)
    (hQ : ∀ c a w, Q (.panic c) (a.put oi.dst v) w → Q (.panic c) a w) (f : Nat) :
    ∀ (l : Array Bool) (a : Act) (w : World), (∀ j oj, ops[j]? = some oj → j ≠ i → l.getD j true = false → (∀ e ∈ oj.after, Region.binds md e = true → e.on ≠ i) → oi.apart ops oj = true) →
      i ∈ Region.ready md ops l → YieldsIf P ops S oi v a → S w → wpN P md ops Q S N f (l.setIfInBounds i true) (a.put oi.dst v) w → wpN P md ops Q S N (f + 1) l a w := by
  induction f with
  | zero =>
    intro l a w _ hr hy hS H
    refine ⟨fun h => absurd hr (by rw [h]; exact List.not_mem_nil), fun j hj => ?_⟩
    by_cases e : j = i
    · rw [e]
      exact hy.wpOp hi hS ⟨fun _ => hS, H⟩
    · have h2 := ready_mono hj e
      rw [H.1] at h2
      exact absurd h2 List.not_mem_nil
  | succ f ih =>
    intro l a w hf hr hy hS H
    refine ⟨fun h => absurd hr (by rw [h]; exact List.not_mem_nil), fun j hj => ?_⟩
    by_cases e : j = i
    · rw [e]
      exact hy.wpOp hi hS ⟨fun _ => hS, H⟩
    have hask := asks_of_ready hN hr hj
    obtain ⟨hlj, oj, hoj, hall⟩ := mem_ready.1 hj
    have hfree : ∀ x ∈ oj.after, Region.binds md x = true → x.on ≠ i := fun x hx hb hon => by
      have h1 := hall x hx hb
      rw [hon, getD_both (mem_ready.1 hr).1] at h1
      cases h1
    refine wpOp_mono (fun a' w' hk => ?_) (wpOp_putIf hoj (hf j oj hoj e hlj hfree) (fun cs b => hsel i oi cs b hi) (fun cs b => hsel j oj cs b hoj) hQ hy (H.2 j (ready_mono hj e)))
    refine ⟨fun _ => hk.2.1 hask, ih _ a' w' (fun k ok hk1 hk2 hk3 hk4 => hf k ok hk1 hk2 ?_ hk4) (ready_mono hr (Ne.symm e)) hk.1 (hk.2.1 hask) ?_⟩
    · by_cases e2 : j = k
      · rw [← e2]; exact hlj
      · rw [getD_set_ne true e2] at hk3; exact hk3
    · rw [Array.setIfInBounds_comm _ _ e]
      exact hk.2.2
theorem wpN_take {i : Nat} {oi : Oper} {v : Value} {f : Nat} {l : Array Bool} {a : Act} {w : World} (hi : ops[i]? = some oi) (hN : N.contains i = true) (hs : Region.noSelect ops = true) (hf : Region.free md ops l i = true) (hr : (Region.ready md ops l).contains i = true)
    (hQ : ∀ c a w, Q (.panic c) (a.put oi.dst v) w → Q (.panic c) a w) (hy : YieldsIf P ops S oi v a) (hS : S w) (h : wpN P md ops Q S N f (l.setIfInBounds i true) (a.put oi.dst v) w) : wpN P md ops Q S N (f + 1) l a w :=
  wpN_first hi (by simpa using hN) (Region.noSelect_spec hs) hQ f l a w (Region.free_spec hi hf) (by simpa using hr) hy hS h
/-- One operation alone may come up. -/
theorem wpN_one {j : Nat} {o : Oper} {f : Nat} {l : Array Bool} {a : Act} {w : World} (hr : Region.ready md ops l = [j]) (ho : ops[j]? = some o)
    (h : ∀ K : Act → World → Prop, (∀ a' w', (asksS md ops N j = true → S w') → wpN P md ops Q S N f (l.setIfInBounds j true) a' w' → K a' w') → if Region.wanted o (yielded ops a.tmps) = true then Oper.wp P o a w K Q else K (a.put o.dst undef) w) : wpN P md ops Q S N (f + 1) l a w := by
  refine ⟨(fun h0 => by rw [hr] at h0; cases h0), fun k hk => ?_⟩
  rw [hr] at hk
  obtain rfl : k = j := by simpa using hk
  have h1 := h (fun a' w' => (asksS md ops N k = true → S w') ∧ wpN P md ops Q S N f (l.setIfInBounds k true) a' w') (fun a' w' h2 h3 => ⟨h2, h3⟩)
  unfold wpOp
  simp only [ho]
  split
  · rename_i hw; rw [if_pos hw] at h1; exact .inl h1
  · rename_i hw; rw [if_neg hw] at h1; exact h1
/-- All have come up. -/
theorem wpN_done {f : Nat} {l : Array Bool} {a : Act} {w : World} (hr : Region.ready md ops l = []) (h : Q .normal a w) : wpN P md ops Q S N f l a w := by
  cases f with
  | zero => exact ⟨hr, h⟩
  | succ f => exact ⟨fun _ => h, (fun k hk => by rw [hr] at hk; cases hk)⟩
/-- The beginning, in a program under 'wide'. -/
theorem wp_region_N (S : World → Prop) (N : List Nat) {id : Nat} {a : Act} {w : World} (hm : P.follows .mixedOrders = true) (h : wpN P .any ops Q S N ops.size (Array.replicate ops.size false) a w.drew) : (Code.region id ops true).wp P Q a w :=
  wp_region_any hm (wpAny_of_N _ _ _ _ h)
end

end Go.Proofs.YtajbahfbldmckaaDoor

namespace Go.Proofs.YtajbahfbldmckaaDoor
open Go.RowKit
namespace Fc

set_option maxRecDepth 100000 in
set_option maxHeartbeats 8000000 in
theorem addTets_impl (bb mb k : Nat) (A : Option Addr) (c : Nat) (rs : List Rw) (w : World) (h : Bld w bb mb A c rs) (hv : Vs w) (hb1 : 3 < bb) (hn : rs.length + k ≤ 1048576) (F : Nat → Prop) (hF : ∀ b0, F b0 → b0 < w.heap.size ∧ b0 ≠ bb) (hFA : Apt F A rs) :
    Calls Tryd.prog 50 #[.pointer (some ⟨bb, 0, none⟩), .int .i64 k] w fun e w' => e = .returned (.tuple #[]) ∧ (∃ A' c' rs', Bld w' bb mb A' c' rs' ∧ vals rs' = vals rs ++ List.replicate k fr ∧ Apt F A' rs' ∧ ∀ b0, F b0 → w'.heap[b0]? = w.heap[b0]?) ∧ Below bb w w' := by
  have hlt := h.lt
  have START := Lib.hid h
  have HV := Lib.hid hv
  have FF := Lib.hid hF
  have FA := Lib.hid hFA
  clear h hv hF hFA
  go_enter Tryd.func50, Tryd.ntmps50
  go_wp2
  go_loopw [5] (fun i W => ∃ (j : Nat) (A' : Option Addr) (c' : Nat) (rs' : List Rw), j ≤ k ∧ i = .int .i64 j ∧ Bld W bb mb A' c' rs' ∧ vals rs' = vals rs ++ List.replicate j fr ∧ (Apt F A' rs' ∧ ∀ b0, F b0 → W.heap[b0]? = w.heap[b0]?) ∧ Below bb w W) (fun i _ => k - (intOf i).toNat)
  case atStart => exact ⟨0, A, c, rs, Nat.zero_le _, rfl, START.out, by simp, ⟨FA.out, fun _ _ => rfl⟩, Below.refl _ _⟩
  case round =>
    obtain ⟨j, A', c', rs', hj, rfl, hB, hV, ⟨hap, hsm⟩, hbel⟩ := hrel
    have AP := Lib.hid hap
    have SM := Lib.hid hsm
    have BD := Lib.hid hB
    have VL := Lib.hid hV
    have BW := Lib.hid hbel
    have j0 : (0 : Int) ≤ (j : Int) := by omega
    have hls : rs'.length ≤ 1048576 := by
      have := congrArg List.length hV
      rw [vals_len] at this
      simp [vals_len] at this
      omega
    clear hB hV hbel hap hsm
    by_cases hlj : j < k
    case neg =>
      obtain rfl : j = k := by omega
      have i1 : ¬ (j : Int) < (j : Int) := by omega
      go_wp2
      refine bodyPost_end (results_none rfl _ _ _) rfl ?_
      exact ⟨rfl, ⟨A', c', rs', BD.out, VL.out, AP.out, SM.out⟩, BW.out⟩
    have i1 : (j : Int) < (k : Int) := by omega
    have g0 := BD.out.cell
    have g1 := BD.out.free
    have gm := BD.out.map
    have zl := BD.out.lt
    obtain ⟨v0, v1⟩ := (HV.out.below BW.out hb1).2
    have vz := HV.out.pos.2
    have zb := BW.out.size
    have NX := Lib.hid (show vals rs ++ List.replicate (j + 1) fr = (vals rs ++ List.replicate j fr) ++ [fr] from by rw [List.replicate_succ', List.append_assoc])
    go_wp2_with fail
    refine wp_region_N (fun W => W.cell? ⟨bb, 0, none⟩ = some (.slice A' rs'.length c') ∧ W.cell? ⟨0, 0, none⟩ = some (.int .i64 (-1)) ∧ W.cell? ⟨0, 1, none⟩ = some (.int .i64 0)) [0, 1, 2, 3, 4, 5, 6, 7, 8] (by kernel_rfl) ?_
    have hS : (fun W : World => W.cell? ⟨bb, 0, none⟩ = some (.slice A' rs'.length c') ∧ W.cell? ⟨0, 0, none⟩ = some (.int .i64 (-1)) ∧ W.cell? ⟨0, 1, none⟩ = some (.int .i64 0)) wr.drew := ⟨g0, v0, v1⟩
    refine wpN_take (i := 0) (oi := { dst := some 7, op := .move (.tmp 0), type := _, pos := _, after := _, guard := _ }) (v := ?_) rfl (by kernel_rfl) (by kernel_rfl) (by kernel_rfl) (by kernel_rfl) (fun _ _ _ h => h) (Or.inl ⟨by rfl, ?_⟩) hS ?_
    rotate_left
    · intro W hW
      obtain ⟨q0, q1, q2⟩ := hW
      go_simp
      try with_reducible rfl
    simp only [Act.put, List.setIfInBounds_toArray, List.set_cons_zero, List.set_cons_succ]
    refine wpN_take (i := 1) (oi := { dst := some 8, op := .move (.tmp 0), type := _, pos := _, after := _, guard := _ }) (v := ?_) rfl (by kernel_rfl) (by kernel_rfl) (by kernel_rfl) (by kernel_rfl) (fun _ _ _ h => h) (Or.inl ⟨by rfl, ?_⟩) hS ?_
    rotate_left
    · intro W hW
      obtain ⟨q0, q1, q2⟩ := hW
      go_simp
      try with_reducible rfl
    simp only [Act.put, List.setIfInBounds_toArray, List.set_cons_zero, List.set_cons_succ]
    refine wpN_take (i := 2) (oi := { dst := some 9, op := .nilCheck (.tmp 8), type := _, pos := _, after := _, guard := _ }) (v := ?_) rfl (by kernel_rfl) (by kernel_rfl) (by kernel_rfl) (by kernel_rfl) (fun _ _ _ h => h) (Or.inl ⟨by rfl, ?_⟩) hS ?_
    rotate_left
    · intro W hW
      obtain ⟨q0, q1, q2⟩ := hW
      go_simp
      try with_reducible rfl
    simp only [Act.put, List.setIfInBounds_toArray, List.set_cons_zero, List.set_cons_succ]
    refine wpN_take (i := 3) (oi := { dst := some 10, op := .fieldAddr _ (.tmp 9) 0, type := _, pos := _, after := _, guard := _ }) (v := ?_) rfl (by kernel_rfl) (by kernel_rfl) (by kernel_rfl) (by kernel_rfl) (fun _ _ _ h => h) (Or.inl ⟨by rfl, ?_⟩) hS ?_
    rotate_left
    · intro W hW
      obtain ⟨q0, q1, q2⟩ := hW
      go_simp
      try with_reducible rfl
    simp only [Act.put, List.setIfInBounds_toArray, List.set_cons_zero, List.set_cons_succ]
    refine wpN_take (i := 4) (oi := { dst := some 11, op := .load _ (.tmp 10), type := _, pos := _, after := _, guard := _ }) (v := ?_) rfl (by kernel_rfl) (by kernel_rfl) (by kernel_rfl) (by kernel_rfl) (fun _ _ _ h => h) (Or.inl ⟨by rfl, ?_⟩) hS ?_
    rotate_left
    · intro W hW
      obtain ⟨q0, q1, q2⟩ := hW
      go_simp
      try with_reducible rfl
    simp only [Act.put, List.setIfInBounds_toArray, List.set_cons_zero, List.set_cons_succ]
    refine wpN_take (i := 5) (oi := { dst := some 12, op := .load _ (.global 0), type := _, pos := _, after := _, guard := _ }) (v := ?_) rfl (by kernel_rfl) (by kernel_rfl) (by kernel_rfl) (by kernel_rfl) (fun _ _ _ h => h) (Or.inl ⟨by rfl, ?_⟩) hS ?_
    rotate_left
    · intro W hW
      obtain ⟨q0, q1, q2⟩ := hW
      go_simp
      try with_reducible rfl
    simp only [Act.put, List.setIfInBounds_toArray, List.set_cons_zero, List.set_cons_succ]
    refine wpN_take (i := 6) (oi := { dst := some 13, op := .load _ (.global 0), type := _, pos := _, after := _, guard := _ }) (v := ?_) rfl (by kernel_rfl) (by kernel_rfl) (by kernel_rfl) (by kernel_rfl) (fun _ _ _ h => h) (Or.inl ⟨by rfl, ?_⟩) hS ?_
    rotate_left
    · intro W hW
      obtain ⟨q0, q1, q2⟩ := hW
      go_simp
      try with_reducible rfl
    simp only [Act.put, List.setIfInBounds_toArray, List.set_cons_zero, List.set_cons_succ]
    refine wpN_take (i := 7) (oi := { dst := some 14, op := .load _ (.global 0), type := _, pos := _, after := _, guard := _ }) (v := ?_) rfl (by kernel_rfl) (by kernel_rfl) (by kernel_rfl) (by kernel_rfl) (fun _ _ _ h => h) (Or.inl ⟨by rfl, ?_⟩) hS ?_
    rotate_left
    · intro W hW
      obtain ⟨q0, q1, q2⟩ := hW
      go_simp
      try with_reducible rfl
    simp only [Act.put, List.setIfInBounds_toArray, List.set_cons_zero, List.set_cons_succ]
    refine wpN_take (i := 8) (oi := { dst := some 15, op := .load _ (.global 0), type := _, pos := _, after := _, guard := _ }) (v := ?_) rfl (by kernel_rfl) (by kernel_rfl) (by kernel_rfl) (by kernel_rfl) (fun _ _ _ h => h) (Or.inl ⟨by rfl, ?_⟩) hS ?_
    rotate_left
    · intro W hW
      obtain ⟨q0, q1, q2⟩ := hW
      go_simp
      try with_reducible rfl
    simp only [Act.put, List.setIfInBounds_toArray, List.set_cons_zero, List.set_cons_succ]
    refine wpN_one (j := 9) (o := { dst := some 16, op := _, type := _, pos := _, after := _, guard := _ }) (by kernel_rfl) rfl ?_
    intro K hK
    go_simp
    refine hK _ _ (fun _ => ⟨((al1 wr _).drew.cell (p := ⟨bb, 0, none⟩) (by dsimp only; omega)).trans g0, ((al1 wr _).drew.cell (p := ⟨0, 0, none⟩) (by dsimp only; omega)).trans v0, ((al1 wr _).drew.cell (p := ⟨0, 1, none⟩) (by dsimp only; omega)).trans v1⟩) ?_
    clear hK K
    try simp only [Act.put, List.setIfInBounds_toArray, List.set_cons_zero, List.set_cons_succ]
    refine wpN_one (j := 10) (o := { dst := some 17, op := _, type := _, pos := _, after := _, guard := _ }) (by kernel_rfl) rfl ?_
    intro K hK
    go_simp
    refine hK _ _ (fun _ => ⟨((al2 wr _ _).drew.cell (p := ⟨bb, 0, none⟩) (by dsimp only; omega)).trans g0, ((al2 wr _ _).drew.cell (p := ⟨0, 0, none⟩) (by dsimp only; omega)).trans v0, ((al2 wr _ _).drew.cell (p := ⟨0, 1, none⟩) (by dsimp only; omega)).trans v1⟩) ?_
    clear hK K
    try simp only [Act.put, List.setIfInBounds_toArray, List.set_cons_zero, List.set_cons_succ]
    refine wpN_one (j := 11) (o := { dst := some 18, op := _, type := _, pos := _, after := _, guard := _ }) (by kernel_rfl) rfl ?_
    intro K hK
    refine step_push_row3 (by rfl) _ _ (by rfl) (bb + 1) wr.heap.size wr.heap.size c' rs'.length (wr.heap.size + 1) A' rs' ⟨some ⟨wr.heap.size, 0, none⟩, 4, fr⟩ (by rfl) rfl (by exact BD.out.own.below ((al2 wr _ _).drew) (Nat.le_refl _)) (by rfl) (by rw [sv_fr]; exact (show ((wr.alloc (Obj.cells #[.int .i64 (-1), .int .i64 0, .int .i64 (-1), .int .i64 0, .int .i64 (-1), .int .i64 0, .int .i64 (-1), .int .i64 0] 72)).alloc (Obj.cells #[.slice (some ⟨wr.heap.size, 0, none⟩) 4 4] 61)).cell? _ = _ from Wd.alloc_first (wr.alloc _) (wr.heap.size + 1) _ _ (by simp))) (by exact Rw.In.wide (Rw.In.keep (w' := ((wr.alloc (Obj.cells #[.int .i64 (-1), .int .i64 0, .int .i64 (-1), .int .i64 0, .int .i64 (-1), .int .i64 0, .int .i64 (-1), .int .i64 0] 72)).alloc (Obj.cells #[.slice (some ⟨wr.heap.size, 0, none⟩) 4 4] 61)).drew) (free_in wr (Obj.cells #[.slice (some ⟨wr.heap.size, 0, none⟩) 4 4] 61)) (fun _ _ _ => rfl)) (Nat.le_refl _) (show wr.heap.size + 1 ≤ ((wr.alloc (Obj.cells #[.int .i64 (-1), .int .i64 0, .int .i64 (-1), .int .i64 0, .int .i64 (-1), .int .i64 0, .int .i64 (-1), .int .i64 0] 72)).alloc (Obj.cells #[.slice (some ⟨wr.heap.size, 0, none⟩) 4 4] 61)).heap.size from by simp)) (Nat.le_refl _) (by omega) (by simp; omega) (by simp; omega) (by omega) F (fun b0 hb0 => ⟨by have := (FF.out b0 hb0).1; omega, by have := (FF.out b0 hb0).1; simp; omega, (AP.out b0 hb0).1, (AP.out b0 hb0).2⟩) ?_
    intro A8 c8 w8 h5 h6 h7
    have X8 := Lib.hid (show ∀ b0, F b0 → w8.heap[b0]? = w.heap[b0]? from fun b0 hb0 => (h7 b0 hb0).1.trans (((al2 wr _ _).drew.block b0 (by have := (FF.out b0 hb0).1; omega)).trans (SM.out b0 hb0)))
    have P8 := Lib.hid (show Apt F A8 (rs' ++ [⟨some ⟨wr.heap.size, 0, none⟩, 4, fr⟩]) from fun b0 hb0 => (h7 b0 hb0).2)
    have O8 := Lib.hid h5
    have s8 := h6.size
    have e8 := (World.cell?_of_block (a := ⟨bb, 0, none⟩) (h6.block bb (by first | (simp; done) | (simp; omega)) (by omega))).trans (((al2 wr _ _).drew.cell (p := ⟨bb, 0, none⟩) (by dsimp only; omega)).trans g0)
    have m8 := (World.cell?_of_block (a := ⟨bb, 1, none⟩) (h6.block bb (by first | (simp; done) | (simp; omega)) (by omega))).trans (((al2 wr _ _).drew.cell (p := ⟨bb, 1, none⟩) (by dsimp only; omega)).trans gm)
    have q0 := (World.cell?_of_block (a := ⟨0, 0, none⟩) (h6.block 0 (by first | (simp; done) | (simp; omega)) (by omega))).trans (((al2 wr _ _).drew.cell (p := ⟨0, 0, none⟩) (by dsimp only; omega)).trans v0)
    have q1 := (World.cell?_of_block (a := ⟨0, 1, none⟩) (h6.block 0 (by first | (simp; done) | (simp; omega)) (by omega))).trans (((al2 wr _ _).drew.cell (p := ⟨0, 1, none⟩) (by dsimp only; omega)).trans v1)
    have f8 := (World.frozen?_of_block (a := ⟨bb, 0, none⟩) (h6.block bb (by simp; omega) (by omega))).trans (((al2 wr _ _).drew.frozen (p := ⟨bb, 0, none⟩) (by dsimp only; omega)).trans g1)
    have B8 := Lib.hid (BW.out.trans (((al2 wr _ _).drew.mono (by omega)).trans (h6.below (by omega) (by simp; omega))))
    refine hK _ _ (fun _ => ⟨e8, q0, q1⟩) ?_
    clear hK K h5 h6 h7
    try simp only [Act.put, List.setIfInBounds_toArray, List.set_cons_zero, List.set_cons_succ]
    refine wpN_one (j := 12) (o := { dst := some 19, op := _, type := _, pos := _, after := _, guard := _ }) (by kernel_rfl) rfl ?_
    intro K hK
    go_simp
    refine hK _ _ (fun h => absurd h (Bool.eq_false_iff.1 (by kernel_rfl))) ?_
    clear hK K
    try simp only [Act.put, List.setIfInBounds_toArray, List.set_cons_zero, List.set_cons_succ]
    refine wpN_one (j := 13) (o := { dst := some 20, op := _, type := _, pos := _, after := _, guard := _ }) (by kernel_rfl) rfl ?_
    intro K hK
    go_simp
    refine hK _ _ (fun h => absurd h (Bool.eq_false_iff.1 (by kernel_rfl))) ?_
    clear hK K
    try simp only [Act.put, List.setIfInBounds_toArray, List.set_cons_zero, List.set_cons_succ]
    refine wpN_one (j := 14) (o := { dst := none, op := _, type := _, pos := _, after := _, guard := _ }) (by kernel_rfl) rfl ?_
    intro K hK
    go_simp
    refine hK _ _ (fun h => absurd h (Bool.eq_false_iff.1 (by kernel_rfl))) ?_
    clear hK K
    refine wpN_done (by kernel_rfl) ?_
    go_wp2
    go_roundw
    case rel => exact ⟨j + 1, A8, c8, rs' ++ [⟨some ⟨wr.heap.size, 0, none⟩, 4, fr⟩], by omega, by go_num, ⟨by rw [List.length_append]; exact World.cell?_setCell_same' _ _ _ (by rw [e8]; rfl), by simpa [go_sem] using m8, by simpa [go_sem] using f8, (O8.out.far (p := ⟨bb, 0, none⟩) (.inl (Nat.lt_succ_self _)) _).wide (Nat.le_refl _) (by simp [World.setCell])⟩, by rw [NX.out, ← VL.out, vals, List.map_append]; rfl, ⟨P8.out, fun b0 hb0 => (Below.heap_setCell _ _ _ b0 (by dsimp only; exact (FF.out b0 hb0).2)).trans (X8.out b0 hb0)⟩, B8.out.setCell (Nat.le_refl _) _⟩
    case measure => simp [intOf]; omega

end Fc
end Go.Proofs.YtajbahfbldmckaaDoor

namespace Go.Proofs.YtajbahfbldmckaaDoor
open Go.RowKit Go.Shelf

theorem OwnS.grownC {w w' : World} {lo hi c : Nat} {A : Option Addr} {rs : List Rw} {row : Option Nat} (h : OwnS w lo hi A c rs) (hg : w.grownBy w' row) (hr : ∀ k, row = some k → ∃ o : Obj, w.heap[k]? = some o ∧ o.isCells = false) : OwnS w' lo hi A c rs := by
  refine ⟨⟨h.row.1, ?_⟩, h.top, fun r hr' => ?_, h.off, h.apart⟩
  · rcases h.row.2 with h0 | ⟨g, cap, cur, hv, hb, hgg, q⟩
    · exact .inl h0
    · refine .inr ⟨g, cap, cur, hv, hb, ?_, q⟩
      rw [hg.block g (Array.getElem?_eq_some_iff.1 hgg).1 (fun e => by
        obtain ⟨o, ho, hc⟩ := hr g e.symm
        rw [hgg] at ho
        cases ho
        cases hc)]
      exact hgg
  · have hm := h.mine r hr'
    exact ⟨hm.le, hm.cap, hm.mine.1, fun h0 => by
      obtain ⟨g, off, e, h1, h2, h3⟩ := hm.mine.2 h0
      exact ⟨g, off, e, h1, h2, fun j hj => ⟨cell_kept (h3 j hj).1 hg hr, (frozen_kept (h3 j hj).1 hg hr).trans (h3 j hj).2⟩⟩⟩

namespace Fc
/-- A loop over the faces, as rangeB, its body told that not all have come. -/
theorem rangeC {m : Nat} {g : Operand} {ps : Array Tmp} {assign body : Code} {Q : Exit → Act → World → Prop} {a : Act} {V : World} {n : Nat} (h1 : 4 ≤ m) (Bs n₀ c : Nat) (A : Option Addr) (T : List (List Int)) (h4 : Tr.Four T) (hn : n ≤ 1048576) (hBs : Bs < V.heap.size) (hn₀ : n₀ ≤ V.heap.size)
    (hg : a.eval g = .func (.func 106) #[] #[.pointer (some ⟨Bs, 0, none⟩)]) (hps : 2 = ps.size) (hc : V.cell? ⟨Bs, 0, none⟩ = some (.slice A n c)) (hT : RdT V n₀ A n T)
    (I : List (Ix n) → World → Prop) (hI : OwnFrom V.heap.size I) (h0 : I [] V) (Cx : Ix n → Nat → World → Prop) (hCx : ∀ x Bx, OwnFrom V.heap.size (fun (_ : Unit) W => Cx x Bx W)) (acts : Ix n → Nat → Act)
    (hassign : ∀ (l : Nat) (pre : List (Ix n)) (x : Ix n) (W : World) (K : Act → World → Prop), I pre W → (∀ Bx W', KeepsFrom V.heap.size W W' → Below n₀ W W' → I pre W' → Cx x Bx W' → K (acts x Bx) W') →
      assign.wpIn (Fence.wide.inRound l) (m - 1 - 1) Tryd.prog (Exit.then K (fun _ _ _ => False)) { tmps := (ps.zip (encF T x)).foldl (fun t (p, v) => t.setIfInBounds p v) a.tmps, defers := [] } W)
    (hbody : ∀ (l : Nat) (pre : List (Ix n)) (x : Ix n) (Bx : Nat) (W : World), V.heap.size ≤ l → (∃ r, W.heap[l]? = some (.loop r)) → I pre W → Cx x Bx W → pre.length < n * 4 → body.wpIn (Fence.wide.inRound l) (m - 1 - 1) Tryd.prog (ownPostG V.heap.size (Below n₀) I (fun _ _ _ => False) (pre ++ [x]) W) (acts x Bx) W)
    (hdone : ∀ (D : Nat) (W : World), V.heap.size ≤ D → I (up n (n * 4)) W → W.heap[D]? = some (.deferred (some [])) → Q .normal { a with defers := { target := .collected D, args := #[] } :: a.defers } W) :
    (Code.rangeFunc g ps assign body).wpIn Fence.wide m Tryd.prog Q a V :=
  wpIn_rangeFunc_ownH rfl (by omega) hg trivial (enters_of Tryd.func106 (by kernel_rfl) rfl) (faces_stops Fence.wide _ trivial rfl (by omega) Bs n₀ n c A T h4 hn V hBs hn₀ hc hT) belowK_t (belowK_b hn₀) (Below.refl _ _) (fun _ => hps)
    I (fun _ _ _ => False) hI (fun _ _ _ _ _ hs _ _ => hs) h0 (fun x a' W => ∃ Bx, Cx x Bx W ∧ a' = acts x Bx)
    (fun x a' s X Y row hs hg hr => by obtain ⟨Bx, h, e⟩ := hs; exact ⟨Bx, hCx x Bx s X Y row h hg hr, e⟩)
    (fun l pre x W K hi hK => hassign l pre x W K hi (fun Bx W' k1 k2 k3 k4 => hK _ W' k1 k2 k3 ⟨Bx, k4, rfl⟩))
    (fun l pre x a' W hl hr hi hx hlen => by obtain ⟨Bx, h, rfl⟩ := hx; exact hbody l pre x Bx W hl hr hi h hlen)
    (fun D xs W hD hS hi hK => by subst hS; exact hdone D W hD hi hK)
    (fun D c pre W hD hS hi hK => hi.elim)

end Fc
end Go.Proofs.YtajbahfbldmckaaDoor

namespace Go.Proofs.YtajbahfbldmckaaDoor
open Go.RowKit
namespace Tr

/-- A face is copied into a table, the indices of tetrahedra increased by s. -/
def upd (s : Int) (T : List (List Int)) (n0 : Nat) (Z : List (List Int)) (a f : Nat) : List (List Int) :=
  if tt T a f < 0 then Z else Z.set (n0 + a) (((Z.getD (n0 + a) []).set (f * 2) (tt T a f + s)).set (f * 2 + 1) (pp T a f))
/-- The table behind the faces that have come. -/
def cpy (s : Int) (T : List (List Int)) (n0 : Nat) {n : Nat} (Z : List (List Int)) (pre : List (Fc.Ix n)) : List (List Int) := pre.foldl (fun Z x => upd s T n0 Z (x.1 / 4) (x.1 % 4)) Z
theorem cpy_nil (s : Int) (T : List (List Int)) (n0 : Nat) {n : Nat} (Z : List (List Int)) : cpy s T n0 Z ([] : List (Fc.Ix n)) = Z := rfl
theorem cpy_snoc (s : Int) (T : List (List Int)) (n0 : Nat) {n : Nat} (Z : List (List Int)) (pre : List (Fc.Ix n)) (x : Fc.Ix n) : cpy s T n0 Z (pre ++ [x]) = upd s T n0 (cpy s T n0 Z pre) (x.1 / 4) (x.1 % 4) := by simp [cpy, List.foldl_append]
/-- The shape of a table: its rows behind the n0-th have eight numbers. -/
def Shp (n0 n : Nat) (Z : List (List Int)) : Prop := Z.length = n0 + n ∧ ∀ a, a < n → (Z.getD (n0 + a) []).length = 8
theorem getD_set_list (Z : List (List Int)) (i j : Nat) (r : List Int) : (Z.set i r).getD j [] = if i = j ∧ i < Z.length then r else Z.getD j [] := by
  rw [List.getD_eq_getElem?_getD, List.getD_eq_getElem?_getD, List.getElem?_set]
  by_cases h : i = j
  · subst h
    by_cases h2 : i < Z.length
    · simp [h2]
    · simp [h2]
  · simp [h]
theorem Shp.upd {s : Int} {T : List (List Int)} {n0 n : Nat} {Z : List (List Int)} (h : Shp n0 n Z) (a f : Nat) : Shp n0 n (upd s T n0 Z a f) := by
  unfold Tr.upd
  split
  · exact h
  · refine ⟨by rw [List.length_set]; exact h.1, fun b hb => ?_⟩
    rw [getD_set_list]
    split
    · rename_i e
      rw [List.length_set, List.length_set, e.1]
      exact h.2 b hb
    · exact h.2 b hb
theorem Shp.cpy {s : Int} {T : List (List Int)} {n0 n m : Nat} {Z : List (List Int)} (h : Shp n0 n Z) (pre : List (Fc.Ix m)) : Shp n0 n (cpy s T n0 Z pre) := by
  induction pre generalizing Z with
  | nil => exact h
  | cons x pre ih => exact ih (h.upd _ _)
/-- A row of which m faces have been copied. -/
def ptR (s : Int) (T : List (List Int)) (a m : Nat) : List Int := (List.range 8).map fun j => if j < m * 2 ∧ ¬ tt T a (j / 2) < 0 then (if j % 2 = 0 then tt T a (j / 2) + s else pp T a (j / 2)) else Fc.fr.getD j 0
theorem ptR_len (s : Int) (T : List (List Int)) (a m : Nat) : (ptR s T a m).length = 8 := by simp [ptR]
theorem ptR_zero (s : Int) (T : List (List Int)) (a : Nat) : ptR s T a 0 = Fc.fr := by
  unfold ptR
  simp only [Nat.zero_mul, Nat.not_lt_zero, false_and, if_false]
  rfl
theorem ptR_neg {s : Int} {T : List (List Int)} {a f : Nat} (h : tt T a f < 0) : ptR s T a (f + 1) = ptR s T a f := by
  unfold ptR
  refine List.map_congr_left fun j _ => ?_
  by_cases e : j / 2 = f
  · rw [e]; simp [h]
  · have : j < (f + 1) * 2 ↔ j < f * 2 := by omega
    simp only [this]
theorem ptR_pos {s : Int} {T : List (List Int)} {a f : Nat} (h : ¬ tt T a f < 0) : ptR s T a (f + 1) = ((ptR s T a f).set (f * 2) (tt T a f + s)).set (f * 2 + 1) (pp T a f) := by
  refine List.ext_getElem (by simp [ptR]) fun j h1 h2 => ?_
  rw [ptR_len] at h1
  rw [List.getElem_set, List.getElem_set]
  by_cases e1 : f * 2 + 1 = j
  · rw [if_pos e1]
    have e2 : j / 2 = f := by omega
    have e3 : j % 2 = 1 := by omega
    simp [ptR, e2, h, e3]
    omega
  · rw [if_neg e1]
    by_cases e4 : f * 2 = j
    · rw [if_pos e4]
      have e2 : j / 2 = f := by omega
      have e3 : j % 2 = 0 := by omega
      simp [ptR, e2, h, e3]
      omega
    · rw [if_neg e4]
      have e5 : j < (f + 1) * 2 ↔ j < f * 2 := by omega
      simp [ptR, e5]
/-- The table of which k faces have been copied, behind Z0. -/
def ptT (s : Int) (T Z0 : List (List Int)) (n k : Nat) : List (List Int) := Z0 ++ (List.range n).map fun a => ptR s T a (min 4 (k - a * 4))
theorem ptT_at (s : Int) (T Z0 : List (List Int)) (n k a : Nat) (ha : a < n) : (ptT s T Z0 n k).getD (Z0.length + a) [] = ptR s T a (min 4 (k - a * 4)) := by
  unfold ptT
  rw [List.getD_eq_getElem?_getD, List.getElem?_append_right (by omega)]
  simp [ha]
theorem ptT_zero (s : Int) (T Z0 : List (List Int)) (n : Nat) : ptT s T Z0 n 0 = Z0 ++ List.replicate n Fc.fr := by
  unfold ptT
  congr 1
  refine List.ext_getElem (by simp) fun j h1 h2 => ?_
  simp [ptR_zero]
theorem ptT_step (s : Int) (T Z0 : List (List Int)) (n a f : Nat) (ha : a < n) (hf : f < 4) : upd s T Z0.length (ptT s T Z0 n (a * 4 + f)) a f = ptT s T Z0 n (a * 4 + f + 1) := by
  have hm : min 4 (a * 4 + f - a * 4) = f := by omega
  have hm1 : min 4 (a * 4 + f + 1 - a * 4) = f + 1 := by omega
  have hoth : ∀ b, b ≠ a → min 4 (a * 4 + f + 1 - b * 4) = min 4 (a * 4 + f - b * 4) := fun b hb => by omega
  unfold upd
  split
  · rename_i h
    unfold ptT
    congr 1
    refine List.map_congr_left fun b _ => ?_
    by_cases e : b = a
    · subst e; rw [hm, hm1, ptR_neg h]
    · rw [hoth b e]
  · rename_i h
    rw [ptT_at _ _ _ _ _ _ ha, hm, ← ptR_pos h]
    unfold ptT
    rw [List.set_append_right _ _ (by omega)]
    congr 1
    refine List.ext_getElem (by simp) fun j h1 h2 => ?_
    rw [List.getElem_set]
    by_cases e : Z0.length + a - Z0.length = j
    · rw [if_pos e]
      have e2 : j = a := by omega
      subst e2
      simp [hm1]
    · rw [if_neg e]
      simp [hoth j (by omega)]
theorem cpy_up (s : Int) (T Z0 : List (List Int)) (n k : Nat) (hk : k ≤ n * 4) : cpy s T Z0.length (Z0 ++ List.replicate n Fc.fr) (Fc.up n k) = ptT s T Z0 n k := by
  induction k with
  | zero => rw [ptT_zero]; rfl
  | succ k ih =>
    rw [Fc.up_succ (by omega), cpy_snoc, ih (by omega)]
    have h1 := ptT_step s T Z0 n (k / 4) (k % 4) (by omega) (by omega)
    rw [show k / 4 * 4 + k % 4 = k from by omega] at h1
    exact h1
/-- A triangulation, the indices of its tetrahedra increased by s. -/
def shT (s : Int) (T : List (List Int)) : List (List Int) := (List.range T.length).map fun a => ptR s T a 4
theorem cpy_all (s : Int) (T Z0 : List (List Int)) : cpy s T Z0.length (Z0 ++ List.replicate T.length Fc.fr) (Fc.up T.length (T.length * 4)) = Z0 ++ shT s T := by
  rw [cpy_up _ _ _ _ _ (Nat.le_refl _)]
  unfold ptT shT
  congr 1
  refine List.map_congr_left fun a ha => ?_
  have := List.mem_range.1 ha
  rw [show min 4 (T.length * 4 - a * 4) = 4 from by omega]
/-- Not increased, it is the triangulation. -/
theorem shT_zero {T : List (List Int)} (h : Is T) : shT 0 T = T := by
  refine List.ext_getElem (by simp [shT]) fun a h1 h2 => ?_
  have h8 : (T.getD a []).length = 8 := h.2.1 a h2
  have hg : T.getD a [] = T[a] := by rw [List.getD_eq_getElem?_getD, List.getElem?_eq_getElem h2]; rfl
  simp only [shT, List.getElem_map, List.getElem_range]
  refine List.ext_getElem (by rw [ptR_len, ← hg, h8]) fun j h3 h4 => ?_
  rw [ptR_len] at h3
  have hv : T[a][j] = (T.getD a []).getD j 0 := by rw [hg, List.getD_eq_getElem?_getD, List.getElem?_eq_getElem h4]; rfl
  rw [hv]
  have hf : j / 2 < 4 := by omega
  have e0 : tt T a (j / 2) = (T.getD a []).getD (j / 2 * 2) 0 := rfl
  have e1 : pp T a (j / 2) = (T.getD a []).getD (j / 2 * 2 + 1) 0 := rfl
  by_cases hn : tt T a (j / 2) < 0
  · have hb := (h.bd_iff h2 hf).2 hn
    have hx : (ptR 0 T a 4)[j]'(by rw [ptR_len]; exact h3) = Fc.fr.getD j 0 := by simp [ptR]; intro _ h9; omega
    rw [hx]
    by_cases hj : j % 2 = 0
    · rw [show j = j / 2 * 2 from by omega, ← e0, hb.1]
      obtain h | h | h | h : j / 2 = 0 ∨ j / 2 = 1 ∨ j / 2 = 2 ∨ j / 2 = 3 := by omega
      all_goals rw [h]; rfl
    · rw [show j = j / 2 * 2 + 1 from by omega, ← e1, hb.2]
      obtain h | h | h | h : j / 2 = 0 ∨ j / 2 = 1 ∨ j / 2 = 2 ∨ j / 2 = 3 := by omega
      all_goals rw [h]; rfl
  · by_cases hj : j % 2 = 0
    · have hx : (ptR 0 T a 4)[j]'(by rw [ptR_len]; exact h3) = tt T a (j / 2) := by simp [ptR, hn, hj, h3]
      rw [hx, e0, show j / 2 * 2 = j from by omega]
    · have hx : (ptR 0 T a 4)[j]'(by rw [ptR_len]; exact h3) = pp T a (j / 2) := by simp [ptR, hn, hj, h3]
      rw [hx, e1, show j / 2 * 2 + 1 = j from by omega]
end Tr
end Go.Proofs.YtajbahfbldmckaaDoor

namespace Go.Proofs.YtajbahfbldmckaaDoor
open Go.RowKit Go.Shelf
namespace Fc

theorem OwnS.setFace {w : World} {lo hi c : Nat} {A : Option Addr} {rs : List Rw} (h : OwnS w lo hi A c rs) (hhi : hi ≤ w.heap.size) {j f : Nat} (hj : j < rs.length) (h8 : (rs.getD j nilRw).zs.length = 8) (hf : f < 4) :
    ∃ g gr o cr, (rs.getD j nilRw).A = some ⟨gr, o, none⟩ ∧ A = some ⟨g, 0, none⟩ ∧ (lo ≤ g ∧ g < hi) ∧ w.cell? ⟨g, j, none⟩ = some (.slice (some ⟨gr, o, none⟩) 4 cr) ∧ (lo ≤ gr ∧ gr < hi) ∧ gr ≠ g ∧ (4 ≤ cr ∧ cr ≤ maxLen) ∧
      ((∃ u, w.cell? ⟨gr, o + f * 2, none⟩ = some (.int .i64 u)) ∧ (∃ u, w.cell? ⟨gr, o + f * 2 + 1, none⟩ = some (.int .i64 u)) ∧ w.frozen? ⟨gr, o + f * 2, none⟩ = false ∧ w.frozen? ⟨gr, o + f * 2 + 1, none⟩ = false) ∧
      ∀ t p : Int, OwnS ((w.setCell ⟨gr, o + f * 2, none⟩ (.int .i64 t)).setCell ⟨gr, o + f * 2 + 1, none⟩ (.int .i64 p)) lo hi A c (rs.set j ⟨some ⟨gr, o, none⟩, cr, ((rs.getD j nilRw).zs.set (f * 2) t).set (f * 2 + 1) p⟩) := by
  obtain ⟨g, hA, hg1, hg2, hcell⟩ := h.at_ (by omega)
  obtain ⟨hc, _⟩ := hcell j hj
  obtain ⟨r, hr⟩ : ∃ r, rs.getD j nilRw = r := ⟨_, rfl⟩
  have hmem : r ∈ rs := by rw [← hr]; exact getD_mem hj
  have hin := h.mine r hmem
  rw [hr] at hc h8 ⊢
  obtain ⟨gr, o, eA, b1, b2, b3⟩ := hin.mine.2 (by omega)
  have hoff := h.off r hmem _ hA _ eA (by omega)
  dsimp only at hoff
  have hsv : r.sv = .slice (some ⟨gr, o, none⟩) 4 r.c := by unfold Rw.sv; rw [eA, h8]
  have k0 := b3 (f * 2) (by omega)
  have k1 := b3 (f * 2 + 1) (by omega)
  rw [← Nat.add_assoc] at k1
  refine ⟨g, gr, o, r.c, eA, hA, ⟨hg1, hg2⟩, by rw [hc, hsv], ⟨b1, b2⟩, hoff, ⟨by have := hin.le.1; omega, hin.cap⟩, ⟨⟨_, k0.1⟩, ⟨_, k1.1⟩, k0.2, k1.2⟩, fun t p => ?_⟩
  have hnew : (((r.zs.set (f * 2) t).set (f * 2 + 1) p)).length = r.zs.length := by rw [List.length_set, List.length_set]
  have := h.turn (w' := (w.setCell ⟨gr, o + f * 2, none⟩ (.int .i64 t)).setCell ⟨gr, o + f * 2 + 1, none⟩ (.int .i64 p)) hhi hj hr hnew ?_ ?_
  · rw [eA] at this; exact this
  · refine ⟨rfl, fun _ => ⟨gr, o, eA, b1, b2, fun k hk => ?_⟩⟩
    rw [hnew] at hk
    have kk := b3 k hk
    refine ⟨?_, by rw [World.frozen?_setCell, World.frozen?_setCell]; exact kk.2⟩
    by_cases e1 : k = f * 2 + 1
    · subst e1
      rw [← Nat.add_assoc, World.cell?_setCell_same' _ _ _ (by rw [World.cell?_setCell_other _ _ _ _ (by simp), k1.1]; rfl)]
      congr 2
      rw [List.getD_eq_getElem?_getD, List.getElem?_set]
      simp
      rw [if_pos (by omega)]
      rfl
    · rw [World.cell?_setCell_other _ _ _ _ (by first | (simp; done) | (simp; omega))]
      by_cases e2 : k = f * 2
      · subst e2
        rw [World.cell?_setCell_same' _ _ _ (by rw [k0.1]; rfl)]
        congr 2
        rw [List.getD_eq_getElem?_getD, List.getElem?_set, List.getElem?_set]
        simp
        rw [if_pos (by omega)]
        rfl
      · rw [World.cell?_setCell_other _ _ _ _ (by first | (simp; done) | (simp; omega)), kk.1]
        congr 2
        rw [List.getD_eq_getElem?_getD, List.getD_eq_getElem?_getD, List.getElem?_set, List.getElem?_set, if_neg (by omega), if_neg (by omega)]
  · intro k _ ho
    have hne := ho _ eA (by omega)
    dsimp only at hne
    exact (Below.heap_setCell _ _ _ k (by dsimp only; omega)).trans (Below.heap_setCell _ _ _ k (by dsimp only; omega))

theorem OwnS.grownC {w w' : World} {lo hi c : Nat} {A : Option Addr} {rs : List Rw} {row : Option Nat} (h : OwnS w lo hi A c rs) (hg : w.grownBy w' row) (hr : ∀ k, row = some k → ∃ o : Obj, w.heap[k]? = some o ∧ o.isCells = false) : OwnS w' lo hi A c rs := by
  refine ⟨⟨h.row.1, ?_⟩, h.top, fun r hr' => ?_, h.off, h.apart⟩
  · rcases h.row.2 with h0 | ⟨g, cap, cur, hv, hb, hgg, q⟩
    · exact .inl h0
    · refine .inr ⟨g, cap, cur, hv, hb, ?_, q⟩
      rw [hg.block g (Array.getElem?_eq_some_iff.1 hgg).1 (fun e => by
        obtain ⟨o, ho, hc⟩ := hr g e.symm
        rw [hgg] at ho
        cases ho
        cases hc)]
      exact hgg
  · have hm := h.mine r hr'
    exact ⟨hm.le, hm.cap, hm.mine.1, fun h0 => by
      obtain ⟨g, off, e, h1, h2, h3⟩ := hm.mine.2 h0
      exact ⟨g, off, e, h1, h2, fun j hj => ⟨cell_kept (h3 j hj).1 hg hr, (frozen_kept (h3 j hj).1 hg hr).trans (h3 j hj).2⟩⟩⟩
/-- A builder is left as it is by what a loop over a function does besides. -/
theorem Bld.grownC {w w' : World} {bb mb c : Nat} {A : Option Addr} {rs : List Rw} {row : Option Nat} (h : Bld w bb mb A c rs) (hg : w.grownBy w' row) (hr : ∀ k, row = some k → ∃ o : Obj, w.heap[k]? = some o ∧ o.isCells = false) : Bld w' bb mb A c rs :=
  ⟨cell_kept h.cell hg hr, cell_kept h.map hg hr, (frozen_kept h.cell hg hr).trans h.free, (h.own.grownC hg hr).wide (Nat.le_refl _) hg.size⟩

end Fc
end Go.Proofs.YtajbahfbldmckaaDoor

namespace Go.Proofs.YtajbahfbldmckaaDoor
open Go.RowKit Go.Shelf
/-- The face f of the tetrahedron a says t and p. -/
def Tr.setF (T : List (List Int)) (a f : Nat) (t p : Int) : List (List Int) := T.set a (((T.getD a []).set (f * 2) t).set (f * 2 + 1) p)
theorem Tr.setF_len (T : List (List Int)) (a f : Nat) (t p : Int) : (Tr.setF T a f t p).length = T.length := by simp [Tr.setF]
theorem Tr.setF_row (T : List (List Int)) (a f : Nat) (t p : Int) (j : Nat) : ((Tr.setF T a f t p).getD j []).length = (T.getD j []).length := by
  unfold Tr.setF
  rw [Tr.getD_set_list]
  split
  · rename_i h
    rw [List.length_set, List.length_set, h.1]
  · rfl
theorem Tr.setF_four {T : List (List Int)} (h : Tr.Four T) (a f : Nat) (t p : Int) : Tr.Four (Tr.setF T a f t p) := fun j hj => by
  rw [Tr.setF_row]
  exact h j (by rwa [Tr.setF_len] at hj)
namespace Fc
theorem vals_setF (rs : List Rw) (j f : Nat) (t p : Int) (A : Option Addr) (c : Nat) : vals (rs.set j ⟨A, c, ((rs.getD j nilRw).zs.set (f * 2) t).set (f * 2 + 1) p⟩) = Tr.setF (vals rs) j f t p := by
  unfold Tr.setF
  rw [vals_getD]
  unfold vals
  rw [List.map_set]
theorem four_row {rs : List Rw} (h : Tr.Four (vals rs)) {j : Nat} (hj : j < rs.length) : (rs.getD j nilRw).zs.length = 8 := by
  have := h j (by rw [vals_len]; exact hj)
  rwa [vals_getD] at this
/-- The same, where the row's place is known. -/
theorem OwnS.setFaceAt {w : World} {lo hi c : Nat} {A : Option Addr} {rs : List Rw} (h : OwnS w lo hi A c rs) (hhi : hi ≤ w.heap.size) {j f : Nat} (hj : j < rs.length) (h8 : (rs.getD j nilRw).zs.length = 8) (hf : f < 4) {g gr o cr : Nat} (hA : A = some ⟨g, 0, none⟩) (hc : w.cell? ⟨g, j, none⟩ = some (.slice (some ⟨gr, o, none⟩) 4 cr)) (t p : Int) :
    OwnS ((w.setCell ⟨gr, o + f * 2, none⟩ (.int .i64 t)).setCell ⟨gr, o + f * 2 + 1, none⟩ (.int .i64 p)) lo hi A c (rs.set j ⟨some ⟨gr, o, none⟩, cr, ((rs.getD j nilRw).zs.set (f * 2) t).set (f * 2 + 1) p⟩) := by
  obtain ⟨g', gr', o', cr', _, eA, _, hc', _, _, _, _, hset⟩ := h.setFace hhi hj h8 hf
  rw [hA] at eA
  injection eA with eA
  injection eA with eA
  subst eA
  rw [hc] at hc'
  injection hc' with hc'
  injection hc' with e1 e2 e3
  injection e1 with e1
  injection e1 with e1 e4
  subst e1
  subst e4
  subst e3
  exact hset t p
/-- The builder, its rows below hi. -/
structure BldH (w : World) (bb mb hi : Nat) (A : Option Addr) (c : Nat) (rs : List Rw) : Prop where
  cell : w.cell? ⟨bb, 0, none⟩ = some (.slice A rs.length c)
  map : w.cell? ⟨bb, 1, none⟩ = some (.map (some mb))
  free : w.frozen? ⟨bb, 0, none⟩ = false
  own : OwnS w (bb + 1) hi A c rs
  top : bb < hi ∧ hi ≤ w.heap.size
theorem Bld.hold {w U : World} {bb mb c : Nat} {A : Option Addr} {rs : List Rw} (h : Bld w bb mb A c rs) (hB : Below w.heap.size w U) : BldH U bb mb w.heap.size A c rs :=
  ⟨(hB.cell (p := ⟨bb, 0, none⟩) h.lt).trans h.cell, (hB.cell (p := ⟨bb, 1, none⟩) h.lt).trans h.map, (hB.frozen (p := ⟨bb, 0, none⟩) h.lt).trans h.free, h.own.below hB (Nat.le_refl _), h.lt, hB.size⟩
theorem BldH.bld {w : World} {bb mb hi c : Nat} {A : Option Addr} {rs : List Rw} (h : BldH w bb mb hi A c rs) : Bld w bb mb A c rs := ⟨h.cell, h.map, h.free, h.own.wide (Nat.le_refl _) h.top.2⟩
theorem BldH.drew {w : World} {bb mb hi c : Nat} {A : Option Addr} {rs : List Rw} (h : BldH w bb mb hi A c rs) : BldH w.drew bb mb hi A c rs := ⟨h.cell, h.map, h.free, h.own.keep fun _ _ _ => rfl, h.top⟩
theorem BldH.below {w U : World} {bb mb hi c : Nat} {A : Option Addr} {rs : List Rw} (h : BldH w bb mb hi A c rs) (hB : Below w.heap.size w U) : BldH U bb mb hi A c rs :=
  have h1 := h.top
  ⟨(hB.cell (p := ⟨bb, 0, none⟩) (by dsimp only; omega)).trans h.cell, (hB.cell (p := ⟨bb, 1, none⟩) (by dsimp only; omega)).trans h.map, (hB.frozen (p := ⟨bb, 0, none⟩) (by dsimp only; omega)).trans h.free, h.own.below hB h1.2, h1.1, Nat.le_trans h1.2 hB.size⟩
/-- A face written into the builder's table. -/
theorem BldH.setFace {w : World} {bb mb hi c : Nat} {A : Option Addr} {rs : List Rw} (h : BldH w bb mb hi A c rs) {j f : Nat} (hj : j < rs.length) (h4 : Tr.Four (vals rs)) (hf : f < 4) :
    ∃ g gr o cr, A = some ⟨g, 0, none⟩ ∧ (bb < g ∧ g < hi) ∧ w.cell? ⟨g, j, none⟩ = some (.slice (some ⟨gr, o, none⟩) 4 cr) ∧ (bb < gr ∧ gr < hi) ∧ gr ≠ g ∧ (4 ≤ cr ∧ cr ≤ maxLen) ∧
      ((∃ u, w.cell? ⟨gr, o + f * 2, none⟩ = some (.int .i64 u)) ∧ (∃ u, w.cell? ⟨gr, o + f * 2 + 1, none⟩ = some (.int .i64 u)) ∧ w.frozen? ⟨gr, o + f * 2, none⟩ = false ∧ w.frozen? ⟨gr, o + f * 2 + 1, none⟩ = false) ∧
      ∀ t p : Int, ∃ rs', rs'.length = rs.length ∧ BldH ((w.setCell ⟨gr, o + f * 2, none⟩ (.int .i64 t)).setCell ⟨gr, o + f * 2 + 1, none⟩ (.int .i64 p)) bb mb hi A c rs' ∧ vals rs' = Tr.setF (vals rs) j f t p := by
  obtain ⟨g, gr, o, cr, _, eA, hg, hc, hgr, hne, hcap, hu, hset⟩ := h.own.setFace h.top.2 hj (four_row h4 hj) hf
  refine ⟨g, gr, o, cr, eA, ⟨by omega, hg.2⟩, hc, ⟨by omega, hgr.2⟩, hne, hcap, hu, fun t p => ⟨rs.set j ⟨some ⟨gr, o, none⟩, cr, ((rs.getD j nilRw).zs.set (f * 2) t).set (f * 2 + 1) p⟩, List.length_set .., ⟨?_, ?_, ?_, ?_, ?_⟩, vals_setF rs j f t p _ _⟩⟩
  · rw [World.cell?_setCell_other _ _ _ _ (by first | (simp; done) | (simp; omega)), World.cell?_setCell_other _ _ _ _ (by first | (simp; done) | (simp; omega)), List.length_set]; exact h.cell
  · rw [World.cell?_setCell_other _ _ _ _ (by first | (simp; done) | (simp; omega)), World.cell?_setCell_other _ _ _ _ (by first | (simp; done) | (simp; omega))]; exact h.map
  · rw [World.frozen?_setCell, World.frozen?_setCell]; exact h.free
  · exact hset t p
  · have := h.top; simpa [World.setCell] using this
theorem cell_two {w : World} {p q r : Addr} {u v x : Value} (h : w.cell? r = some x) (hp : p.block ≠ r.block) (hq : q.block ≠ r.block) : ((w.setCell p u).setCell q v).cell? r = some x := by
  rw [World.cell?_setCell_other _ _ _ _ (by intro e; subst e; exact hq rfl), World.cell?_setCell_other _ _ _ _ (by intro e; subst e; exact hp rfl)]; exact h

set_option maxRecDepth 100000 in
set_option maxHeartbeats 4000000 in
theorem unglue_impl (bb mb : Nat) (A : Option Addr) (c : Nat) (rs : List Rw) (a f b g : Nat) (x0 x1 x2 x3 : Int) (w : World) (h : Bld w bb mb A c rs) (hv : Vs w) (hb1 : 3 < bb) (h4 : Tr.Four (vals rs)) (ha : a < rs.length) (hf : f < 4) (hb : b < rs.length) (hg : g < 4) :
    Calls Tryd.prog 65 #[.pointer (some ⟨bb, 0, none⟩), .agg #[.int .i64 (a : Int), .int .i64 (f : Int), .int .i64 (b : Int), .int .i64 (g : Int), .int .u8 x0, .int .u8 x1, .int .u8 x2, .int .u8 x3]] w fun e w' => e = .returned (.tuple #[]) ∧ (∃ A' c' rs', Bld w' bb mb A' c' rs' ∧ vals rs' = Tr.setF (Tr.setF (vals rs) a f (-1) 0) b g (-1) 0) ∧ Below bb w w' := by
  obtain ⟨U, hU⟩ : ∃ U, U = w.alloc (Obj.cells #[.int .i64 (a : Int), .int .i64 (f : Int), .int .i64 (b : Int), .int .i64 (g : Int), .int .u8 x0, .int .u8 x1, .int .u8 x2, .int .u8 x3] 80) := ⟨_, rfl⟩
  have hB : Below w.heap.size w U := by rw [hU]; exact al1 w _
  have z : w.heap.size < U.heap.size := by rw [hU]; simp
  have q0 : U.cell? ⟨w.heap.size, 0, none⟩ = some (.int .i64 (a : Int)) := by rw [hU]; simp [go_sem]
  have q1 : U.cell? ⟨w.heap.size, 1, none⟩ = some (.int .i64 (f : Int)) := by rw [hU]; simp [go_sem]
  have q2 : U.cell? ⟨w.heap.size, 2, none⟩ = some (.int .i64 (b : Int)) := by rw [hU]; simp [go_sem]
  have q3 : U.cell? ⟨w.heap.size, 3, none⟩ = some (.int .i64 (g : Int)) := by rw [hU]; simp [go_sem]
  have hbb := h.lt
  have BU := Lib.hid (h.hold hB)
  have VU := Lib.hid (hv.below hB hv.pos.1)
  have DU := Lib.hid (hB.mono (Nat.le_of_lt hbb))
  have VP := hv.pos
  have ia0 : (0 : Int) ≤ (a : Int) := by omega
  have ia1 : (a : Int) < (rs.length : Int) := by omega
  have if0 : (0 : Int) ≤ (f : Int) := by omega
  have if1 : (f : Int) < 4 := by omega
  have ib0 : (0 : Int) ≤ (b : Int) := by omega
  have ib1 : (b : Int) < (rs.length : Int) := by omega
  have ig0 : (0 : Int) ≤ (g : Int) := by omega
  have ig1 : (g : Int) < 4 := by omega
  clear h hv hB
  go_enter Tryd.func65, Tryd.ntmps65
  go_upto_region 1 with fail
  rw [← hU]
  clear hU
  obtain ⟨g1, gr, o, cr, rfl, hg1, hc, hgr, hne, hcap, _, _⟩ := BU.out.setFace (j := a) (f := f) ha h4 hf
  have o0 := BU.out.cell
  obtain ⟨v0, v1⟩ := VU.out.2
  go_still_tail 14, (by kernel_rfl)
  change wpList _ _ _ _ _ U.drew
  have q0' := q0
  have BV := Lib.hid BU.out.drew
  have VV := Lib.hid (show Vs U.drew from VU.out)
  have DV := Lib.hid DU.out.drew
  obtain ⟨V, hV⟩ : ∃ V, V = U.drew := ⟨_, rfl⟩
  have sV : V.heap.size = U.heap.size := by rw [hV]; rfl
  have q2 : V.cell? ⟨w.heap.size, 2, none⟩ = some (.int .i64 (b : Int)) := by rw [hV]; exact q2
  have q3 : V.cell? ⟨w.heap.size, 3, none⟩ = some (.int .i64 (g : Int)) := by rw [hV]; exact q3
  have hcV : V.cell? ⟨g1, a, none⟩ = some (.slice (some ⟨gr, o, none⟩) 4 cr) := by rw [hV]; exact hc
  rw [← hV] at BV VV DV
  rw [← hV]
  clear hV q0 q1 q0' o0 v0 v1 hc BU VU DU
  obtain ⟨g1', gr', o', cr', eA, _, hc', _, _, _, ⟨⟨u0, hu0⟩, ⟨u1, hu1⟩, hf0, hf1⟩, hset⟩ := BV.out.setFace (j := a) (f := f) ha h4 hf
  injection eA with eA
  injection eA with eA
  subst eA
  rw [hcV] at hc'
  injection hc' with hc'
  injection hc' with e1 e2 e3
  injection e1 with e1
  injection e1 with e1 e4
  subst e1
  subst e4
  obtain ⟨rs1, hl1, hB1, hv1⟩ := hset (-1) 0
  have B1 := Lib.hid hB1
  have V1 := Lib.hid hv1
  have L1 := Lib.hid hl1
  clear hset hB1 hv1 hl1 hcV
  go_upto_region 2 with fail
  obtain ⟨W, hW⟩ : ∃ W, W = (V.setCell ⟨gr, o + f * 2, none⟩ (.int .i64 (-1))).setCell ⟨gr, o + f * 2 + 1, none⟩ (.int .i64 0) := ⟨_, rfl⟩
  have q2 : W.cell? ⟨w.heap.size, 2, none⟩ = some (.int .i64 (b : Int)) := by rw [hW]; exact cell_two q2 (by dsimp only; omega) (by dsimp only; omega)
  have q3 : W.cell? ⟨w.heap.size, 3, none⟩ = some (.int .i64 (g : Int)) := by rw [hW]; exact cell_two q3 (by dsimp only; omega) (by dsimp only; omega)
  have DW := Lib.hid (show Below bb w W from by rw [hW]; exact (DV.out.setCell (by dsimp only; omega) _).setCell (by dsimp only; omega) _)
  have VW := Lib.hid (show Vs W from by rw [hW]; exact VV.out.below (((Below.refl bb V).setCell (by dsimp only; omega) _).setCell (by dsimp only; omega) _) hb1)
  rw [← hW] at B1
  rw [← hW]
  clear hW BV VV DV hu0 hu1 hf0 hf1 hgr hg1 hne hcap sV
  have h41 : Tr.Four (vals rs1) := by rw [V1.out]; exact Tr.setF_four h4 _ _ _ _
  have ll1 := L1.out
  obtain ⟨g1, gr, o, cr, eA, hg1, hc, hgr, hne, hcap, _, _⟩ := B1.out.setFace (j := b) (f := g) (by omega) h41 hg
  injection eA with eA
  injection eA with eA
  subst eA
  have o0 := B1.out.cell
  obtain ⟨v0, v1⟩ := VW.out.2
  rw [ll1] at o0
  clear ll1
  go_still_tail 14, (by kernel_rfl)
  change wpList _ _ _ _ _ W.drew
  have BV := Lib.hid B1.out.drew
  have DV := Lib.hid DW.out.drew
  obtain ⟨X, hX⟩ : ∃ X, X = W.drew := ⟨_, rfl⟩
  have hcV := (show X.cell? _ = W.cell? _ from by rw [hX]; rfl).trans hc
  rw [← hX] at BV DV
  rw [← hX]
  clear hX q2 q3 o0 v0 v1 hc B1 VW DW
  obtain ⟨g1', gr', o', cr', eA, _, hc', _, _, _, ⟨⟨u0, hu0⟩, ⟨u1, hu1⟩, hf0, hf1⟩, hset⟩ := BV.out.setFace (j := b) (f := g) (by have := L1.out; omega) h41 hg
  injection eA with eA
  injection eA with eA
  subst eA
  rw [hcV] at hc'
  injection hc' with hc'
  injection hc' with e1 e2 e3
  injection e1 with e1
  injection e1 with e1 e4
  subst e1
  subst e4
  obtain ⟨rs2, hl2, hB2, hv2⟩ := hset (-1) 0
  have B2 := Lib.hid hB2
  have V2 := Lib.hid hv2
  clear hset hB2 hv2 hcV
  go_wp2
  refine bodyPost_end (results_none rfl _ _ _) rfl ?_
  exact ⟨rfl, ⟨_, _, rs2, B2.out.bld, by rw [V2.out, V1.out]⟩, (DV.out.setCell (by dsimp only; omega) _).setCell (by dsimp only; omega) _⟩
end Fc
end Go.Proofs.YtajbahfbldmckaaDoor

namespace Go.Proofs.YtajbahfbldmckaaDoor
open Go

section
variable {F : Fence} {n : Nat} {P : Program} {ops : Array Oper} {Q : Exit → Act → World → Prop} {md : Region.Mode} {S : World → Prop} {N : List Nat}

/-- The operation ends, with a value or without. -/
def EndsIn (P : Program) (o : Oper) (a : Act) (w : World) (K : Act → World → Prop) : Prop :=
  (∃ v w', (execOp a.eval o).run P w = .ok (.value v) w' ∧ K (a.put o.dst v) w') ∨ ∃ w', (execOp a.eval o).run P w = .ok .skip w' ∧ K (a.put o.dst undef) w'
theorem EndsIn.mono {o : Oper} {a : Act} {w : World} {K K' : Act → World → Prop} (h : EndsIn P o a w K) (hk : ∀ a w, K a w → K' a w) : EndsIn P o a w K' := by
  rcases h with ⟨v, w', h1, h2⟩ | ⟨w', h1, h2⟩
  · exact .inl ⟨v, w', h1, hk _ _ h2⟩
  · exact .inr ⟨w', h1, hk _ _ h2⟩
/-- No call, no defer, no select, no guard. -/
def plainB (ops : Array Oper) : Bool := ops.all fun o => o.guard.isNone && match o.op with | .call _ => false | .defer _ => false | .select _ _ => false | _ => true
def wpM (P : Program) (md : Region.Mode) (ops : Array Oper) (Q : Exit → Act → World → Prop) (S : World → Prop) (N : List Nat) : Nat → Array Bool → Act → World → Prop
  | 0, l, a, w => Region.ready md ops l = [] ∧ Q .normal a w
  | f + 1, l, a, w => (Region.ready md ops l = [] → Q .normal a w) ∧ ∀ j ∈ Region.ready md ops l, ∃ o, ops[j]? = some o ∧ EndsIn P o a w (fun a' w' => (asksS md ops N j = true → S w') ∧ wpM P md ops Q S N f (l.setIfInBounds j true) a' w')

theorem plain_at (hp : plainB ops = true) {j : Nat} {o : Oper} (ho : ops[j]? = some o) : o.guard = none ∧ (∀ c, o.op ≠ .call c) ∧ (∀ c, o.op ≠ .defer c) ∧ ∀ cs b, o.op ≠ .select cs b := by
  unfold plainB at hp
  have h := Array.all_eq_true'.1 hp o (Array.mem_of_getElem? ho)
  simp only [Bool.and_eq_true, Option.isNone_iff_eq_none] at h
  obtain ⟨h1, h2⟩ := h
  exact ⟨h1, fun c e => by rw [e] at h2; simp at h2, fun c e => by rw [e] at h2; simp at h2, fun cs b e => by rw [e] at h2; simp at h2⟩

theorem wpAnyIn_of_M (hp : plainB ops = true) : ∀ (f : Nat) (l : Array Bool) (a : Act) (w : World), wpM P md ops Q S N f l a w → wpAnyIn F n P md ops Q f l a w := by
  intro f
  induction f with
  | zero => exact fun _ _ _ h => h
  | succ f ih =>
    refine fun l a w h => ⟨h.1, fun j hj => ?_⟩
    obtain ⟨o, ho, he⟩ := h.2 j hj
    obtain ⟨hg, hc, hd, _⟩ := plain_at hp ho
    have hab : ∀ g, o.about P w a.eval = some g → F.fn g := fun g hgg => by
      unfold Oper.about at hgg
      split at hgg
      · rename_i c e; exact absurd e (hc c)
      · cases hgg
    unfold wpOpIn
    simp only [ho]
    rw [if_pos (by simp [Region.wanted, hg])]
    refine ⟨hab, ?_⟩
    rw [Oper.semAt_eq _ _ _ hd]
    rcases he with ⟨v, w', h1, h2⟩ | ⟨w', h1, h2⟩
    · rw [h1]; exact ih _ _ _ h2.2
    · rw [h1]; exact ih _ _ _ h2.2

/-- A load of N is taken first. -/
theorem wpM_first {i : Nat} {oi : Oper} {v : Value} (hp : plainB ops = true) (hi : ops[i]? = some oi) (hN : i ∈ N) (f : Nat) :
    ∀ (l : Array Bool) (a : Act) (w : World), (∀ j oj, ops[j]? = some oj → j ≠ i → l.getD j true = false → (∀ e ∈ oj.after, Region.binds md e = true → e.on ≠ i) → oi.apart ops oj = true) →
      i ∈ Region.ready md ops l → (∀ w, S w → (execOp a.eval oi).run P w = .ok (.value v) w) → S w → wpM P md ops Q S N f (l.setIfInBounds i true) (a.put oi.dst v) w → wpM P md ops Q S N (f + 1) l a w := by
  have hsi := (plain_at hp hi).2.2.2
  induction f with
  | zero =>
    intro l a w _ hr hy hS H
    refine ⟨fun h => absurd hr (by rw [h]; exact List.not_mem_nil), fun j hj => ?_⟩
    by_cases e : j = i
    · rw [e]
      exact ⟨oi, hi, .inl ⟨v, w, hy w hS, fun _ => hS, H⟩⟩
    · have h2 := ready_mono hj e
      rw [H.1] at h2
      exact absurd h2 List.not_mem_nil
  | succ f ih =>
    intro l a w hf hr hy hS H
    refine ⟨fun h => absurd hr (by rw [h]; exact List.not_mem_nil), fun j hj => ?_⟩
    by_cases e : j = i
    · rw [e]
      exact ⟨oi, hi, .inl ⟨v, w, hy w hS, fun _ => hS, H⟩⟩
    have hask := asks_of_ready hN hr hj
    obtain ⟨hlj, oj', hoj', hall⟩ := mem_ready.1 hj
    have hfree : ∀ x ∈ oj'.after, Region.binds md x = true → x.on ≠ i := fun x hx hb hon => by
      have h1 := hall x hx hb
      rw [hon, getD_both (mem_ready.1 hr).1] at h1
      cases h1
    obtain ⟨oj, hoj, he⟩ := H.2 j (ready_mono hj e)
    obtain rfl : oj = oj' := Option.some.inj (hoj.symm.trans hoj')
    have hsj := (plain_at hp hoj).2.2.2
    obtain ⟨a1, a2, a3⟩ := Oper.apart_spec (hf j oj hoj e hlj hfree)
    have next : ∀ u w', ((asksS md ops N j = true → S w') ∧ wpM P md ops Q S N f ((l.setIfInBounds i true).setIfInBounds j true) ((a.put oi.dst v).put oj.dst u) w') → (asksS md ops N j = true → S w') ∧ wpM P md ops Q S N (f + 1) (l.setIfInBounds j true) (a.put oj.dst u) w' := fun u w' hk => by
      refine ⟨fun _ => hk.1 hask, ih _ _ w' (fun k ok hk1 hk2 hk3 hk4 => hf k ok hk1 hk2 ?_ hk4) (ready_mono hr (Ne.symm e)) (fun w2 hs2 => by rw [execOp_put oi hsi a oj.dst u a3]; exact hy w2 hs2) (hk.1 hask) ?_⟩
      · by_cases e2 : j = k
        · rw [← e2]; exact hlj
        · rw [getD_set_ne true e2] at hk3; exact hk3
      · rw [Array.setIfInBounds_comm _ _ e, ← Act.put_comm a v u a2]
        exact hk.2
    refine ⟨oj, hoj, ?_⟩
    unfold EndsIn at he ⊢
    rw [execOp_put oj hsj a oi.dst v a1] at he
    rcases he with ⟨u, w', h1, h2⟩ | ⟨w', h1, h2⟩
    · exact .inl ⟨u, w', h1, next u w' h2⟩
    · exact .inr ⟨w', h1, next undef w' h2⟩
theorem wpM_take {i : Nat} {oi : Oper} {v : Value} {f : Nat} {l : Array Bool} {a : Act} {w : World} (hp : plainB ops = true) (hi : ops[i]? = some oi) (hN : N.contains i = true) (hf : Region.free md ops l i = true) (hr : (Region.ready md ops l).contains i = true)
    (hy : ∀ w, S w → (execOp a.eval oi).run P w = .ok (.value v) w) (hS : S w) (h : wpM P md ops Q S N f (l.setIfInBounds i true) (a.put oi.dst v) w) : wpM P md ops Q S N (f + 1) l a w :=
  wpM_first hp hi (by simpa using hN) f l a w (Region.free_spec hi hf) (by simpa using hr) hy hS h
/-- One operation alone may come up. -/
theorem wpM_one {j : Nat} {o : Oper} {f : Nat} {l : Array Bool} {a : Act} {w : World} (hr : Region.ready md ops l = [j]) (ho : ops[j]? = some o)
    (h : EndsIn P o a w (fun a' w' => (asksS md ops N j = true → S w') ∧ wpM P md ops Q S N f (l.setIfInBounds j true) a' w')) : wpM P md ops Q S N (f + 1) l a w := by
  refine ⟨(fun h0 => by rw [hr] at h0; cases h0), fun k hk => ?_⟩
  rw [hr] at hk
  obtain rfl : k = j := by simpa using hk
  exact ⟨o, ho, h⟩
theorem wpM_done {f : Nat} {l : Array Bool} {a : Act} {w : World} (hr : Region.ready md ops l = []) (h : Q .normal a w) : wpM P md ops Q S N f l a w := by
  cases f with
  | zero => exact ⟨hr, h⟩
  | succ f => exact ⟨fun _ => h, (fun k hk => by rw [hr] at hk; cases hk)⟩
/-- The beginning, in a program under 'wide'. -/
theorem wpIn_region_M (S : World → Prop) (N : List Nat) {id : Nat} {a : Act} {w : World} (hm : P.follows .mixedOrders = true) (hp : plainB ops = true) (h : wpM P .any ops Q S N ops.size (Array.replicate ops.size false) a w.drew) : (Code.region id ops true).wpIn F n P Q a w :=
  wpIn_region_any hm (wpAnyIn_of_M hp _ _ _ _ h)
end

end Go.Proofs.YtajbahfbldmckaaDoor

namespace Go.Proofs.YtajbahfbldmckaaDoor
open Go.RowKit Go.Shelf
namespace Fc
attribute [local go_sem] Oper.semAt_some
theorem leave2 {F : Fence} {n : Nat} {P : Program} {fn : Func} {R : Ending → World → Prop} {tmps : Array Value} {w : World} {v : Value} {D : Nat} (hK : w.heap[D]? = some (.deferred (some [])))
    (h1 : (results fn tmps).run P (w.putObj D (.deferred none)) = .ok v (w.putObj D (.deferred none))) (h2 : R (.returned v) (w.putObj D (.deferred none))) :
    bodyPostM F n P fn R .normal { tmps := tmps, defers := [{ target := .collected D, args := #[] }] } w := ⟨by simp, .inl ⟨_, _, rfl, run_takeDeferred hK, v, h1, h2⟩⟩

set_option maxRecDepth 100000 in
set_option maxHeartbeats 8000000 in
theorem addTri_impl (bb mb n c : Nat) (A : Option Addr) (T : List (List Int)) (A0 : Option Addr) (c0 : Nat) (rs0 : List Rw) (w : World) (h : RdT w bb A n T) (hB : Bld w bb mb A0 c0 rs0) (hv : Vs w) (hb1 : 3 < bb) (hT : Tr.Is T) (hsum : rs0.length + n ≤ 1048576) :
    Calls Tryd.prog 70 #[.pointer (some ⟨bb, 0, none⟩), .agg #[.slice A n c]] w fun e w' => e = .returned (.tuple #[]) ∧ (∃ A' c' rs', Bld w' bb mb A' c' rs' ∧ vals rs' = vals rs0 ++ Tr.shT rs0.length T) ∧ Below bb w w' := by
  have hlt := hB.lt
  have HT := Lib.hid h
  have VG0 := Lib.hid hv.2
  have LN := Lib.hid h.len
  have IS := Lib.hid hT
  have h8 : n ≤ 8 := by rw [← LN.out]; exact hT.1
  have H4 := Lib.hid hT.2.1
  refine (callsIn_wide (n := 5)).1 ?_
  refine callsIn_of_wp_marks Tryd.func70 rfl trivial ?_ rfl
  simp only [Tryd.ntmps70, List.size_toArray, List.length_cons, List.length_nil, Nat.reduceAdd, Nat.reduceSub, Array.replicate_succ, Array.replicate_zero, List.push_toArray, List.append_toArray, List.nil_append, List.cons_append]
  obtain ⟨U, hU⟩ : ∃ U, U = ((w.alloc (Obj.cells #[.pointer (some ⟨bb, 0, none⟩)] 64)).alloc (Obj.cells #[.slice A n c] 28)).alloc (Obj.cells #[.int .i64 rs0.length] 2) := ⟨_, rfl⟩
  have hBU : Below w.heap.size w U := by rw [hU]; exact al3 _ _ _ _
  have z : w.heap.size + 2 < U.heap.size := by rw [hU]; simp
  have k0 : U.cell? ⟨w.heap.size, 0, none⟩ = some (.pointer (some ⟨bb, 0, none⟩)) := by rw [hU]; simp [go_sem]
  have k1 : U.cell? ⟨w.heap.size + 1, 0, none⟩ = some (.slice A n c) := by rw [hU]; simp [go_sem]
  have k2 : U.cell? ⟨w.heap.size + 2, 0, none⟩ = some (.int .i64 rs0.length) := by rw [hU]; simp [go_sem]
  have RT := Lib.hid (HT.out.below (hBU.mono (by omega)))
  have BU := Lib.hid (hB.below hBU)
  have DU := Lib.hid (hBU.mono (Nat.le_of_lt hlt))
  have VU := Lib.hid (hv.below hBU (by omega))
  have AP := Lib.hid (show Apt (fun b0 => w.heap.size ≤ b0 ∧ b0 < w.heap.size + 3) A0 rs0 from fun b0 hb0 => ⟨fun a ha => by have := hB.own.top a ha; omega, fun q hq => (hB.own.mine q hq).off (.inr hb0.1)⟩)
  have g0 := hB.cell
  have l0 : bb < w.heap.size := hlt
  clear h hv hT hBU hB
  gi_wp2
  rw [← hU]
  clear hU
  refine ⟨trivial, ?_⟩
  refine (callsIn_wide.2 (addTets_impl bb mb n A0 c0 rs0 U BU.out VU.out hb1 hsum (fun b0 => w.heap.size ≤ b0 ∧ b0 < w.heap.size + 3) (fun b0 hb0 => ⟨by omega, by omega⟩) AP.out)).mono ?_
  rintro e X ⟨rfl, ⟨A1, c1, rs1, hB1, hv1, hap1, hsm1⟩, hbX⟩
  have F0 : w.heap.size ≤ w.heap.size ∧ w.heap.size < w.heap.size + 3 := by omega
  have F1 : w.heap.size ≤ w.heap.size + 1 ∧ w.heap.size + 1 < w.heap.size + 3 := by omega
  have F2 : w.heap.size ≤ w.heap.size + 2 ∧ w.heap.size + 2 < w.heap.size + 3 := by omega
  have k0 := (World.cell?_of_block (a := ⟨w.heap.size, 0, none⟩) (hsm1 _ F0)).trans k0
  have k1 := (World.cell?_of_block (a := ⟨w.heap.size + 1, 0, none⟩) (hsm1 _ F1)).trans k1
  have k2 := (World.cell?_of_block (a := ⟨w.heap.size + 2, 0, none⟩) (hsm1 _ F2)).trans k2
  have zX : U.heap.size ≤ X.heap.size := hbX.size
  have RX := Lib.hid (RT.out.below hbX)
  have DX := Lib.hid (DU.out.trans hbX)
  have BX := Lib.hid hB1
  have VX := Lib.hid hv1
  have VV := Lib.hid (VU.out.below hbX hb1)
  have PX := Lib.hid hap1
  clear hB1 hv1 hap1 hsm1 hbX F0 F1 F2 RT DU BU VU AP
  obtain ⟨V, hV⟩ : ∃ V, V = X.alloc (Obj.cells #[.slice A n c] 28) := ⟨_, rfl⟩
  have zV : X.heap.size < V.heap.size := by rw [hV]; simp
  have hBX : Below X.heap.size X V := by rw [hV]; exact al1 _ _
  have DV := Lib.hid (DX.out.trans (hBX.mono (by omega)))
  have KB := Lib.hid (show V.cell? ⟨X.heap.size, 0, none⟩ = some (.slice A n c) from by rw [hV]; simp [go_sem])
  have A0_ := Lib.hid (show V.cell? ⟨w.heap.size, 0, none⟩ = some (.pointer (some ⟨bb, 0, none⟩)) from (hBX.cell (p := ⟨w.heap.size, 0, none⟩) (by dsimp only; omega)).trans k0)
  have A2_ := Lib.hid (show V.cell? ⟨w.heap.size + 2, 0, none⟩ = some (.int .i64 rs0.length) from (hBX.cell (p := ⟨w.heap.size + 2, 0, none⟩) (by dsimp only; omega)).trans k2)
  have BV := Lib.hid (BX.out.below hBX)
  have RV := Lib.hid (RX.out.below (hBX.mono (by omega)))
  gi_wp2_with (refine ⟨trivial, ?_⟩; gi_at_call 76; refine (Fc.facesOf_in Fence.wide _ trivial rfl _ _ _ _).mono ?_; rintro e w' ⟨rfl, rfl⟩)
  rw [← hV]
  clear hV hBX RX BX DX
  refine Fc.rangeC (by omega) X.heap.size bb c A T H4.out (by omega) zV (by omega) rfl rfl KB.out RV.out
    (fun pre W => ((W.cell? ⟨w.heap.size, 0, none⟩ = some (.pointer (some ⟨bb, 0, none⟩)) ∧ W.cell? ⟨w.heap.size + 2, 0, none⟩ = some (.int .i64 rs0.length)) ∧ ∃ A' c' rs, Bld W bb mb A' c' rs ∧ Apt (fun b0 => w.heap.size ≤ b0 ∧ b0 < w.heap.size + 3) A' rs ∧ vals rs = Tr.cpy rs0.length T rs0.length (vals rs0 ++ List.replicate n fr) pre) ∧ Below bb w W)
    (OwnFrom.and (fun s Y Z row hs hg hr => by
      obtain ⟨⟨h1, h2⟩, A', c', rs, h3, h4, h5⟩ := hs
      have hr' : ∀ r, row = some r → ∃ o : Obj, Y.heap[r]? = some o ∧ o.isCells = false := fun r e => (hr r e).2
      exact ⟨⟨cell_kept h1 hg hr', cell_kept h2 hg hr'⟩, A', c', rs, h3.grownC hg hr', h4, h5⟩) (ownFrom_below (by omega) (by omega)))
    ⟨⟨⟨A0_.out, A2_.out⟩, A1, c1, rs1, BV.out, PX.out, VX.out⟩, DV.out⟩
    (fun x Bx W => (W.cell? ⟨Bx, 0, none⟩ = some (.int .i64 ((x.1 : Int) / 4)) ∧ W.cell? ⟨Bx, 1, none⟩ = some (.int .i64 ((x.1 : Int) % 4))) ∧ W.cell? ⟨Bx + 1, 0, none⟩ = some (.int .i64 (Tr.tt T (x.1 / 4) (x.1 % 4))) ∧ W.cell? ⟨Bx + 1, 1, none⟩ = some (.int .i64 (Tr.pp T (x.1 / 4) (x.1 % 4))))
    (fun x Bx => Own.from (fun s X Y row hs hg hr => ⟨⟨cell_kept hs.1.1 hg hr, cell_kept hs.1.2 hg hr⟩, cell_kept hs.2.1 hg hr, cell_kept hs.2.2 hg hr⟩) _) ?acts ?assign ?body ?done
  case assign =>
    rintro l pre x W K ⟨⟨⟨b0, b2⟩, A', c', rs, hO, hAp, hVl⟩, hB⟩ hK
    dsimp only [Fc.encF]
    have zW : bb ≤ W.heap.size := Nat.le_trans (Nat.le_of_lt hlt) hB.size
    gi_wp2
    obtain ⟨Y, hY⟩ : ∃ Y, Y = (W.alloc (Obj.cells #[.int .i64 ((x.1 : Int) / 4), .int .i64 ((x.1 : Int) % 4)] 76)).alloc (Obj.cells #[.int .i64 (Tr.tt T (x.1 / 4) (x.1 % 4)), .int .i64 (Tr.pp T (x.1 / 4) (x.1 % 4))] 72) := ⟨_, rfl⟩
    have m0 : Y.cell? ⟨W.heap.size, 0, none⟩ = some (.int .i64 ((x.1 : Int) / 4)) := by rw [hY]; simp [go_sem]
    have m1 : Y.cell? ⟨W.heap.size, 1, none⟩ = some (.int .i64 ((x.1 : Int) % 4)) := by rw [hY]; simp [go_sem]
    have n0 : Y.cell? ⟨W.heap.size + 1, 0, none⟩ = some (.int .i64 (Tr.tt T (x.1 / 4) (x.1 % 4))) := by rw [hY]; simp [go_sem]
    have n1 : Y.cell? ⟨W.heap.size + 1, 1, none⟩ = some (.int .i64 (Tr.pp T (x.1 / 4) (x.1 % 4))) := by rw [hY]; simp [go_sem]
    have hAA : Below W.heap.size W Y := by rw [hY]; exact al2 _ _ _
    have hA : Below bb W Y := hAA.mono zW
    have hF : KeepsFrom V.heap.size W Y := by rw [hY]; exact ((KeepsOthers.alloc W _).trans (KeepsOthers.alloc _ _)).from _
    have hI : Y.cell? ⟨w.heap.size, 0, none⟩ = some (.pointer (some ⟨bb, 0, none⟩)) := by rw [hY]; exact Fc.cell_al _ (Fc.cell_al _ b0)
    have hI2 : Y.cell? ⟨w.heap.size + 2, 0, none⟩ = some (.int .i64 rs0.length) := by rw [hY]; exact Fc.cell_al _ (Fc.cell_al _ b2)
    have hOY : Bld Y bb mb A' c' rs := hO.below hAA
    rw [← hY]
    clear hY
    revert m0 m1 n0 n1
    generalize W.heap.size = Bx
    intro m0 m1 n0 n1
    exact hK Bx _ hF hA ⟨⟨⟨hI, hI2⟩, A', c', rs, hOY, hAp, hVl⟩, hB.trans hA⟩ ⟨⟨m0, m1⟩, n0, n1⟩
  case body =>
    rintro l pre x Bx W hl ⟨r, hr⟩ ⟨⟨⟨b0, b2⟩, A', c', rs, hO, hAp, hVl⟩, hB⟩ ⟨⟨m0, m1⟩, q0, q1⟩ hlen
    have xlt := x.2
    obtain ⟨a, hae⟩ : ∃ a, x.1 / 4 = a := ⟨_, rfl⟩
    obtain ⟨f, hfe⟩ : ∃ f, x.1 % 4 = f := ⟨_, rfl⟩
    have ha : a < n := by omega
    have hf : f < 4 := by omega
    have ia : ((x.1 : Int) / 4) = (a : Int) := by omega
    have jf : ((x.1 : Int) % 4) = (f : Int) := by omega
    rw [ia] at m0
    rw [jf] at m1
    rw [hae, hfe] at q0 q1
    have SN := Lib.hid (show Tr.cpy rs0.length T rs0.length (vals rs0 ++ List.replicate n fr) (pre ++ [x]) = Tr.upd rs0.length T rs0.length (Tr.cpy rs0.length T rs0.length (vals rs0 ++ List.replicate n fr) pre) a f from by rw [Tr.cpy_snoc, hae, hfe])
    have SH := Lib.hid (show Tr.Shp rs0.length n (Tr.cpy rs0.length T rs0.length (vals rs0 ++ List.replicate n fr) pre) from Tr.Shp.cpy ⟨by rw [List.length_append, Go.Proofs.YtajbahfbldmckaaDoor.Fc.vals_len, List.length_replicate], fun b hb => by
      rw [List.getD_eq_getElem?_getD, List.getElem?_append_right (by rw [Go.Proofs.YtajbahfbldmckaaDoor.Fc.vals_len]; omega), Go.Proofs.YtajbahfbldmckaaDoor.Fc.vals_len, show rs0.length + b - rs0.length = b from by omega, List.getElem?_replicate, if_pos hb]; rfl⟩ pre)
    have zW : bb < W.heap.size := hO.lt
    have zW1 : w.heap.size + 2 < W.heap.size := World.block_lt_of_cell? W _ b2
    have zB : Bx + 1 < W.heap.size := World.block_lt_of_cell? W _ q0
    obtain ⟨v0, v1⟩ := VG0.out.below hB (by omega)
    have OW := Lib.hid hO
    have AW := Lib.hid hAp
    have VL := Lib.hid hVl
    have HBW := Lib.hid hB
    have DB := IS.out.bd_iff (a := a) (f := f) (by rw [LN.out]; exact ha) hf
    clear ia jf hae hfe xlt hO hVl hr hB hAp
    by_cases hneg : Tr.tt T a f < 0
    · obtain ⟨h1, h2⟩ := DB.2 hneg
      have NX := Lib.hid (show ∀ Z, Tr.upd rs0.length T rs0.length Z a f = Z from fun Z => by unfold Tr.upd; rw [if_pos hneg])
      rw [h1] at q0
      rw [h2] at q1
      clear h1 h2 hneg DB
      gi_wp2
      exact ⟨KeepsFrom.refl _ _, Below.refl _ _, ⟨⟨b0, b2⟩, A', c', rs, OW.out, AW.out, by rw [SN.out, NX.out]; exact VL.out⟩, HBW.out⟩
    · obtain ⟨tv, htv⟩ : ∃ tv, Tr.tt T a f = tv := ⟨_, rfl⟩
      obtain ⟨pv, hpv⟩ : ∃ pv, Tr.pp T a f = pv := ⟨_, rfl⟩
      have TB := Lib.hid (show tv < n from by
        rcases (IS.out.2.2 a (by rw [LN.out]; exact ha) f hf).ok with e | ⟨⟨_, t1⟩, _⟩
        · have := e.1; omega
        · rw [htv, LN.out] at t1; exact t1)
      have NX := Lib.hid (show ∀ Z, Tr.upd rs0.length T rs0.length Z a f = Z.set (rs0.length + a) (((Z.getD (rs0.length + a) []).set (f * 2) (tv + rs0.length)).set (f * 2 + 1) pv) from fun Z => by unfold Tr.upd; rw [if_neg hneg, htv, hpv])
      have hlen2 : rs.length = rs0.length + n := by
        have h1 := congrArg List.length VL.out
        rw [Go.Proofs.YtajbahfbldmckaaDoor.Fc.vals_len] at h1
        exact h1.trans SH.out.1
      have L2 := Lib.hid hlen2
      have hz8 : (rs.getD (rs0.length + a) nilRw).zs.length = 8 := by rw [← vals_getD, VL.out]; exact SH.out.2 a ha
      obtain ⟨g, gr, o, cr, eA, rfl, hg, hcr, hgr, hne, hcap, ⟨⟨u0, hu0⟩, ⟨u1, hu1⟩, hf0, hf1⟩, hset⟩ := OW.out.own.setFace (Nat.le_refl _) (j := rs0.length + a) (f := f) (by omega) hz8 hf
      have SET := Lib.hid hset
      have NE := Lib.hid (show ∀ b0, w.heap.size ≤ b0 ∧ b0 < w.heap.size + 3 → gr ≠ b0 from fun b0 hb0 => (AW.out b0 hb0).2 _ (getD_mem (by omega)) _ eA (by omega))
      have GZ := Lib.hid (show (vals rs).getD (rs0.length + a) [] = (rs.getD (rs0.length + a) nilRw).zs from vals_getD rs _)
      have o0 := OW.out.cell
      rw [htv] at q0 hneg
      rw [hpv] at q1
      have b8 : (tv == -1) = false := by simp; omega
      have nb : ¬ tv = -1 := by omega
      have w3 : (0 : Int) ≤ (a : Int) + (rs0.length : Int) := by omega
      have w4 : (a : Int) + (rs0.length : Int) < (rs.length : Int) := by omega
      have w6 : (0 : Int) ≤ (f : Int) := by omega
      have w7 : (f : Int) < 4 := by omega
      have w2 : ((a : Int) + (rs0.length : Int)).toNat = rs0.length + a := by omega
      have w1 : IntKind.i64.wrap ((a : Int) + (rs0.length : Int)) = (a : Int) + (rs0.length : Int) := IntWalk.i64_in _ (by omega)
      have w5 : IntKind.i64.wrap (tv + (rs0.length : Int)) = tv + (rs0.length : Int) := IntWalk.i64_in _ (by have := TB.out; omega)
      clear hset hz8 hlen2 htv hpv DB
      gi_wp2
      refine wpIn_region_M (fun Y : World => (Y.cell? ⟨w.heap.size, 0, none⟩ = some (.pointer (some ⟨bb, 0, none⟩)) ∧ Y.cell? ⟨w.heap.size + 2, 0, none⟩ = some (.int .i64 rs0.length)) ∧ Y.cell? ⟨bb, 0, none⟩ = some (.slice (some ⟨g, 0, none⟩) rs.length c') ∧ Y.cell? ⟨g, rs0.length + a, none⟩ = some (.slice (some ⟨gr, o, none⟩) 4 cr) ∧ (Y.cell? ⟨Bx, 0, none⟩ = some (.int .i64 a) ∧ Y.cell? ⟨Bx, 1, none⟩ = some (.int .i64 f)) ∧ Y.cell? ⟨Bx + 1, 0, none⟩ = some (.int .i64 tv) ∧ Y.cell? ⟨Bx + 1, 1, none⟩ = some (.int .i64 pv)) [0, 1, 2, 3, 4, 5, 6, 7, 8, 9, 10, 11, 12, 13, 14, 15, 16, 17, 18, 19] (by kernel_rfl) (by kernel_rfl) ?_
      have hS : (fun Y : World => (Y.cell? ⟨w.heap.size, 0, none⟩ = some (.pointer (some ⟨bb, 0, none⟩)) ∧ Y.cell? ⟨w.heap.size + 2, 0, none⟩ = some (.int .i64 rs0.length)) ∧ Y.cell? ⟨bb, 0, none⟩ = some (.slice (some ⟨g, 0, none⟩) rs.length c') ∧ Y.cell? ⟨g, rs0.length + a, none⟩ = some (.slice (some ⟨gr, o, none⟩) 4 cr) ∧ (Y.cell? ⟨Bx, 0, none⟩ = some (.int .i64 a) ∧ Y.cell? ⟨Bx, 1, none⟩ = some (.int .i64 f)) ∧ Y.cell? ⟨Bx + 1, 0, none⟩ = some (.int .i64 tv) ∧ Y.cell? ⟨Bx + 1, 1, none⟩ = some (.int .i64 pv)) W.drew := ⟨⟨b0, b2⟩, o0, hcr, ⟨m0, m1⟩, q0, q1⟩
      refine wpM_take (i := 0) (oi := { dst := some 24, op := .load _ (.tmp 2), type := _, pos := _, after := _, guard := _ }) (v := ?_) (by kernel_rfl) rfl (by kernel_rfl) (by kernel_rfl) (by kernel_rfl) ?_ hS ?_
      rotate_left
      · intro Y hY
        obtain ⟨⟨y0, y1⟩, y2, y3, ⟨y4, y5⟩, y6, y7⟩ := hY
        go_simp
        try with_reducible rfl
      try simp only [Act.put, List.setIfInBounds_toArray, List.set_cons_zero, List.set_cons_succ]
      refine wpM_take (i := 1) (oi := { dst := some 25, op := .nilCheck (.tmp 24), type := _, pos := _, after := _, guard := _ }) (v := ?_) (by kernel_rfl) rfl (by kernel_rfl) (by kernel_rfl) (by kernel_rfl) ?_ hS ?_
      rotate_left
      · intro Y hY
        obtain ⟨⟨y0, y1⟩, y2, y3, ⟨y4, y5⟩, y6, y7⟩ := hY
        go_simp
        try with_reducible rfl
      try simp only [Act.put, List.setIfInBounds_toArray, List.set_cons_zero, List.set_cons_succ]
      refine wpM_take (i := 2) (oi := { dst := some 26, op := .fieldAddr _ (.tmp 25) 0, type := _, pos := _, after := _, guard := _ }) (v := ?_) (by kernel_rfl) rfl (by kernel_rfl) (by kernel_rfl) (by kernel_rfl) ?_ hS ?_
      rotate_left
      · intro Y hY
        obtain ⟨⟨y0, y1⟩, y2, y3, ⟨y4, y5⟩, y6, y7⟩ := hY
        go_simp
        try with_reducible rfl
      try simp only [Act.put, List.setIfInBounds_toArray, List.set_cons_zero, List.set_cons_succ]
      refine wpM_take (i := 3) (oi := { dst := some 27, op := .load _ (.tmp 26), type := _, pos := _, after := _, guard := _ }) (v := ?_) (by kernel_rfl) rfl (by kernel_rfl) (by kernel_rfl) (by kernel_rfl) ?_ hS ?_
      rotate_left
      · intro Y hY
        obtain ⟨⟨y0, y1⟩, y2, y3, ⟨y4, y5⟩, y6, y7⟩ := hY
        go_simp
        try with_reducible rfl
      try simp only [Act.put, List.setIfInBounds_toArray, List.set_cons_zero, List.set_cons_succ]
      refine wpM_take (i := 4) (oi := { dst := some 28, op := .fieldAddr _ (.tmp 5) 0, type := _, pos := _, after := _, guard := _ }) (v := ?_) (by kernel_rfl) rfl (by kernel_rfl) (by kernel_rfl) (by kernel_rfl) ?_ hS ?_
      rotate_left
      · intro Y hY
        obtain ⟨⟨y0, y1⟩, y2, y3, ⟨y4, y5⟩, y6, y7⟩ := hY
        go_simp
        try with_reducible rfl
      try simp only [Act.put, List.setIfInBounds_toArray, List.set_cons_zero, List.set_cons_succ]
      refine wpM_take (i := 5) (oi := { dst := some 29, op := .load _ (.tmp 28), type := _, pos := _, after := _, guard := _ }) (v := ?_) (by kernel_rfl) rfl (by kernel_rfl) (by kernel_rfl) (by kernel_rfl) ?_ hS ?_
      rotate_left
      · intro Y hY
        obtain ⟨⟨y0, y1⟩, y2, y3, ⟨y4, y5⟩, y6, y7⟩ := hY
        go_simp
        try with_reducible rfl
      try simp only [Act.put, List.setIfInBounds_toArray, List.set_cons_zero, List.set_cons_succ]
      refine wpM_take (i := 6) (oi := { dst := some 30, op := .load _ (.tmp 4), type := _, pos := _, after := _, guard := _ }) (v := ?_) (by kernel_rfl) rfl (by kernel_rfl) (by kernel_rfl) (by kernel_rfl) ?_ hS ?_
      rotate_left
      · intro Y hY
        obtain ⟨⟨y0, y1⟩, y2, y3, ⟨y4, y5⟩, y6, y7⟩ := hY
        go_simp
        try with_reducible rfl
      try simp only [Act.put, List.setIfInBounds_toArray, List.set_cons_zero, List.set_cons_succ]
      refine wpM_take (i := 7) (oi := { dst := some 31, op := .binOp .add _ (.tmp 29) (.tmp 30) _, type := _, pos := _, after := _, guard := _ }) (v := ?_) (by kernel_rfl) rfl (by kernel_rfl) (by kernel_rfl) (by kernel_rfl) ?_ hS ?_
      rotate_left
      · intro Y hY
        obtain ⟨⟨y0, y1⟩, y2, y3, ⟨y4, y5⟩, y6, y7⟩ := hY
        go_simp
        try with_reducible rfl
      try simp only [Act.put, List.setIfInBounds_toArray, List.set_cons_zero, List.set_cons_succ]
      refine wpM_take (i := 8) (oi := { dst := some 32, op := .indexAddr _ (.tmp 27) (.tmp 31), type := _, pos := _, after := _, guard := _ }) (v := ?_) (by kernel_rfl) rfl (by kernel_rfl) (by kernel_rfl) (by kernel_rfl) ?_ hS ?_
      rotate_left
      · intro Y hY
        obtain ⟨⟨y0, y1⟩, y2, y3, ⟨y4, y5⟩, y6, y7⟩ := hY
        go_simp
        try with_reducible rfl
      try simp only [Act.put, List.setIfInBounds_toArray, List.set_cons_zero, List.set_cons_succ]
      refine wpM_take (i := 9) (oi := { dst := some 33, op := .load _ (.tmp 32), type := _, pos := _, after := _, guard := _ }) (v := ?_) (by kernel_rfl) rfl (by kernel_rfl) (by kernel_rfl) (by kernel_rfl) ?_ hS ?_
      rotate_left
      · intro Y hY
        obtain ⟨⟨y0, y1⟩, y2, y3, ⟨y4, y5⟩, y6, y7⟩ := hY
        go_simp
        try with_reducible rfl
      try simp only [Act.put, List.setIfInBounds_toArray, List.set_cons_zero, List.set_cons_succ]
      refine wpM_take (i := 10) (oi := { dst := some 34, op := .fieldAddr _ (.tmp 5) 1, type := _, pos := _, after := _, guard := _ }) (v := ?_) (by kernel_rfl) rfl (by kernel_rfl) (by kernel_rfl) (by kernel_rfl) ?_ hS ?_
      rotate_left
      · intro Y hY
        obtain ⟨⟨y0, y1⟩, y2, y3, ⟨y4, y5⟩, y6, y7⟩ := hY
        go_simp
        try with_reducible rfl
      try simp only [Act.put, List.setIfInBounds_toArray, List.set_cons_zero, List.set_cons_succ]
      refine wpM_take (i := 11) (oi := { dst := some 35, op := .load _ (.tmp 34), type := _, pos := _, after := _, guard := _ }) (v := ?_) (by kernel_rfl) rfl (by kernel_rfl) (by kernel_rfl) (by kernel_rfl) ?_ hS ?_
      rotate_left
      · intro Y hY
        obtain ⟨⟨y0, y1⟩, y2, y3, ⟨y4, y5⟩, y6, y7⟩ := hY
        go_simp
        try with_reducible rfl
      try simp only [Act.put, List.setIfInBounds_toArray, List.set_cons_zero, List.set_cons_succ]
      refine wpM_take (i := 12) (oi := { dst := some 36, op := .fieldAddr _ (.tmp 6) 0, type := _, pos := _, after := _, guard := _ }) (v := ?_) (by kernel_rfl) rfl (by kernel_rfl) (by kernel_rfl) (by kernel_rfl) ?_ hS ?_
      rotate_left
      · intro Y hY
        obtain ⟨⟨y0, y1⟩, y2, y3, ⟨y4, y5⟩, y6, y7⟩ := hY
        go_simp
        try with_reducible rfl
      try simp only [Act.put, List.setIfInBounds_toArray, List.set_cons_zero, List.set_cons_succ]
      refine wpM_take (i := 13) (oi := { dst := some 37, op := .load _ (.tmp 36), type := _, pos := _, after := _, guard := _ }) (v := ?_) (by kernel_rfl) rfl (by kernel_rfl) (by kernel_rfl) (by kernel_rfl) ?_ hS ?_
      rotate_left
      · intro Y hY
        obtain ⟨⟨y0, y1⟩, y2, y3, ⟨y4, y5⟩, y6, y7⟩ := hY
        go_simp
        try with_reducible rfl
      try simp only [Act.put, List.setIfInBounds_toArray, List.set_cons_zero, List.set_cons_succ]
      refine wpM_take (i := 14) (oi := { dst := some 38, op := .load _ (.tmp 4), type := _, pos := _, after := _, guard := _ }) (v := ?_) (by kernel_rfl) rfl (by kernel_rfl) (by kernel_rfl) (by kernel_rfl) ?_ hS ?_
      rotate_left
      · intro Y hY
        obtain ⟨⟨y0, y1⟩, y2, y3, ⟨y4, y5⟩, y6, y7⟩ := hY
        go_simp
        try with_reducible rfl
      try simp only [Act.put, List.setIfInBounds_toArray, List.set_cons_zero, List.set_cons_succ]
      refine wpM_take (i := 15) (oi := { dst := some 39, op := .binOp .add _ (.tmp 37) (.tmp 38) _, type := _, pos := _, after := _, guard := _ }) (v := ?_) (by kernel_rfl) rfl (by kernel_rfl) (by kernel_rfl) (by kernel_rfl) ?_ hS ?_
      rotate_left
      · intro Y hY
        obtain ⟨⟨y0, y1⟩, y2, y3, ⟨y4, y5⟩, y6, y7⟩ := hY
        go_simp
        try with_reducible rfl
      try simp only [Act.put, List.setIfInBounds_toArray, List.set_cons_zero, List.set_cons_succ]
      refine wpM_take (i := 16) (oi := { dst := some 40, op := .fieldAddr _ (.tmp 6) 1, type := _, pos := _, after := _, guard := _ }) (v := ?_) (by kernel_rfl) rfl (by kernel_rfl) (by kernel_rfl) (by kernel_rfl) ?_ hS ?_
      rotate_left
      · intro Y hY
        obtain ⟨⟨y0, y1⟩, y2, y3, ⟨y4, y5⟩, y6, y7⟩ := hY
        go_simp
        try with_reducible rfl
      try simp only [Act.put, List.setIfInBounds_toArray, List.set_cons_zero, List.set_cons_succ]
      refine wpM_take (i := 17) (oi := { dst := some 41, op := .load _ (.tmp 40), type := _, pos := _, after := _, guard := _ }) (v := ?_) (by kernel_rfl) rfl (by kernel_rfl) (by kernel_rfl) (by kernel_rfl) ?_ hS ?_
      rotate_left
      · intro Y hY
        obtain ⟨⟨y0, y1⟩, y2, y3, ⟨y4, y5⟩, y6, y7⟩ := hY
        go_simp
        try with_reducible rfl
      try simp only [Act.put, List.setIfInBounds_toArray, List.set_cons_zero, List.set_cons_succ]
      refine wpM_take (i := 18) (oi := { dst := some 42, op := .build _ #[(0, .tmp 39), (1, .tmp 41)], type := _, pos := _, after := _, guard := _ }) (v := ?_) (by kernel_rfl) rfl (by kernel_rfl) (by kernel_rfl) (by kernel_rfl) ?_ hS ?_
      rotate_left
      · intro Y hY
        obtain ⟨⟨y0, y1⟩, y2, y3, ⟨y4, y5⟩, y6, y7⟩ := hY
        go_simp
        try with_reducible rfl
      try simp only [Act.put, List.setIfInBounds_toArray, List.set_cons_zero, List.set_cons_succ]
      refine wpM_take (i := 19) (oi := { dst := some 43, op := .indexAddr _ (.tmp 33) (.tmp 35), type := _, pos := _, after := _, guard := _ }) (v := ?_) (by kernel_rfl) rfl (by kernel_rfl) (by kernel_rfl) (by kernel_rfl) ?_ hS ?_
      rotate_left
      · intro Y hY
        obtain ⟨⟨y0, y1⟩, y2, y3, ⟨y4, y5⟩, y6, y7⟩ := hY
        go_simp
        try with_reducible rfl
      try simp only [Act.put, List.setIfInBounds_toArray, List.set_cons_zero, List.set_cons_succ]
      refine wpM_one (j := 20) (o := { dst := none, op := _, type := _, pos := _, after := _, guard := _ }) (by kernel_rfl) rfl ?_
      refine .inr ⟨(W.drew.setCell ⟨gr, o + f * 2, none⟩ (.int .i64 (tv + rs0.length))).setCell ⟨gr, o + f * 2 + 1, none⟩ (.int .i64 pv), ?_, ?_⟩
      · go_simp
      refine ⟨fun h => absurd h (Bool.eq_false_iff.1 (by kernel_rfl)), wpM_done (by kernel_rfl) ?_⟩
      have n0 := NE.out w.heap.size (by omega)
      have n2 := NE.out (w.heap.size + 2) (by omega)
      have hsz : ((W.drew.setCell ⟨gr, o + f * 2, none⟩ (.int .i64 (tv + rs0.length))).setCell ⟨gr, o + f * 2 + 1, none⟩ (.int .i64 pv)).heap.size = W.heap.size := by simp [World.setCell]
      refine ⟨((KeepsOthers.drew _).trans ((KeepsOthers.setCell _ _ _).trans (KeepsOthers.setCell _ _ _))).from _, (((Below.refl bb W).drew).setCell (by dsimp only; omega) _).setCell (by dsimp only; omega) _, ⟨⟨?_, ?_⟩, some ⟨g, 0, none⟩, c', rs.set (rs0.length + a) ⟨some ⟨gr, o, none⟩, cr, ((rs.getD (rs0.length + a) nilRw).zs.set (f * 2) (tv + rs0.length)).set (f * 2 + 1) pv⟩, ⟨?_, ?_, ?_, ?_⟩, ?_, ?_⟩, ((HBW.out.drew).setCell (by dsimp only; omega) _).setCell (by dsimp only; omega) _⟩
      · rw [World.cell?_setCell_other _ _ _ _ (by first | (simp; done) | (simp; omega)), World.cell?_setCell_other _ _ _ _ (by first | (simp; done) | (simp; omega))]; exact b0
      · rw [World.cell?_setCell_other _ _ _ _ (by first | (simp; done) | (simp; omega)), World.cell?_setCell_other _ _ _ _ (by first | (simp; done) | (simp; omega))]; exact b2
      · rw [World.cell?_setCell_other _ _ _ _ (by first | (simp; done) | (simp; omega)), World.cell?_setCell_other _ _ _ _ (by first | (simp; done) | (simp; omega)), List.length_set]; exact o0
      · rw [World.cell?_setCell_other _ _ _ _ (by first | (simp; done) | (simp; omega)), World.cell?_setCell_other _ _ _ _ (by first | (simp; done) | (simp; omega))]; exact OW.out.map
      · rw [World.frozen?_setCell, World.frozen?_setCell]; exact OW.out.free
      · rw [hsz]; exact (SET.out (tv + rs0.length) pv).keep (fun _ _ _ => rfl)
      · intro z hz
        refine ⟨(AW.out z hz).1, fun q hq => ?_⟩
        rcases List.mem_or_eq_of_mem_set hq with hq | rfl
        · exact (AW.out z hz).2 q hq
        · intro u hu _
          cases hu
          exact NE.out z hz
      · rw [SN.out, NX.out, ← VL.out, GZ.out, vals, List.map_set]
        rfl
  case done =>
    rintro D W hD ⟨⟨⟨b0, b2⟩, A', c', rs, hO, hAp, hVl⟩, hB⟩ hK
    have VN := Lib.hid (show vals rs = vals rs0 ++ Tr.shT rs0.length T from by
      have e1 := Tr.cpy_all rs0.length T (vals rs0)
      rw [Go.Proofs.YtajbahfbldmckaaDoor.Fc.vals_len, LN.out] at e1
      rw [hVl]
      exact e1)
    gi_wp2
    have hBD := hB.trans (belowK_b (w := w) (Nat.le_of_lt hlt) W D (.deferred (some [])) (.deferred none) (by omega) hK rfl rfl)
    exact leave2 hK (results_none rfl _ _ _) ⟨rfl, ⟨A', c', rs, hO.grownC (grownBy_putObj' _ D (.deferred none)) (fun r e => by cases e; exact ⟨_, hK, rfl⟩), VN.out⟩, hBD⟩

end Fc
end Go.Proofs.YtajbahfbldmckaaDoor

namespace Go.Proofs.YtajbahfbldmckaaDoor
open Go.RowKit

set_option maxRecDepth 100000 in
theorem wideK : (match Tryd.prog.underlying 78 with | some (.array _ _) | some (.struct _) => true | _ => false) = true := by rw [Tryd.underlying78]
set_option maxRecDepth 100000 in
theorem rowK : (78 : TypeId) < Tryd.prog.types.size := of_decide_eq_true (by kernel_rfl)
set_option maxRecDepth 100000 in
theorem laidOutK : laidOutB Tryd.prog = true := by kernel_rfl
set_option maxRecDepth 100000 in
theorem lawK : Maps.Keyed Tryd.prog 78 := Maps.Keyed.of_law (deep_law_laid laidOutK (m := 2) (by omega) rowK (by kernel_rfl) wideK)
def arr (a b c d : Nat) : Value := .agg #[.int .u8 (a : Int), .int .u8 (b : Int), .int .u8 (c : Int), .int .u8 (d : Int)]
noncomputable def keyL (a b c d : Nat) : Lit := (keyOf Tryd.prog 78 (arr a b c d)).getD (.bool false)
set_option maxRecDepth 100000 in
theorem key_some : ∀ a, a < 4 → ∀ b, b < 4 → ∀ c, c < 4 → ∀ d, d < 4 → (keyOf Tryd.prog 78 (arr a b c d)).isSome = true := by decide +kernel
set_option maxRecDepth 100000 in
theorem keyL_of {a b c d : Nat} (ha : a < 4) (hb : b < 4) (hc : c < 4) (hd : d < 4) : keyOf Tryd.prog 78 (arr a b c d) = some (keyL a b c d) := by
  have h := key_some a ha b hb c hc d hd
  unfold keyL
  rcases Option.isSome_iff_exists.1 h with ⟨x, hx⟩
  rw [hx]; rfl
/-- The key of a list of four numbers. -/
noncomputable def keyI (l : List Int) : Lit := keyL (l.getD 0 0).toNat (l.getD 1 0).toNat (l.getD 2 0).toNat (l.getD 3 0).toNat
/-- What the map holds when k permutations have been entered. -/
noncomputable def MD : Nat → DataW Unit
  | 0 => .map []
  | k + 1 => (MD k).put (keyI (P4.im k)) (.lit (.int .i64 (k : Int)))
def dval : DataW Unit → Option Int
  | .lit (.int .i64 c) => some c
  | _ => none
set_option maxRecDepth 100000 in
theorem look_all : ∀ a, a < 4 → ∀ b, b < 4 → ∀ c, c < 4 → ∀ d, d < 4 → dval ((MD 24).atKey (keyL a b c d) (.lit (.int .i64 0))) = some (if P4.ix [(a : Int), (b : Int), (c : Int), (d : Int)] < 24 then (P4.ix [(a : Int), (b : Int), (c : Int), (d : Int)] : Int) else 0) := by decide +kernel
set_option maxRecDepth 100000 in
theorem has_all : ∀ a, a < 4 → ∀ b, b < 4 → ∀ c, c < 4 → ∀ d, d < 4 → Maps.has (MD 24) (keyL a b c d) = decide (P4.ix [(a : Int), (b : Int), (c : Int), (d : Int)] < 24) := by decide +kernel
end Go.Proofs.YtajbahfbldmckaaDoor

namespace Go.Proofs.YtajbahfbldmckaaDoor
open Go.RowKit

/-- The map lies in block b. -/
def MapAt (w : World) (b : Nat) : Prop := w.ownsMap Tryd.prog 78 (plainElem Tryd.prog 2) b 24 (MD 24)
set_option maxRecDepth 100000 in
theorem owns_below {w w' : World} {b n B : Nat} {D : DataW Unit} (h : w.ownsMap Tryd.prog 78 (plainElem Tryd.prog 2) b n D) (hb : Below B w w') (hB : b < B) : w'.ownsMap Tryd.prog 78 (plainElem Tryd.prog 2) b n D := by
  obtain ⟨es, clock, h1, F, hs, hD⟩ := h
  exact ⟨es, clock, (hb.block b hB).trans h1, F, hs, hD⟩
set_option maxRecDepth 100000 in
theorem row_index : ∀ k : Nat, k < 24 → ∀ w : World, (Instr.index 131 (.agg TC.toArray) (.int .i64 (k : Int))).run Tryd.prog w = .ok (.agg (cP (P4.im k)).toArray) w := by
  intro k hk w
  have h : k = 0 ∨ k = 1 ∨ k = 2 ∨ k = 3 ∨ k = 4 ∨ k = 5 ∨ k = 6 ∨ k = 7 ∨ k = 8 ∨ k = 9 ∨ k = 10 ∨ k = 11 ∨ k = 12 ∨ k = 13 ∨ k = 14 ∨ k = 15 ∨ k = 16 ∨ k = 17 ∨ k = 18 ∨ k = 19 ∨ k = 20 ∨ k = 21 ∨ k = 22 ∨ k = 23 := by omega
  rcases h with rfl | rfl | rfl | rfl | rfl | rfl | rfl | rfl | rfl | rfl | rfl | rfl | rfl | rfl | rfl | rfl | rfl | rfl | rfl | rfl | rfl | rfl | rfl | rfl
  · exact (show ∀ w : World, (Instr.index 131 (.agg TC.toArray) (.int .i64 ((0 : Nat) : Int))).run Tryd.prog w = .ok (.agg (cP (P4.im 0)).toArray) w from fun w => by kernel_rfl) w
  · exact (show ∀ w : World, (Instr.index 131 (.agg TC.toArray) (.int .i64 ((1 : Nat) : Int))).run Tryd.prog w = .ok (.agg (cP (P4.im 1)).toArray) w from fun w => by kernel_rfl) w
  · exact (show ∀ w : World, (Instr.index 131 (.agg TC.toArray) (.int .i64 ((2 : Nat) : Int))).run Tryd.prog w = .ok (.agg (cP (P4.im 2)).toArray) w from fun w => by kernel_rfl) w
  · exact (show ∀ w : World, (Instr.index 131 (.agg TC.toArray) (.int .i64 ((3 : Nat) : Int))).run Tryd.prog w = .ok (.agg (cP (P4.im 3)).toArray) w from fun w => by kernel_rfl) w
  · exact (show ∀ w : World, (Instr.index 131 (.agg TC.toArray) (.int .i64 ((4 : Nat) : Int))).run Tryd.prog w = .ok (.agg (cP (P4.im 4)).toArray) w from fun w => by kernel_rfl) w
  · exact (show ∀ w : World, (Instr.index 131 (.agg TC.toArray) (.int .i64 ((5 : Nat) : Int))).run Tryd.prog w = .ok (.agg (cP (P4.im 5)).toArray) w from fun w => by kernel_rfl) w
  · exact (show ∀ w : World, (Instr.index 131 (.agg TC.toArray) (.int .i64 ((6 : Nat) : Int))).run Tryd.prog w = .ok (.agg (cP (P4.im 6)).toArray) w from fun w => by kernel_rfl) w
  · exact (show ∀ w : World, (Instr.index 131 (.agg TC.toArray) (.int .i64 ((7 : Nat) : Int))).run Tryd.prog w = .ok (.agg (cP (P4.im 7)).toArray) w from fun w => by kernel_rfl) w
  · exact (show ∀ w : World, (Instr.index 131 (.agg TC.toArray) (.int .i64 ((8 : Nat) : Int))).run Tryd.prog w = .ok (.agg (cP (P4.im 8)).toArray) w from fun w => by kernel_rfl) w
  · exact (show ∀ w : World, (Instr.index 131 (.agg TC.toArray) (.int .i64 ((9 : Nat) : Int))).run Tryd.prog w = .ok (.agg (cP (P4.im 9)).toArray) w from fun w => by kernel_rfl) w
  · exact (show ∀ w : World, (Instr.index 131 (.agg TC.toArray) (.int .i64 ((10 : Nat) : Int))).run Tryd.prog w = .ok (.agg (cP (P4.im 10)).toArray) w from fun w => by kernel_rfl) w
  · exact (show ∀ w : World, (Instr.index 131 (.agg TC.toArray) (.int .i64 ((11 : Nat) : Int))).run Tryd.prog w = .ok (.agg (cP (P4.im 11)).toArray) w from fun w => by kernel_rfl) w
  · exact (show ∀ w : World, (Instr.index 131 (.agg TC.toArray) (.int .i64 ((12 : Nat) : Int))).run Tryd.prog w = .ok (.agg (cP (P4.im 12)).toArray) w from fun w => by kernel_rfl) w
  · exact (show ∀ w : World, (Instr.index 131 (.agg TC.toArray) (.int .i64 ((13 : Nat) : Int))).run Tryd.prog w = .ok (.agg (cP (P4.im 13)).toArray) w from fun w => by kernel_rfl) w
  · exact (show ∀ w : World, (Instr.index 131 (.agg TC.toArray) (.int .i64 ((14 : Nat) : Int))).run Tryd.prog w = .ok (.agg (cP (P4.im 14)).toArray) w from fun w => by kernel_rfl) w
  · exact (show ∀ w : World, (Instr.index 131 (.agg TC.toArray) (.int .i64 ((15 : Nat) : Int))).run Tryd.prog w = .ok (.agg (cP (P4.im 15)).toArray) w from fun w => by kernel_rfl) w
  · exact (show ∀ w : World, (Instr.index 131 (.agg TC.toArray) (.int .i64 ((16 : Nat) : Int))).run Tryd.prog w = .ok (.agg (cP (P4.im 16)).toArray) w from fun w => by kernel_rfl) w
  · exact (show ∀ w : World, (Instr.index 131 (.agg TC.toArray) (.int .i64 ((17 : Nat) : Int))).run Tryd.prog w = .ok (.agg (cP (P4.im 17)).toArray) w from fun w => by kernel_rfl) w
  · exact (show ∀ w : World, (Instr.index 131 (.agg TC.toArray) (.int .i64 ((18 : Nat) : Int))).run Tryd.prog w = .ok (.agg (cP (P4.im 18)).toArray) w from fun w => by kernel_rfl) w
  · exact (show ∀ w : World, (Instr.index 131 (.agg TC.toArray) (.int .i64 ((19 : Nat) : Int))).run Tryd.prog w = .ok (.agg (cP (P4.im 19)).toArray) w from fun w => by kernel_rfl) w
  · exact (show ∀ w : World, (Instr.index 131 (.agg TC.toArray) (.int .i64 ((20 : Nat) : Int))).run Tryd.prog w = .ok (.agg (cP (P4.im 20)).toArray) w from fun w => by kernel_rfl) w
  · exact (show ∀ w : World, (Instr.index 131 (.agg TC.toArray) (.int .i64 ((21 : Nat) : Int))).run Tryd.prog w = .ok (.agg (cP (P4.im 21)).toArray) w from fun w => by kernel_rfl) w
  · exact (show ∀ w : World, (Instr.index 131 (.agg TC.toArray) (.int .i64 ((22 : Nat) : Int))).run Tryd.prog w = .ok (.agg (cP (P4.im 22)).toArray) w from fun w => by kernel_rfl) w
  · exact (show ∀ w : World, (Instr.index 131 (.agg TC.toArray) (.int .i64 ((23 : Nat) : Int))).run Tryd.prog w = .ok (.agg (cP (P4.im 23)).toArray) w from fun w => by kernel_rfl) w
set_option maxRecDepth 100000 in
theorem size24 : (Tryd.prog.info? 131).map (·.size) = some 96 := by kernel_rfl
set_option maxRecDepth 100000 in
theorem run_mm (w : World) : (Instr.makeMap 110 (some (.int .i64 24))).run Tryd.prog w = .ok (.map (some w.heap.size)) (w.alloc (.map #[] 0)) := by kernel_rfl
set_option maxRecDepth 100000 in
theorem zeroI (w : World) : (zeroValue 2).run Tryd.prog w = .ok (.int .i64 0) w := by kernel_rfl

set_option maxRecDepth 100000 in
set_option maxHeartbeats 4000000 in
theorem indices_impl (w : World) (ht : Tb w) :
    Calls Tryd.prog 85 #[] w fun e w' => e = .returned (.map (some w.heap.size)) ∧ MapAt w' w.heap.size ∧ Below w.heap.size w w' := by
  have HT := Lib.hid ht
  have h0 : 3 < w.heap.size := World.block_lt_of_cell? w ⟨3, 0, none⟩ (ht 0 (.int .u8 0) rfl)
  have hmm := run_mm
  have RX := Lib.hid row_index
  obtain ⟨X, hX⟩ : ∃ X, TC.toArray = X := ⟨_, rfl⟩
  have HX := Lib.hid hX
  rw [hX] at RX
  clear hX ht
  go_enter Tryd.func85, Tryd.ntmps85
  go_upto_region 2 with fail
  have O1 := Lib.hid (World.ownsMap_made w Tryd.prog 78 (plainElem (H := Unit) Tryd.prog 2))
  have D1 := Lib.hid (al1 w (Obj.map #[] 0))
  obtain ⟨V, hV⟩ : ∃ V, V = w.alloc (Obj.map #[] 0) := ⟨_, rfl⟩
  have sV : w.heap.size + 1 ≤ V.heap.size := by rw [hV]; simp
  rw [← hV] at O1 D1 ⊢
  clear hV hmm
  obtain ⟨g, hg⟩ : ∃ g, w.heap.size = g := ⟨_, rfl⟩
  have TV := Lib.hid (HT.out.below D1.out h0)
  have HG := Lib.hid hg
  rw [hg] at O1 D1 sV h0 ⊢
  clear hg
  go_wp2_with (refine wpList_load_mid rfl 131 (.global 3) rfl 3 0 rfl TC (.array 24 78) TV.out Tryd.underlying131 rfl size24 ?_; rw [HX.out])
  go_loopw [6] (fun i W => ∃ k : Nat, k ≤ 24 ∧ i = .int .i64 k ∧ W.ownsMap Tryd.prog 78 (plainElem Tryd.prog 2) g k (MD k) ∧ Below g V W) (fun i _ => 24 - (intOf i).toNat)
  case atStart => exact ⟨0, Nat.zero_le _, rfl, O1.out, Below.refl _ _⟩
  case round =>
    obtain ⟨k, hk, rfl, hown, hbel⟩ := hrel
    have O := Lib.hid hown
    have D := Lib.hid hbel
    have lO := hown.lt
    have zD := hbel.size
    clear hown hbel
    by_cases hlt : k < 24
    · have ix := RX.out k hlt
      obtain ⟨x0, x1, x2, x3, hx, b0, b1, b2, b3⟩ := (L4.im hlt).four
      have NX := Lib.hid (show MD (k + 1) = (MD k).put (keyL x0 x1 x2 x3) (.lit (.int .i64 (k : Int))) from by rw [MD, keyI, hx]; rfl)
      have KY := Lib.hid (keyL_of b0 b1 b2 b3)
      rw [hx] at ix
      have ix2 : ∀ w : World, (Instr.index 131 (.agg X) (.int .i64 (k : Int))).run Tryd.prog w = .ok (.agg #[.int .u8 (x0 : Int), .int .u8 (x1 : Int), .int .u8 (x2 : Int), .int .u8 (x3 : Int)]) w := ix
      have i1 : (k : Int) < 24 := by omega
      have kw : (Lit.int .i64 (k : Int)).wf = true := by
        have h1 : -9223372036854775808 ≤ (k : Int) ∧ (k : Int) ≤ 9223372036854775807 := by omega
        simp [Lit.wf, h1]
        exact h1.1
      have KW := Lib.hid kw
      clear hx ix kw
      go_wp2_with (at_mapUpdate; refine wpList_mapUpdate_own (H := Unit) _ rfl _ _ _ 110 rfl 78 2 lawK Tryd.underlying110 (plainElem Tryd.prog 2) g k (MD k) rfl (by exact O.out.alloc _) (by unfold maxLen; omega) _ _ _ rfl rfl (by exact KY.out) (.lit (.int .i64 (k : Int))) [] (plainElem_int Tryd.underlying2 KW.out) ?_; intro w7 h5 h6; have O7 := Lib.hid h5; have D7 := Lib.hid (Below.grown (D.out.alloc (by omega) (Obj.cells #[.int .u8 (x0 : Int), .int .u8 (x1 : Int), .int .u8 (x2 : Int), .int .u8 (x3 : Int)] 78)) h6 (by simp; omega) (fun k hk => by cases hk; exact Nat.le_refl _)); clear h5 h6)
      go_roundw
      case rel => exact ⟨k + 1, by omega, by go_num, by rw [NX.out]; exact O7.out, D7.out⟩
      case measure => simp [intOf]; omega
    · obtain rfl : k = 24 := by omega
      go_wp2
      go_ret
      exact ⟨by rw [HG.out]; rfl, by rw [HG.out]; exact O.out, by rw [HG.out]; exact D1.out.trans D.out⟩
end Go.Proofs.YtajbahfbldmckaaDoor

namespace Go.Proofs.YtajbahfbldmckaaDoor
open Go.RowKit
namespace Fc

/-- A builder in memory of its own. -/
def NewB (w : World) (zss : List (List Int)) (e : Ending) (w' : World) : Prop :=
  ∃ bb mb A c rs, e = .returned (.pointer (some ⟨bb, 0, none⟩)) ∧ (w.heap.size ≤ mb ∧ mb < bb) ∧ Bld w' bb mb A c rs ∧ vals rs = zss ∧ MapAt w' mb ∧ Below w.heap.size w w'

set_option maxRecDepth 100000 in
set_option maxHeartbeats 4000000 in
theorem newBuilder_impl (k : Nat) (w : World) (hv : Vs w) (hk : k ≤ 1048576) :
    Calls Tryd.prog 75 #[.int .i64 k] w (NewB w (List.replicate k fr)) := by
  have h0 := hv.pos
  have HV := Lib.hid hv
  clear hv
  go_enter Tryd.func75, Tryd.ntmps75
  go_wp2_with fail
  refine (indices_impl w HV.out.1).mono ?_
  rintro e w1 ⟨rfl, hm, hb⟩
  have D1 := Lib.hid hb
  have z1 : w.heap.size < w1.heap.size := World.ownsMap.lt hm
  have HV1 := Lib.hid (HV.out.below hb h0.1)
  obtain ⟨V, hV⟩ : ∃ V, V = w1.alloc (Obj.cells #[.slice none 0 0, .map (some w.heap.size)] 127) := ⟨_, rfl⟩
  have BV := Lib.hid (show Below w1.heap.size w1 V from by rw [hV]; exact al1 _ _)
  have BB := Lib.hid (show Bld V w1.heap.size w.heap.size none 0 [] from ⟨by rw [hV]; simp [go_sem], by rw [hV]; simp [go_sem], by rw [hV]; simp [go_sem], OwnS.nil _ _ _⟩)
  have M1 := Lib.hid (owns_below hm BV.out z1)
  clear hm hb
  go_wp2_with fail
  rw [← hV]
  clear hV
  refine (addTets_impl w1.heap.size w.heap.size k none 0 [] V BB.out (HV1.out.below BV.out (by omega)) (by omega) (by simpa using hk) (fun _ => False) (fun _ h => h.elim) (fun _ h => h.elim)).mono ?_
  rintro e w2 ⟨rfl, ⟨A', c', rs', hB2, hv2, _, _⟩, hb2⟩
  have B2 := Lib.hid hB2
  have V2 := Lib.hid (show vals rs' = List.replicate k fr from by rw [hv2]; rfl)
  have M2 := Lib.hid (owns_below M1.out hb2 z1)
  have D2 := Lib.hid ((D1.out.trans (BV.out.mono (by omega))).trans (hb2.mono (by omega)))
  clear hB2 hv2 hb2
  go_wp2
  go_ret
  exact ⟨w1.heap.size, w.heap.size, A', c', rs', rfl, ⟨Nat.le_refl _, z1⟩, B2.out, V2.out, M2.out, D2.out⟩

end Fc
end Go.Proofs.YtajbahfbldmckaaDoor

namespace Go.Proofs.YtajbahfbldmckaaDoor
open Go.RowKit
namespace Fc

set_option maxRecDepth 100000 in
set_option maxHeartbeats 4000000 in
theorem builderOf_impl (A : Option Addr) (n c : Nat) (T : List (List Int)) (w : World) (h : RdT w w.heap.size A n T) (hv : Vs w) (hT : Tr.Is T) :
    Calls Tryd.prog 49 #[.agg #[.slice A n c]] w (NewB w T) := by
  have h0 := hv.pos
  have HT := Lib.hid h
  have h8 : n ≤ 8 := by rw [← h.len]; exact hT.1
  obtain ⟨U, hU⟩ : ∃ U, U = w.alloc (Obj.cells #[.slice A n c] 28) := ⟨_, rfl⟩
  have hB : Below w.heap.size w U := by rw [hU]; exact al1 _ _
  have z : w.heap.size < U.heap.size := by rw [hU]; simp
  have k0 : U.cell? ⟨w.heap.size, 0, none⟩ = some (.slice A n c) := by rw [hU]; simp [go_sem]
  have DU := Lib.hid hB
  have VU := Lib.hid (hv.below hB h0.1)
  clear h hv hB
  go_enter Tryd.func49, Tryd.ntmps49
  go_wp2_with fail
  rw [← hU]
  clear hU
  refine (newBuilder_impl 0 U VU.out (by omega)).mono ?_
  rintro e w1 ⟨bb, mb, A1, c1, rs1, rfl, ⟨g1, g2⟩, hB1, hV1, hM1, hb1⟩
  have k0 := (hb1.cell (p := ⟨w.heap.size, 0, none⟩) (by dsimp only; omega)).trans k0
  have D1 := Lib.hid (DU.out.trans (hb1.mono (by omega)))
  have R1 := Lib.hid ((HT.out.below D1.out).more (show w.heap.size ≤ bb by omega))
  have V1 := Lib.hid (VU.out.below hb1 (by omega))
  have M1 := Lib.hid hM1
  obtain rfl : rs1 = [] := by cases rs1 with | nil => rfl | cons r rs => simp [vals] at hV1
  have AT := Lib.hid (addTri_impl bb mb n c A T A1 c1 [] w1 R1.out hB1 V1.out (by omega) hT (by simp; omega))
  have z1 : bb < w1.heap.size := hB1.lt
  clear hM1 hb1 hB1 hV1
  go_wp2_with fail
  refine AT.out.mono ?_
  rintro e w2 ⟨rfl, ⟨A', c', rs', hB2, hv2⟩, hb2⟩
  have B2 := Lib.hid hB2
  have V2 := Lib.hid (show vals rs' = T from by rw [hv2]; exact (congrArg _ (Tr.shT_zero hT)).trans rfl)
  have M2 := Lib.hid (owns_below M1.out hb2 g2)
  have D2 := Lib.hid (D1.out.trans (hb2.mono (by omega)))
  clear hB2 hv2 hb2
  go_wp2
  go_ret
  exact ⟨bb, mb, A', c', rs', rfl, ⟨by omega, g2⟩, B2.out, V2.out, M2.out, D2.out⟩

set_option maxRecDepth 100000 in
theorem triang_impl (bb mb : Nat) (A : Option Addr) (c : Nat) (rs : List Rw) (w : World) (h : Bld w bb mb A c rs) :
    Calls Tryd.prog 51 #[.pointer (some ⟨bb, 0, none⟩)] w fun e w' => e = .returned (.agg #[.slice A rs.length c]) ∧ Below w.heap.size w w' := by
  have hc := h.cell
  have hl := h.lt
  clear h
  go_enter Tryd.func51, Tryd.ntmps51
  go_wp2
  refine bodyPost_ret (v := .agg #[.slice A rs.length c]) (by simp [results, Tryd.results51, go_sem]) rfl ?_
  exact ⟨rfl, al1 _ _⟩

set_option maxRecDepth 100000 in
set_option maxHeartbeats 8000000 in
theorem addTet_impl (A : Option Addr) (n c : Nat) (T : List (List Int)) (w : World) (h : RdT w w.heap.size A n T) (hv : Vs w) (hn : n ≤ 1048576) :
    Calls Tryd.prog 16 #[.agg #[.slice A n c]] w (ResTC w (Tr.addT T) (Tr.addC T)) := by
  have h0 := hv.pos
  have LN := Lib.hid h.len
  have HT := Lib.hid h
  have HV := Lib.hid hv
  clear h hv
  obtain ⟨U, hU⟩ : ∃ U, U = (w.alloc (Obj.cells #[.slice A n c] 28)).alloc (Obj.cells #[.slice none 0 0] 28) := ⟨_, rfl⟩
  have hB : Below w.heap.size w U := by rw [hU]; exact al2 w _ _
  have z : U.heap.size = w.heap.size + 2 := by rw [hU]; simp
  have k0 : U.cell? ⟨w.heap.size, 0, none⟩ = some (.slice A n c) := by rw [hU]; simp [go_sem]
  have k1 : U.cell? ⟨w.heap.size + 1, 0, none⟩ = some (.slice none 0 0) := by rw [hU]; simp [go_sem]
  have f1 : U.frozen? ⟨w.heap.size + 1, 0, none⟩ = false := by rw [hU]; simp [go_sem]
  have DU := Lib.hid hB
  have TI := Lib.hid (isTri_implT A n c T U (HT.out.into hB) (HV.out.below hB h0.1) hn)
  clear hB
  go_enter Tryd.func16, Tryd.ntmps16
  go_upto_region 1 with fail
  rw [← hU]
  clear hU
  go_wp2_with fail
  refine TI.out.mono ?_
  rintro e w1 ⟨rfl, hb⟩
  have k0 := (hb.cell (p := ⟨w.heap.size, 0, none⟩) (by dsimp only; omega)).trans k0
  have k1 := (hb.cell (p := ⟨w.heap.size + 1, 0, none⟩) (by dsimp only; omega)).trans k1
  have f1 := (hb.frozen (p := ⟨w.heap.size + 1, 0, none⟩) (by dsimp only; omega)).trans f1
  have z1 : U.heap.size ≤ w1.heap.size := hb.size
  have D1 := Lib.hid (DU.out.trans (hb.mono (by omega)))
  clear hb TI DU
  by_cases hok : Tr.Is T
  case neg =>
    rw [decide_eq_false hok]
    have R := Lib.hid (show Tr.addT T = [] ∧ Tr.addC T = 1 from by unfold Tr.addT Tr.addC; rw [if_neg (fun e => hok e.1), if_neg hok]; exact ⟨rfl, rfl⟩)
    clear hok
    go_wp2
    refine bodyPost_ret (v := .tuple #[.agg #[.slice none 0 0], .int .i64 1]) (by simp [results, Tryd.results16, k1, go_sem]) rfl ?_
    rw [R.out.1, R.out.2]
    exact ⟨none, 0, [], rfl, OwnS.nil _ _ _, rfl, D1.out.setCell (by dsimp only; omega) _⟩
  rw [decide_eq_true hok]
  have h8 : n ≤ 8 := by rw [← LN.out]; exact hok.1
  by_cases he : n = 8
  · have R := Lib.hid (show Tr.addT T = [] ∧ Tr.addC T = 3 from by unfold Tr.addT Tr.addC; rw [if_neg (fun e => e.2 (by rw [LN.out]; exact he)), if_pos hok, if_pos (by rw [LN.out]; exact he)]; exact ⟨rfl, rfl⟩)
    subst he
    clear hok
    go_wp2
    refine bodyPost_ret (v := .tuple #[.agg #[.slice none 0 0], .int .i64 3]) (by simp [results, Tryd.results16, k1, go_sem]) rfl ?_
    rw [R.out.1, R.out.2]
    exact ⟨none, 0, [], rfl, OwnS.nil _ _ _, rfl, D1.out.setCell (by dsimp only; omega) _⟩
  have R := Lib.hid (show Tr.addT T = T ++ [fr] ∧ Tr.addC T = 0 from by unfold Tr.addT Tr.addC; rw [if_pos ⟨hok, fun e => he (by rw [← LN.out]; exact e)⟩, if_pos hok, if_neg (fun e => he (by rw [← LN.out]; exact e))]; exact ⟨rfl, rfl⟩)
  have i1 : ¬ (n : Int) = 8 := by omega
  have b1 : ((n : Int) == 8) = false := by simpa using i1
  have BO := Lib.hid (builderOf_impl A n c T w1 (HT.out.into D1.out) (HV.out.below D1.out h0.1) hok)
  clear hok
  go_wp2_with fail
  refine BO.out.mono ?_
  rintro e w2 ⟨bb, mb, A1, c1, rs1, rfl, ⟨g1, g2⟩, hB2, hV2, _, hb2⟩
  have k1 := (hb2.cell (p := ⟨w.heap.size + 1, 0, none⟩) (by dsimp only; omega)).trans k1
  have f1 := (hb2.frozen (p := ⟨w.heap.size + 1, 0, none⟩) (by dsimp only; omega)).trans f1
  have D2 := Lib.hid (D1.out.trans (hb2.mono (by omega)))
  have l2 : rs1.length ≤ 8 := by rw [← Fc.vals_len, hV2, LN.out]; exact h8
  have V2 := Lib.hid hV2
  have z2 : w1.heap.size ≤ w2.heap.size := hb2.size
  have AT := Lib.hid (addTets_impl bb mb 1 A1 c1 rs1 w2 hB2 (HV.out.below D2.out h0.1) (by omega) (by omega) (fun _ => False) (fun _ h => h.elim) (fun _ h => h.elim))
  clear hB2 hV2 hb2 BO
  go_wp2_with fail
  refine AT.out.mono ?_
  rintro e w3 ⟨rfl, ⟨A3, c3, rs3, hB3, hV3, _, _⟩, hb3⟩
  have k1 := (hb3.cell (p := ⟨w.heap.size + 1, 0, none⟩) (by dsimp only; omega)).trans k1
  have f1 := (hb3.frozen (p := ⟨w.heap.size + 1, 0, none⟩) (by dsimp only; omega)).trans f1
  have D3 := Lib.hid (D2.out.trans (hb3.mono (by omega)))
  have B3 := Lib.hid hB3
  have V3 := Lib.hid (show vals rs3 = T ++ [fr] from by rw [hV3, V2.out]; rfl)
  have z3 : w2.heap.size ≤ w3.heap.size := hb3.size
  clear hB3 hV3 hb3 AT
  go_wp2_with fail
  refine (triang_impl bb mb A3 c3 rs3 w3 B3.out).mono ?_
  rintro e w4 ⟨rfl, hb4⟩
  have k1 := (hb4.cell (p := ⟨w.heap.size + 1, 0, none⟩) (by dsimp only; omega)).trans k1
  have f1 := (hb4.frozen (p := ⟨w.heap.size + 1, 0, none⟩) (by dsimp only; omega)).trans f1
  have D4 := Lib.hid (D3.out.trans (hb4.mono (by omega)))
  have B4 := Lib.hid (B3.out.below hb4)
  clear hb4
  go_wp2
  refine bodyPost_ret (v := .tuple #[.agg #[.slice A3 rs3.length c3], .int .i64 0]) (by simp [results, Tryd.results16, k1, go_sem]) rfl ?_
  rw [R.out.1, R.out.2]
  exact ⟨A3, c3, rs3, rfl, (B4.out.own.far (p := ⟨w.heap.size + 1, 0, none⟩) (.inl (by dsimp only; omega)) _).wide (by omega) (by simp [World.setCell]), V3.out, D4.out.setCell (by dsimp only; omega) _⟩

end Fc
end Go.Proofs.YtajbahfbldmckaaDoor

namespace Go.Proofs.YtajbahfbldmckaaDoor
open Go.RowKit Go.Shelf
/-- What UnglueFace hands back: its code and its triangulation. -/
def Tr.ugC (T : List (List Int)) (a f : Int) : Int := if Tr.Is T then (if (0 ≤ a ∧ a < T.length) ∧ (0 ≤ f ∧ f < 4) then (if Tr.Bd T a.toNat f.toNat then 5 else 0) else 2) else 1
def Tr.ugT (T : List (List Int)) (a f : Int) : List (List Int) := if Tr.ugC T a f = 0 then Tr.setF (Tr.setF T a.toNat f.toNat (-1) 0) (Tr.tt T a.toNat f.toNat).toNat (Tr.mt T a.toNat f.toNat) (-1) 0 else []
theorem Tr.ug_1 {T : List (List Int)} {a f : Int} (h : ¬ Tr.Is T) : Tr.ugT T a f = [] ∧ Tr.ugC T a f = 1 := by
  have hc : Tr.ugC T a f = 1 := by unfold Tr.ugC; rw [if_neg h]
  exact ⟨by unfold Tr.ugT; rw [if_neg (by omega)], hc⟩
theorem Tr.ug_2 {T : List (List Int)} {a f : Int} (h : Tr.Is T) (h2 : ¬ ((0 ≤ a ∧ a < T.length) ∧ (0 ≤ f ∧ f < 4))) : Tr.ugT T a f = [] ∧ Tr.ugC T a f = 2 := by
  have hc : Tr.ugC T a f = 2 := by unfold Tr.ugC; rw [if_pos h, if_neg h2]
  exact ⟨by unfold Tr.ugT; rw [if_neg (by omega)], hc⟩
theorem Tr.ug_5 {T : List (List Int)} {a f : Nat} (h : Tr.Is T) (ha : a < T.length) (hf : f < 4) (hb : Tr.Bd T a f) : Tr.ugT T a f = [] ∧ Tr.ugC T a f = 5 := by
  have hc : Tr.ugC T a f = 5 := by unfold Tr.ugC; rw [if_pos h, if_pos (by omega), if_pos (by simpa using hb)]
  exact ⟨by unfold Tr.ugT; rw [if_neg (by omega)], hc⟩
theorem Tr.ug_0 {T : List (List Int)} {a f : Nat} (h : Tr.Is T) (ha : a < T.length) (hf : f < 4) (hb : ¬ Tr.Bd T a f) : Tr.ugT T a f = Tr.setF (Tr.setF T a f (-1) 0) (Tr.tt T a f).toNat (Tr.mt T a f) (-1) 0 ∧ Tr.ugC T a f = 0 := by
  have hc : Tr.ugC T a f = 0 := by unfold Tr.ugC; rw [if_pos h, if_pos (by omega), if_neg (by simpa using hb)]
  exact ⟨by unfold Tr.ugT; rw [if_pos hc]; simp, hc⟩
namespace Fc
set_option maxRecDepth 100000 in
set_option maxHeartbeats 8000000 in
theorem unglueFace_impl (A : Option Addr) (n c : Nat) (T : List (List Int)) (a f : Int) (w : World) (h : RdT w w.heap.size A n T) (hv : Vs w) (hn : n ≤ 1048576) :
    Calls Tryd.prog 23 #[.agg #[.slice A n c], .int .i64 a, .int .i64 f] w (ResTC w (Tr.ugT T a f) (Tr.ugC T a f)) := by
  have h0 := hv.pos
  have LN := Lib.hid h.len
  have HT := Lib.hid h
  have HV := Lib.hid hv
  clear h hv
  obtain ⟨U, hU⟩ : ∃ U, U = (w.alloc (Obj.cells #[.slice A n c] 28)).alloc (Obj.cells #[.slice none 0 0] 28) := ⟨_, rfl⟩
  have hB : Below w.heap.size w U := by rw [hU]; exact al2 w _ _
  have z : U.heap.size = w.heap.size + 2 := by rw [hU]; simp
  have k0 : U.cell? ⟨w.heap.size, 0, none⟩ = some (.slice A n c) := by rw [hU]; simp [go_sem]
  have k1 : U.cell? ⟨w.heap.size + 1, 0, none⟩ = some (.slice none 0 0) := by rw [hU]; simp [go_sem]
  have f1 : U.frozen? ⟨w.heap.size + 1, 0, none⟩ = false := by rw [hU]; simp [go_sem]
  have DU := Lib.hid hB
  have TI := Lib.hid (isTri_implT A n c T U (HT.out.into hB) (HV.out.below hB h0.1) hn)
  clear hB
  go_enter Tryd.func23, Tryd.ntmps23
  go_upto_region 1 with fail
  rw [← hU]
  clear hU
  go_wp2_with fail
  refine TI.out.mono ?_
  rintro e w1 ⟨rfl, hb⟩
  have k0 := (hb.cell (p := ⟨w.heap.size, 0, none⟩) (by dsimp only; omega)).trans k0
  have k1 := (hb.cell (p := ⟨w.heap.size + 1, 0, none⟩) (by dsimp only; omega)).trans k1
  have f1 := (hb.frozen (p := ⟨w.heap.size + 1, 0, none⟩) (by dsimp only; omega)).trans f1
  have z1 : U.heap.size ≤ w1.heap.size := hb.size
  have D1 := Lib.hid (DU.out.trans (hb.mono (by omega)))
  clear hb TI DU
  by_cases hok : Tr.Is T
  case neg =>
    rw [decide_eq_false hok]
    have R := Lib.hid (Tr.ug_1 (a := a) (f := f) hok)
    clear hok
    go_wp2
    refine bodyPost_ret (v := .tuple #[.agg #[.slice none 0 0], .int .i64 1]) (by simp [results, Tryd.results23, k1, go_sem]) rfl ?_
    rw [R.out.1, R.out.2]
    exact ⟨none, 0, [], rfl, OwnS.nil _ _ _, rfl, D1.out.setCell (by dsimp only; omega) _⟩
  rw [decide_eq_true hok]
  have h8 : n ≤ 8 := by rw [← LN.out]; exact hok.1
  have IS := Lib.hid hok
  clear hok
  by_cases ha : 0 ≤ a ∧ a < n
  case neg =>
    have R := Lib.hid (Tr.ug_2 (a := a) (f := f) IS.out (by rw [LN.out]; exact fun e => ha e.1))
    go_wp2_with fail
    refine (isTet_no A n c a _ ha).mono ?_
    rintro e w2 ⟨rfl, hb⟩
    have k1 := (hb.cell (p := ⟨w.heap.size + 1, 0, none⟩) (by dsimp only; omega)).trans k1
    have f1 := (hb.frozen (p := ⟨w.heap.size + 1, 0, none⟩) (by dsimp only; omega)).trans f1
    have D2 := Lib.hid (D1.out.trans (hb.mono (by omega)))
    have z2 : w1.heap.size ≤ w2.heap.size := hb.size
    clear hb ha
    go_wp2
    refine bodyPost_ret (v := .tuple #[.agg #[.slice none 0 0], .int .i64 2]) (by simp [results, Tryd.results23, k1, go_sem]) rfl ?_
    rw [R.out.1, R.out.2]
    exact ⟨none, 0, [], rfl, OwnS.nil _ _ _, rfl, D2.out.setCell (by dsimp only; omega) _⟩
  obtain ⟨a', rfl⟩ := Int.eq_ofNat_of_zero_le ha.1
  have han : a' < n := by omega
  have IT := Lib.hid (fun (W : World) => isTet_yes A n c (a' : Int) W ha.1 ha.2)
  clear ha
  by_cases hf : 0 ≤ f ∧ f < 4
  case neg =>
    have R := Lib.hid (Tr.ug_2 (a := (a' : Int)) (f := f) IS.out (fun e => hf e.2))
    go_wp2_with fail
    refine (IT.out _).mono ?_
    rintro e w2 ⟨rfl, hb⟩
    have k1 := (hb.cell (p := ⟨w.heap.size + 1, 0, none⟩) (by dsimp only; omega)).trans k1
    have f1 := (hb.frozen (p := ⟨w.heap.size + 1, 0, none⟩) (by dsimp only; omega)).trans f1
    have D2 := Lib.hid (D1.out.trans (hb.mono (by omega)))
    have z2 : w1.heap.size ≤ w2.heap.size := hb.size
    clear hb
    go_wp2_with fail
    refine (isVertex_no f _ hf).mono ?_
    rintro e w3 ⟨rfl, rfl⟩
    clear hf
    go_wp2
    refine bodyPost_ret (v := .tuple #[.agg #[.slice none 0 0], .int .i64 2]) (by simp [results, Tryd.results23, k1, go_sem]) rfl ?_
    rw [R.out.1, R.out.2]
    exact ⟨none, 0, [], rfl, OwnS.nil _ _ _, rfl, D2.out.setCell (by dsimp only; omega) _⟩
  obtain ⟨f', rfl⟩ := Int.eq_ofNat_of_zero_le hf.1
  have hf4 : f' < 4 := by omega
  go_wp2_with fail
  refine (IT.out _).mono ?_
  rintro e w2 ⟨rfl, hb⟩
  have k0 := (hb.cell (p := ⟨w.heap.size, 0, none⟩) (by dsimp only; omega)).trans k0
  have k1 := (hb.cell (p := ⟨w.heap.size + 1, 0, none⟩) (by dsimp only; omega)).trans k1
  have f1 := (hb.frozen (p := ⟨w.heap.size + 1, 0, none⟩) (by dsimp only; omega)).trans f1
  have D2 := Lib.hid (D1.out.trans (hb.mono (by omega)))
  have z2 : w1.heap.size ≤ w2.heap.size := hb.size
  clear hb IT
  go_wp2_with fail
  refine (isVertex_yes (f' : Int) _ hf.1 hf.2).mono ?_
  rintro e w3 ⟨rfl, rfl⟩
  clear hf
  obtain ⟨V, hV⟩ : ∃ V, V = w2.alloc (Obj.cells #[.int .i64 (a' : Int), .int .i64 (f' : Int)] 76) := ⟨_, rfl⟩
  have zV : V.heap.size = w2.heap.size + 1 := by rw [hV]; simp
  have BV := Lib.hid (show Below w2.heap.size w2 V from by rw [hV]; exact al1 _ _)
  have k0 := (BV.out.cell (p := ⟨w.heap.size, 0, none⟩) (by dsimp only; omega)).trans k0
  have k1 := (BV.out.cell (p := ⟨w.heap.size + 1, 0, none⟩) (by dsimp only; omega)).trans k1
  have f1 := (BV.out.frozen (p := ⟨w.heap.size + 1, 0, none⟩) (by dsimp only; omega)).trans f1
  have m0 : V.cell? ⟨w2.heap.size, 0, none⟩ = some (.int .i64 (a' : Int)) := by rw [hV]; simp [go_sem]
  have m1 : V.cell? ⟨w2.heap.size, 1, none⟩ = some (.int .i64 (f' : Int)) := by rw [hV]; simp [go_sem]
  have DV := Lib.hid (D2.out.trans (BV.out.mono (by omega)))
  have DT := Lib.hid (dat_impl A n c a' f' T V (HT.out.into DV.out) han hf4 (IS.out.2.1 a' (by rw [LN.out]; exact han)))
  obtain ⟨tv, htv⟩ : ∃ tv, Tr.tt T a' f' = tv := ⟨_, rfl⟩
  obtain ⟨pv, hpv⟩ : ∃ pv, Tr.pp T a' f' = pv := ⟨_, rfl⟩
  rw [htv, hpv] at DT
  go_upto_region 6 with fail
  rw [← hV]
  clear hV BV D1 D2
  go_wp2_with fail
  refine DT.out.mono ?_
  rintro e w3 ⟨rfl, hb⟩
  have D3 := Lib.hid (DV.out.trans (hb.mono (by omega)))
  have z3 : V.heap.size ≤ w3.heap.size := hb.size
  obtain ⟨X, hX⟩ : ∃ X, X = w3.alloc (Obj.cells #[.int .i64 tv, .int .i64 pv] 72) := ⟨_, rfl⟩
  have zX : X.heap.size = w3.heap.size + 1 := by rw [hX]; simp
  have BX := Lib.hid (show Below w3.heap.size w3 X from by rw [hX]; exact al1 _ _)
  have k0 := (BX.out.cell (p := ⟨w.heap.size, 0, none⟩) (by dsimp only; omega)).trans ((hb.cell (p := ⟨w.heap.size, 0, none⟩) (by dsimp only; omega)).trans k0)
  have k1 := (BX.out.cell (p := ⟨w.heap.size + 1, 0, none⟩) (by dsimp only; omega)).trans ((hb.cell (p := ⟨w.heap.size + 1, 0, none⟩) (by dsimp only; omega)).trans k1)
  have f1 := (BX.out.frozen (p := ⟨w.heap.size + 1, 0, none⟩) (by dsimp only; omega)).trans ((hb.frozen (p := ⟨w.heap.size + 1, 0, none⟩) (by dsimp only; omega)).trans f1)
  have m0 := (BX.out.cell (p := ⟨w2.heap.size, 0, none⟩) (by dsimp only; omega)).trans ((hb.cell (p := ⟨w2.heap.size, 0, none⟩) (by dsimp only; omega)).trans m0)
  have m1 := (BX.out.cell (p := ⟨w2.heap.size, 1, none⟩) (by dsimp only; omega)).trans ((hb.cell (p := ⟨w2.heap.size, 1, none⟩) (by dsimp only; omega)).trans m1)
  have q0 : X.cell? ⟨w3.heap.size, 0, none⟩ = some (.int .i64 tv) := by rw [hX]; simp [go_sem]
  have q1 : X.cell? ⟨w3.heap.size, 1, none⟩ = some (.int .i64 pv) := by rw [hX]; simp [go_sem]
  have DX := Lib.hid (D3.out.trans (BX.out.mono (by omega)))
  obtain ⟨v0, v1⟩ := HV.out.2.below DX.out h0.2
  go_upto_region 7 with fail
  rw [← hX]
  clear hX BX hb DT DV D3
  by_cases hbd : Tr.Bd T a' f'
  · have R := Lib.hid (Tr.ug_5 IS.out (by rw [LN.out]; exact han) hf4 hbd)
    obtain ⟨e1, e2⟩ := hbd
    have FE : ∀ W, (Op.equalIn 10000 72 (.agg #[.int .i64 tv, .int .i64 pv]) (.agg #[.int .i64 (-1), .int .i64 0])).run Tryd.prog W = .ok true W := fun W => by
      rw [face_eq, ← htv, ← hpv, e1, e2]; rfl
    clear htv hpv e1 e2
    go_wp2
    refine bodyPost_ret (v := .tuple #[.agg #[.slice none 0 0], .int .i64 5]) (by simp [results, Tryd.results23, k1, go_sem]) rfl ?_
    rw [R.out.1, R.out.2]
    exact ⟨none, 0, [], rfl, OwnS.nil _ _ _, rfl, DX.out.setCell (by dsimp only; omega) _⟩
  have R := Lib.hid (Tr.ug_0 IS.out (by rw [LN.out]; exact han) hf4 hbd)
  obtain ⟨tb, p, ht, hp, htn, hp24, hpg, hg4, -, -, -⟩ := IS.out.glued (a := a') (f := f') (by rw [LN.out]; exact han) hf4 hbd
  have FE : ∀ W, (Op.equalIn 10000 72 (.agg #[.int .i64 tv, .int .i64 pv]) (.agg #[.int .i64 (-1), .int .i64 0])).run Tryd.prog W = .ok false W := fun W => by
    rw [face_eq, ← htv, ht, show (((tb : Nat) : Int) == -1) = false from by first | (simp; done) | (simp; omega)]; rfl
  rw [htv] at ht
  rw [hpv] at hp
  subst ht
  subst hp
  obtain ⟨g, hgg⟩ : ∃ g, Tr.mt T a' f' = g := ⟨_, rfl⟩
  have hR : (Tr.tt T a' f').toNat = tb := by rw [htv]; omega
  rw [hR, hgg] at R
  rw [hgg] at hpg hg4
  obtain ⟨x0, x1, x2, x3, hx, _⟩ := im_four p hp24
  have htn' : tb < n := by rw [← LN.out]; exact htn
  have hF4 := IS.out.2.1
  have BO := Lib.hid (builderOf_impl A n c T X (HT.out.into DX.out) (HV.out.below DX.out h0.1) IS.out)
  clear htv hpv hbd hR hgg htn
  go_wp2_with fail
  refine BO.out.mono ?_
  rintro e w4 ⟨bb, mb, A1, c1, rs1, rfl, ⟨g1, g2⟩, hB2, hV2, _, hb⟩
  have k1 := (hb.cell (p := ⟨w.heap.size + 1, 0, none⟩) (by dsimp only; omega)).trans k1
  have f1 := (hb.frozen (p := ⟨w.heap.size + 1, 0, none⟩) (by dsimp only; omega)).trans f1
  have m0 := (hb.cell (p := ⟨w2.heap.size, 0, none⟩) (by dsimp only; omega)).trans m0
  have m1 := (hb.cell (p := ⟨w2.heap.size, 1, none⟩) (by dsimp only; omega)).trans m1
  have q0 := (hb.cell (p := ⟨w3.heap.size, 0, none⟩) (by dsimp only; omega)).trans q0
  have q1 := (hb.cell (p := ⟨w3.heap.size, 1, none⟩) (by dsimp only; omega)).trans q1
  have D4 := Lib.hid (DX.out.trans (hb.mono (by omega)))
  have z4 : X.heap.size ≤ w4.heap.size := hb.size
  have B4 := Lib.hid hB2
  have V4 := Lib.hid hV2
  have l4 : rs1.length = n := by rw [← Fc.vals_len, hV2, LN.out]
  have zb := hB2.lt
  have GO := Lib.hid (gluingOf_impl (a' : Int) f' p (tb : Int) x0 x1 x2 x3 w4 hf4 hp24 hx (HV.out.below D4.out h0.1).1)
  rw [hpg] at GO
  clear hb hB2 hV2 BO hx hpg
  go_wp2_with fail
  refine GO.out.mono ?_
  rintro e w5 ⟨rfl, hb⟩
  have k1 := (hb.cell (p := ⟨w.heap.size + 1, 0, none⟩) (by dsimp only; omega)).trans k1
  have f1 := (hb.frozen (p := ⟨w.heap.size + 1, 0, none⟩) (by dsimp only; omega)).trans f1
  have D5 := Lib.hid (D4.out.trans (hb.mono (by omega)))
  have z5 : w4.heap.size ≤ w5.heap.size := hb.size
  have UG := Lib.hid (unglue_impl bb mb A1 c1 rs1 a' f' tb g x0 x1 x2 x3 w5 (B4.out.below hb) (HV.out.below D5.out h0.1) (by omega) (by rw [V4.out]; exact hF4) (by omega) hf4 (by omega) hg4)
  clear hb GO
  go_wp2_with fail
  refine UG.out.mono ?_
  rintro e w6 ⟨rfl, ⟨A2, c2, rs2, hB3, hV3⟩, hb⟩
  have k1 := (hb.cell (p := ⟨w.heap.size + 1, 0, none⟩) (by dsimp only; omega)).trans k1
  have f1 := (hb.frozen (p := ⟨w.heap.size + 1, 0, none⟩) (by dsimp only; omega)).trans f1
  have D6 := Lib.hid (D5.out.trans (hb.mono (by omega)))
  have z6 : w5.heap.size ≤ w6.heap.size := hb.size
  have B6 := Lib.hid hB3
  have V6 := Lib.hid (show vals rs2 = Tr.setF (Tr.setF T a' f' (-1) 0) tb g (-1) 0 from by rw [hV3, V4.out])
  clear hb hB3 hV3 UG
  go_wp2_with fail
  refine (triang_impl bb mb A2 c2 rs2 w6 B6.out).mono ?_
  rintro e w7 ⟨rfl, hb⟩
  have k1 := (hb.cell (p := ⟨w.heap.size + 1, 0, none⟩) (by dsimp only; omega)).trans k1
  have f1 := (hb.frozen (p := ⟨w.heap.size + 1, 0, none⟩) (by dsimp only; omega)).trans f1
  have D7 := Lib.hid (D6.out.trans (hb.mono (by omega)))
  have B7 := Lib.hid (B6.out.below hb)
  clear hb
  go_wp2
  refine bodyPost_ret (v := .tuple #[.agg #[.slice A2 rs2.length c2], .int .i64 0]) (by simp [results, Tryd.results23, k1, go_sem]) rfl ?_
  rw [R.out.1, R.out.2]
  exact ⟨A2, c2, rs2, rfl, (B7.out.own.far (p := ⟨w.heap.size + 1, 0, none⟩) (.inl (by dsimp only; omega)) _).wide (by omega) (by simp [World.setCell]), V6.out, D7.out.setCell (by dsimp only; omega) _⟩

end Fc
end Go.Proofs.YtajbahfbldmckaaDoor

namespace Go.Proofs.YtajbahfbldmckaaDoor
open Go.RowKit
theorem Rp.Pm.hit {n : Nat} {z : List Int} (h : Rp.Pm (n : Int) z) {j : Nat} (hj : j < n) : ∃ i, i < n ∧ z.getD i 0 = (j : Int) := by
  have hl : z.length = n := by have := h.1; omega
  have gd : ∀ i (hi : i < z.length), z.getD i 0 = z[i] := fun i hi => by rw [List.getD_eq_getElem?_getD, List.getElem?_eq_getElem hi]; rfl
  have nd : z.Nodup := by
    refine List.pairwise_iff_getElem.2 fun i k hi hk hik => ?_
    have := (h.2 k hk).2 i hik
    rwa [gd i hi, gd k hk] at this
  by_cases hm : (j : Int) ∈ z
  · obtain ⟨i, hi, e⟩ := List.getElem_of_mem hm
    exact ⟨i, by omega, by rw [gd i hi]; exact e⟩
  · have := Rp.pigeon n ((j : Int) :: z) (List.nodup_cons.2 ⟨hm, nd⟩) fun x hx => by
      rcases List.mem_cons.1 hx with rfl | hx
      · omega
      · obtain ⟨i, hi, e⟩ := List.getElem_of_mem hx
        have := (h.2 i hi).1
        rw [gd i hi, e] at this
        exact this
    simp at this
    omega
namespace Rl
open Tr
def ta (tl : List Int) (a : Nat) : Nat := (tl.getD a 0).toNat
def pa (pl : List Int) (a : Nat) : Nat := (pl.getD a 0).toNat
/-- The new permutation of a face. -/
def rp (T : List (List Int)) (pl : List Int) (a f : Nat) : Nat := P4.thn (P4.thn (P4.ivt (pa pl a)) (pp T a f).toNat) (pa pl (tt T a f).toNat)
/-- A face of the new row. -/
def gm (p f : Nat) : Nat := ((P4.im p).getD f 0).toNat
theorem gm_lt {p f : Nat} (hp : p < 24) (hf : f < 4) : (P4.im p).getD f 0 = (gm p f : Int) ∧ gm p f < 4 := by
  have := P4.im_in p hp f hf
  unfold gm
  omega
def putR (r : List Int) (g : Nat) (t p : Int) : List Int := (r.set (g * 2) t).set (g * 2 + 1) p
theorem putR_len (r : List Int) (g : Nat) (t p : Int) : (putR r g t p).length = r.length := by simp [putR]
/-- The row of the tetrahedron a of which m faces are written. -/
def rowR (T : List (List Int)) (tl pl : List Int) (a : Nat) : Nat → List Int
  | 0 => Fc.fr
  | f + 1 => if tt T a f < 0 then rowR T tl pl a f else putR (rowR T tl pl a f) (gm (pa pl a) f) (tl.getD (tt T a f).toNat 0) (rp T pl a f)
theorem rowR_len (T : List (List Int)) (tl pl : List Int) (a m : Nat) : (rowR T tl pl a m).length = 8 := by
  induction m with
  | zero => rfl
  | succ m ih => simp only [rowR]; split <;> simp [putR_len, ih]
theorem rowR_neg {T : List (List Int)} {tl pl : List Int} {a f : Nat} (h : tt T a f < 0) : rowR T tl pl a (f + 1) = rowR T tl pl a f := by simp only [rowR]; rw [if_pos h]
theorem rowR_pos {T : List (List Int)} {tl pl : List Int} {a f : Nat} (h : ¬ tt T a f < 0) : rowR T tl pl a (f + 1) = putR (rowR T tl pl a f) (gm (pa pl a) f) (tl.getD (tt T a f).toNat 0) (rp T pl a f) := by simp only [rowR]; rw [if_neg h]
/-- The specification's table behind k tetrahedra. -/
def tabS (T : List (List Int)) (tl pl : List Int) : Nat → List (List Int)
  | 0 => T
  | k + 1 => (tabS T tl pl k).set (ta tl k) (rowR T tl pl k 4)
theorem tabS_len (T : List (List Int)) (tl pl : List Int) (k : Nat) : (tabS T tl pl k).length = T.length := by
  induction k with
  | zero => rfl
  | succ k ih => simp [tabS, ih]
/-- What the program writes for a face. -/
def updP (T : List (List Int)) (tl pl : List Int) (Z : List (List Int)) (a f : Nat) : List (List Int) :=
  if tt T a f < 0 then Z else setF Z (ta tl a) (gm (pa pl a) f) (tl.getD (tt T a f).toNat 0) (rp T pl a f)
def cpyP (T : List (List Int)) (tl pl : List Int) {n : Nat} (Z : List (List Int)) (pre : List (Fc.Ix n)) : List (List Int) := pre.foldl (fun Z x => updP T tl pl Z (x.1 / 4) (x.1 % 4)) Z
theorem cpyP_snoc (T : List (List Int)) (tl pl : List Int) {n : Nat} (Z : List (List Int)) (pre : List (Fc.Ix n)) (x : Fc.Ix n) : cpyP T tl pl Z (pre ++ [x]) = updP T tl pl (cpyP T tl pl Z pre) (x.1 / 4) (x.1 % 4) := by simp [cpyP, List.foldl_append]
theorem updP_len (T : List (List Int)) (tl pl : List Int) (Z : List (List Int)) (a f : Nat) : (updP T tl pl Z a f).length = Z.length := by
  unfold updP
  split
  · rfl
  · exact setF_len _ _ _ _ _
theorem cpyP_len (T : List (List Int)) (tl pl : List Int) {n : Nat} (Z : List (List Int)) (pre : List (Fc.Ix n)) : (cpyP T tl pl Z pre).length = Z.length := by
  induction pre generalizing Z with
  | nil => rfl
  | cons x pre ih => exact (ih _).trans (updP_len _ _ _ _ _ _)
theorem updP_four {T : List (List Int)} {tl pl : List Int} {Z : List (List Int)} (h : Four Z) (a f : Nat) : Four (updP T tl pl Z a f) := by
  unfold updP
  split
  · exact h
  · exact setF_four h _ _ _ _
theorem cpyP_four {T : List (List Int)} {tl pl : List Int} {n : Nat} {Z : List (List Int)} (h : Four Z) (pre : List (Fc.Ix n)) : Four (cpyP T tl pl Z pre) := by
  induction pre generalizing Z with
  | nil => exact h
  | cons x pre ih => exact ih (updP_four h _ _)
theorem ta_lt {n : Nat} {tl : List Int} (h : Rp.Pm (n : Int) tl) {a : Nat} (ha : a < n) : ta tl a < n ∧ tl.getD a 0 = (ta tl a : Int) := by
  have hl : tl.length = n := by have := h.1; omega
  have := (h.2 a (by omega)).1
  unfold ta
  omega
theorem ta_inj {n : Nat} {tl : List Int} (h : Rp.Pm (n : Int) tl) {a b : Nat} (ha : a < n) (hb : b < n) (e : ta tl a = ta tl b) : a = b := by
  have hl : tl.length = n := by have := h.1; omega
  exact h.inj (by omega) (by omega) (by rw [(ta_lt h ha).2, (ta_lt h hb).2, e])
theorem tabS_at {n : Nat} {T : List (List Int)} {tl pl : List Int} (h : Rp.Pm (n : Int) tl) (hT : T.length = n) : ∀ k, k ≤ n → ∀ a, a < k → (tabS T tl pl k).getD (ta tl a) [] = rowR T tl pl a 4 := by
  intro k
  induction k with
  | zero => intro _ a ha; exact absurd ha (Nat.not_lt_zero _)
  | succ k ih =>
    intro hk a ha
    simp only [tabS]
    rw [getD_set_list, tabS_len, hT]
    by_cases hak : a = k
    · subst hak; rw [if_pos ⟨rfl, (ta_lt h (by omega)).1⟩]
    · rw [if_neg (fun e => hak (ta_inj h (by omega) (by omega) e.1.symm))]
      exact ih (by omega) a (by omega)
theorem cpyP_at {n : Nat} {T : List (List Int)} {tl pl : List Int} (h : Rp.Pm (n : Int) tl) : ∀ k, k ≤ n * 4 → ∀ a, a < n → (cpyP T tl pl (List.replicate n Fc.fr) (Fc.up n k)).getD (ta tl a) [] = rowR T tl pl a (min 4 (k - a * 4)) := by
  intro k
  induction k with
  | zero =>
    intro _ a ha
    rw [Nat.zero_sub, Nat.min_eq_right (by omega)]
    show (List.replicate n Fc.fr).getD (ta tl a) [] = Fc.fr
    rw [List.getD_eq_getElem?_getD, List.getElem?_replicate, if_pos (ta_lt h ha).1]
    rfl
  | succ k ih =>
    intro hk a ha
    have hk' : k < n * 4 := by omega
    rw [Fc.up_succ hk', cpyP_snoc]
    dsimp only
    obtain ⟨a0, ha0⟩ : ∃ a0, k / 4 = a0 := ⟨_, rfl⟩
    obtain ⟨f0, hf0⟩ : ∃ f0, k % 4 = f0 := ⟨_, rfl⟩
    rw [ha0, hf0]
    have hlen : (cpyP T tl pl (List.replicate n Fc.fr) (Fc.up n k)).length = n := by rw [cpyP_len, List.length_replicate]
    have i1 := ih (by omega) a ha
    have same : a ≠ a0 → min 4 (k + 1 - a * 4) = min 4 (k - a * 4) := fun hne => by omega
    unfold updP
    by_cases hneg : tt T a0 f0 < 0
    · rw [if_pos hneg, i1]
      by_cases hne : a = a0
      · subst hne
        rw [show min 4 (k - a * 4) = f0 from by omega, show min 4 (k + 1 - a * 4) = f0 + 1 from by omega, rowR_neg hneg]
      · rw [same hne]
    · rw [if_neg hneg]
      unfold setF
      rw [getD_set_list, hlen]
      by_cases hne : a = a0
      · subst hne
        rw [if_pos ⟨rfl, (ta_lt h ha).1⟩, i1, show min 4 (k - a * 4) = f0 from by omega, show min 4 (k + 1 - a * 4) = f0 + 1 from by omega, rowR_pos hneg]
        rfl
      · rw [if_neg (fun e => hne (ta_inj h ha (by omega) e.1.symm)), i1, same hne]
theorem both {n : Nat} {T : List (List Int)} {tl pl : List Int} (h : Rp.Pm (n : Int) tl) (hT : T.length = n) : cpyP T tl pl (List.replicate n Fc.fr) (Fc.up n (n * 4)) = tabS T tl pl n := by
  refine List.ext_getElem (by rw [cpyP_len, List.length_replicate, tabS_len, hT]) fun j h1 h2 => ?_
  have hj : j < n := by rw [tabS_len, hT] at h2; exact h2
  obtain ⟨a, ha, e⟩ := h.hit hj
  have ej : ta tl a = j := by unfold ta; omega
  have e1 := cpyP_at (T := T) (pl := pl) h (n * 4) (Nat.le_refl _) a ha
  have e2 := tabS_at (pl := pl) h hT n (Nat.le_refl _) a ha
  rw [show min 4 (n * 4 - a * 4) = 4 from by omega, ← e2, ej, List.getD_eq_getElem?_getD, List.getD_eq_getElem?_getD, List.getElem?_eq_getElem h1, List.getElem?_eq_getElem h2] at e1
  exact e1
/-- What RelabelTriangulation hands back: its code and its triangulation. -/
def rlC (T : List (List Int)) (tl pl : List Int) : Int := if Is T then (if Rp.Pm (T.length : Int) tl ∧ pl.length = T.length ∧ Fc.AllP pl then 0 else 2) else 1
def rlT (T : List (List Int)) (tl pl : List Int) : List (List Int) := if rlC T tl pl = 0 then tabS T tl pl T.length else []
theorem rl_1 {T : List (List Int)} {tl pl : List Int} (h : ¬ Is T) : rlT T tl pl = [] ∧ rlC T tl pl = 1 := by
  have hc : rlC T tl pl = 1 := by unfold rlC; rw [if_neg h]
  exact ⟨by unfold rlT; rw [if_neg (by omega)], hc⟩
theorem rl_2 {T : List (List Int)} {tl pl : List Int} (h : Is T) (h2 : ¬ (Rp.Pm (T.length : Int) tl ∧ pl.length = T.length ∧ Fc.AllP pl)) : rlT T tl pl = [] ∧ rlC T tl pl = 2 := by
  have hc : rlC T tl pl = 2 := by unfold rlC; rw [if_pos h, if_neg h2]
  exact ⟨by unfold rlT; rw [if_neg (by omega)], hc⟩
theorem rl_0 {T : List (List Int)} {tl pl : List Int} (h : Is T) (h2 : Rp.Pm (T.length : Int) tl ∧ pl.length = T.length ∧ Fc.AllP pl) : rlT T tl pl = tabS T tl pl T.length ∧ rlC T tl pl = 0 := by
  have hc : rlC T tl pl = 0 := by unfold rlC; rw [if_pos h, if_pos h2]
  exact ⟨by unfold rlT; rw [if_pos hc], hc⟩
theorem tabS_four {T : List (List Int)} {tl pl : List Int} (h : Four T) (k : Nat) : Four (tabS T tl pl k) := by
  induction k with
  | zero => exact h
  | succ k ih =>
    intro j hj
    simp only [tabS] at hj ⊢
    rw [getD_set_list]
    split
    · exact rowR_len _ _ _ _ _
    · exact ih j (by simpa using hj)
end Rl
end Go.Proofs.YtajbahfbldmckaaDoor

namespace Go.Proofs.YtajbahfbldmckaaDoor
open Go.RowKit Go.Shelf
namespace Tr
/-- A row of which m faces have been increased. -/
def ptO (s : Int) (T : List (List Int)) (a m : Nat) : List Int := (List.range 8).map fun j => if j < m * 2 ∧ ¬ tt T a (j / 2) < 0 then (if j % 2 = 0 then tt T a (j / 2) + s else pp T a (j / 2)) else (T.getD a []).getD j 0
theorem ptO_len (s : Int) (T : List (List Int)) (a m : Nat) : (ptO s T a m).length = 8 := by simp [ptO]
theorem ptO_zero (s : Int) (T : List (List Int)) (a : Nat) (h : (T.getD a []).length = 8) : ptO s T a 0 = T.getD a [] := by
  unfold ptO
  obtain ⟨l, hl⟩ : ∃ l, T.getD a [] = l := ⟨_, rfl⟩
  rw [hl] at h ⊢
  refine List.ext_getElem (by simp [h]) fun j h1 h2 => ?_
  simp only [List.getElem_map, List.getElem_range, Nat.zero_mul, Nat.not_lt_zero, false_and, if_false]
  rw [List.getD_eq_getElem?_getD, List.getElem?_eq_getElem h2]
  rfl
theorem ptO_neg {s : Int} {T : List (List Int)} {a f : Nat} (h : tt T a f < 0) : ptO s T a (f + 1) = ptO s T a f := by
  unfold ptO
  refine List.map_congr_left fun j _ => ?_
  by_cases e : j / 2 = f
  · rw [e]; simp [h]
  · have : j < (f + 1) * 2 ↔ j < f * 2 := by omega
    simp only [this]
theorem ptO_pos {s : Int} {T : List (List Int)} {a f : Nat} (h : ¬ tt T a f < 0) : ptO s T a (f + 1) = ((ptO s T a f).set (f * 2) (tt T a f + s)).set (f * 2 + 1) (pp T a f) := by
  refine List.ext_getElem (by simp [ptO]) fun j h1 h2 => ?_
  rw [ptO_len] at h1
  rw [List.getElem_set, List.getElem_set]
  by_cases e1 : f * 2 + 1 = j
  · rw [if_pos e1]
    have e2 : j / 2 = f := by omega
    have e3 : j % 2 = 1 := by omega
    simp [ptO, e2, h, e3]
    omega
  · rw [if_neg e1]
    by_cases e4 : f * 2 = j
    · rw [if_pos e4]
      have e2 : j / 2 = f := by omega
      have e3 : j % 2 = 0 := by omega
      simp [ptO, e2, h, e3]
      omega
    · rw [if_neg e4]
      have e5 : j < (f + 1) * 2 ↔ j < f * 2 := by omega
      simp [ptO, e5]
theorem ptO_at (s : Int) (T : List (List Int)) (a f : Nat) (hf : f < 4) : (ptO s T a f).getD (f * 2) 0 = tt T a f ∧ (ptO s T a f).getD (f * 2 + 1) 0 = pp T a f := by
  have key : ∀ j, j < 8 → f * 2 ≤ j → (ptO s T a f).getD j 0 = (T.getD a []).getD j 0 := fun j hj hm => by
    rw [List.getD_eq_getElem?_getD, List.getElem?_eq_getElem (by rw [ptO_len]; exact hj)]
    simp [ptO]
    omega
  exact ⟨key _ (by omega) (Nat.le_refl _), key _ (by omega) (by omega)⟩
theorem ptO_four {s : Int} {T : List (List Int)} {a : Nat} (h : Is T) (ha : a < T.length) : ptO s T a 4 = ptR s T a 4 := by
  unfold ptO ptR
  refine List.map_congr_left fun j hj => ?_
  have hj8 := List.mem_range.1 hj
  have hf : j / 2 < 4 := by omega
  by_cases hn : tt T a (j / 2) < 0
  · have hb := (h.bd_iff ha hf).2 hn
    rw [if_neg (fun e => e.2 hn), if_neg (fun e => e.2 hn)]
    have e0 : tt T a (j / 2) = (T.getD a []).getD (j / 2 * 2) 0 := rfl
    have e1 : pp T a (j / 2) = (T.getD a []).getD (j / 2 * 2 + 1) 0 := rfl
    by_cases hj : j % 2 = 0
    · rw [show j = j / 2 * 2 from by omega, ← e0, hb.1]
      obtain h | h | h | h : j / 2 = 0 ∨ j / 2 = 1 ∨ j / 2 = 2 ∨ j / 2 = 3 := by omega
      all_goals rw [h]; rfl
    · rw [show j = j / 2 * 2 + 1 from by omega, ← e1, hb.2]
      obtain h | h | h | h : j / 2 = 0 ∨ j / 2 = 1 ∨ j / 2 = 2 ∨ j / 2 = 3 := by omega
      all_goals rw [h]; rfl
  · have : j < 4 * 2 ∧ ¬ tt T a (j / 2) < 0 := ⟨by omega, hn⟩
    rw [if_pos this, if_pos this]
theorem shT_len (s : Int) (T : List (List Int)) : (shT s T).length = T.length := by simp [shT]
theorem shT_snoc (s : Int) (T : List (List Int)) {k : Nat} (hk : k < T.length) : (shT s T).take (k + 1) = (shT s T).take k ++ [ptR s T k 4] := by
  rw [List.take_add_one]
  congr 1
  rw [List.getElem?_eq_getElem (by rw [shT_len]; exact hk)]
  simp [shT]
/-- What UnionTriangulations hands back: its code and its triangulation. -/
def unC (T S : List (List Int)) : Int := if Is T ∧ Is S then (if T.length + S.length ≤ 8 then 0 else 3) else 1
def unT (T S : List (List Int)) : List (List Int) := if unC T S = 0 then T ++ shT T.length S else []
theorem un_1 {T S : List (List Int)} (h : ¬ (Is T ∧ Is S)) : unT T S = [] ∧ unC T S = 1 := by
  have hc : unC T S = 1 := by unfold unC; rw [if_neg h]
  exact ⟨by unfold unT; rw [if_neg (by omega)], hc⟩
theorem un_3 {T S : List (List Int)} (h : Is T) (h' : Is S) (hs : ¬ T.length + S.length ≤ 8) : unT T S = [] ∧ unC T S = 3 := by
  have hc : unC T S = 3 := by unfold unC; rw [if_pos ⟨h, h'⟩, if_neg hs]
  exact ⟨by unfold unT; rw [if_neg (by omega)], hc⟩
theorem un_0 {T S : List (List Int)} (h : Is T) (h' : Is S) (hs : T.length + S.length ≤ 8) : unT T S = T ++ shT T.length S ∧ unC T S = 0 := by
  have hc : unC T S = 0 := by unfold unC; rw [if_pos ⟨h, h'⟩, if_pos hs]
  exact ⟨by unfold unT; rw [if_pos hc], hc⟩
end Tr
namespace Fc
/-- The faces of a row are appended to an empty slice. -/
theorem copy_row {w : World} {ops : Array Oper} {rest : List Oper} {o : Oper} {a : Act} {Q : Exit → Act → World → Prop} (hgd : o.guard = none) (s x : Operand) (ho : o.op = .call { callee := .builtin .append, args := #[s, x], argTypes := #[61, 61] })
    (lo B g0 n c : Nat) (A : Option Addr) (zs : List Int) (hs : a.eval s = .slice (some ⟨g0, 0, none⟩) 0 0) (hg0 : w.heap[g0]? = some (.cells #[] 72 (0, 0))) (hlg : lo ≤ g0) (hx : a.eval x = .slice A n c) (hI : Ints w B A (n * 2) zs) (hn0 : 0 < n) (hn : n ≤ 1048576) (hlo : lo ≤ w.heap.size)
    (h : ∀ g cap w', Rw.In ⟨some ⟨g, 0, none⟩, cap, zs⟩ w' lo w'.heap.size → w.grownBy w' (some g0) → wpList Tryd.prog ops Q rest (a.put o.dst (.slice (some ⟨g, 0, none⟩) n cap)) w') : wpList Tryd.prog ops Q (o :: rest) a w := by
  obtain ⟨ti, hi0, hz0, hz1, hz2⟩ := info_parts infoF
  have hl := hI.1
  obtain ⟨b, off, rfl, _, h4⟩ := hI.2 (by omega)
  have hl2 : (zs.map (Value.int .i64)).length = n * 2 := by rw [List.length_map, hl]
  refine wpList_append_lies w hgd s x 61 ho lo 72 ti _ 2 16 Tryd.underlying61 hi0 hz0 hz1 hz2 rfl (by decide) (.slice (some ⟨g0, 0, none⟩) 0 0) 0 [] hs ⟨rfl, .inr ⟨g0, 0, #[], rfl, hlg, hg0, Nat.le_refl _, by unfold maxLen; omega, rfl, rfl⟩⟩ ⟨b, off, none⟩ n c (zs.map (Value.int .i64)) hx hl2
    (ints_newsF hI) (by simp [Value.oneCell']) hn0 (by unfold maxLen; omega) (by omega) hlo _ rfl ?_
  intro g cap w' h1 hg _ _
  rw [Nat.zero_add, List.nil_append] at h1
  rw [Nat.zero_add]
  exact h g cap w' (faces_row h1) hg

/-- A row is appended; what lies apart stays apart. -/
theorem push_row3 {w : World} {ops : Array Oper} {rest : List Oper} {o : Oper} {a : Act} {Q : Exit → Act → World → Prop} (hgd : o.guard = none) (s x : Operand) (ho : o.op = .call { callee := .builtin .append, args := #[s, x], argTypes := #[26, 26] })
    (lo hi lo2 c n g : Nat) (A : Option Addr) (rs : List Rw) (r : Rw) (hs : a.eval s = .slice A n c) (hn : rs.length = n) (hown : OwnS w lo hi A c rs) (hx : a.eval x = .slice (some ⟨g, 0, none⟩) 1 1) (hc : w.cell? ⟨g, 0, none⟩ = some r.sv) (hr : r.In w lo2 w.heap.size) (h12 : hi ≤ lo2) (hlo2 : lo ≤ lo2) (hlo : lo ≤ w.heap.size) (hhi : hi ≤ w.heap.size) (hlen : n ≤ 1048576)
    (F : Nat → Prop) (hF : ∀ b0, F b0 → b0 < lo2 ∧ b0 < w.heap.size ∧ (∀ a, A = some a → a.block ≠ b0) ∧ ∀ q ∈ rs, q.Off b0)
    (h : ∀ A' c' w', OwnS w' lo w'.heap.size A' c' (rs ++ [r]) → Kept lo hi w w' → (∀ b0, F b0 → w'.heap[b0]? = w.heap[b0]? ∧ (∀ a, A' = some a → a.block ≠ b0) ∧ ∀ q ∈ rs ++ [r], q.Off b0) → wpList Tryd.prog ops Q rest (a.put o.dst (.slice A' (n + 1) c')) w') : wpList Tryd.prog ops Q (o :: rest) a w := by
  obtain ⟨ti, hi0, hz0, hz1, hz2⟩ := info_parts infoS
  subst hn
  refine wpList_append_lies w hgd s x 26 ho lo 61 ti _ 1 24 Tryd.underlying26 hi0 hz0 hz1 hz2 rfl (by decide) (.slice A rs.length c) rs.length (rs.map Rw.sv) hs hown.row ⟨g, 0, none⟩ 1 1 [r.sv] hx rfl
    (by intro j u hj; cases j with | zero => (simp at hj; subst hj; simpa [Addr.add] using hc) | succ j => simp at hj) (by intro u hu; simp at hu; subst hu; rfl) (by omega) (by unfold maxLen; omega) (by omega) hlo _ rfl ?_
  intro g' cap w' h1 hg hat hlt
  obtain ⟨q1, q2⟩ := hown.pushed hr h12 hlo2 hhi h1 hg hat hlt
  refine h _ _ _ q1 q2 (fun b0 h3 => ?_)
  obtain ⟨f1, f2, f3, f4⟩ := hF b0 h3
  have hnb : ∀ k, (Value.slice A rs.length c).ownBlock = some k → k ≠ b0 := fun k hk => by
    cases A with
    | none => simp [Value.ownBlock] at hk
    | some p =>
      have h6 := f3 p rfl
      simp [Value.ownBlock] at hk
      subst hk
      exact h6
  refine ⟨hg.block b0 f2 (fun e => hnb b0 e.symm rfl), fun a' ha' => ?_, fun q hq => ?_⟩
  · cases ha'
    dsimp only
    rcases hat with hat | hat
    · exact hnb _ hat
    · omega
  · rcases List.mem_append.1 hq with hq | hq
    · exact f4 q hq
    · simp at hq; subst hq
      exact hr.off (.inl f1)

theorem Rw.In.setFace {w : World} {lo hi g o c f : Nat} {zs : List Int} (h : Rw.In ⟨some ⟨g, o, none⟩, c, zs⟩ w lo hi) (h8 : zs.length = 8) (hf : f < 4) (t p : Int) :
    Rw.In ⟨some ⟨g, o, none⟩, c, (zs.set (f * 2) t).set (f * 2 + 1) p⟩ ((w.setCell ⟨g, o + f * 2, none⟩ (.int .i64 t)).setCell ⟨g, o + f * 2 + 1, none⟩ (.int .i64 p)) lo hi := by
  have hl := h.le
  have hnew : ((zs.set (f * 2) t).set (f * 2 + 1) p).length = zs.length := by rw [List.length_set, List.length_set]
  obtain ⟨gr, o', eA, b1, b2, b3⟩ := h.mine.2 (by dsimp only; omega)
  injection eA with eA
  injection eA with e1 e2
  subst e1
  subst e2
  dsimp only at b3
  have k0 := b3 (f * 2) (by omega)
  have k1 := b3 (f * 2 + 1) (by omega)
  rw [← Nat.add_assoc] at k1
  refine ⟨by dsimp only; rw [hnew]; exact hl, h.cap, ⟨rfl, fun _ => ⟨g, o, rfl, b1, b2, fun k hk => ?_⟩⟩⟩
  dsimp only at hk ⊢
  rw [hnew] at hk
  have kk := b3 k hk
  refine ⟨?_, by rw [World.frozen?_setCell, World.frozen?_setCell]; exact kk.2⟩
  by_cases e1 : k = f * 2 + 1
  · subst e1
    rw [← Nat.add_assoc, World.cell?_setCell_same' _ _ _ (by rw [World.cell?_setCell_other _ _ _ _ (by simp), k1.1]; rfl)]
    congr 2
    rw [List.getD_eq_getElem?_getD, List.getElem?_set]
    simp
    rw [if_pos (by omega)]
    rfl
  · rw [World.cell?_setCell_other _ _ _ _ (by first | (simp; done) | (simp; omega))]
    by_cases e2 : k = f * 2
    · subst e2
      rw [World.cell?_setCell_same' _ _ _ (by rw [k0.1]; rfl)]
      congr 2
      rw [List.getD_eq_getElem?_getD, List.getElem?_set, List.getElem?_set]
      simp
      rw [if_pos (by omega)]
      rfl
    · rw [World.cell?_setCell_other _ _ _ _ (by first | (simp; done) | (simp; omega)), kk.1]
      congr 2
      rw [List.getD_eq_getElem?_getD, List.getD_eq_getElem?_getD, List.getElem?_set, List.getElem?_set, if_neg (by omega), if_neg (by omega)]
theorem Rw.In.faceAt {w : World} {lo hi g o c f : Nat} {zs : List Int} (h : Rw.In ⟨some ⟨g, o, none⟩, c, zs⟩ w lo hi) (h8 : zs.length = 8) (hf : f < 4) :
    w.cell? ⟨g, o + f * 2, none⟩ = some (.int .i64 (zs.getD (f * 2) 0)) ∧ w.cell? ⟨g, o + f * 2 + 1, none⟩ = some (.int .i64 (zs.getD (f * 2 + 1) 0)) ∧ w.frozen? ⟨g, o + f * 2, none⟩ = false ∧ w.frozen? ⟨g, o + f * 2 + 1, none⟩ = false ∧ lo ≤ g ∧ g < hi := by
  obtain ⟨gr, o', eA, b1, b2, b3⟩ := h.mine.2 (by dsimp only; omega)
  injection eA with eA
  injection eA with e1 e2
  subst e1
  subst e2
  dsimp only at b3
  exact ⟨(b3 (f * 2) (by omega)).1, (b3 (f * 2 + 1) (by omega)).1, (b3 (f * 2) (by omega)).2, (b3 (f * 2 + 1) (by omega)).2, b1, b2⟩
end Fc
end Go.Proofs.YtajbahfbldmckaaDoor

namespace Go.Proofs.YtajbahfbldmckaaDoor
open Go.RowKit Go.Shelf
namespace Fc
theorem fr_in {w w' : World} {g : Nat} (h : BlkF w' g fr) (_hw : w.heap.size ≤ g) : Rw.In ⟨some ⟨g, 0, none⟩, 4, fr⟩ w' g (g + 1) := ⟨⟨by simp [fr], by simp [fr]⟩, by unfold maxLen; dsimp only; omega, h.mine (Nat.le_refl _) (Nat.lt_succ_self _) rfl⟩
set_option maxRecDepth 100000 in
set_option maxHeartbeats 16000000 in
theorem l07Relabel_spec (A : Option Addr) (n c : Nat) (T : List (List Int)) (At Ap : Option Addr) (ct cp : Nat) (tl pl : List Int) (w : World) (h : RdT w w.heap.size A n T) (ht : Ints w w.heap.size At n tl) (hp : Ints w w.heap.size Ap n pl) (hIs : Tr.Is T) (hPm : Rp.Pm (n : Int) tl) (hAl : AllP pl) :
    Calls Tryd.prog 72 #[.agg #[.slice A n c], .slice At n ct, .slice Ap n cp] w (ResT w (Rl.tabS T tl pl n)) := by
  have LN := Lib.hid h.len
  have LP := Lib.hid hp.1
  have h8 : n ≤ 8 := by rw [← LN.out]; exact hIs.1
  have HT := Lib.hid h
  have HL := Lib.hid ht
  have HP := Lib.hid hp
  have IS := Lib.hid hIs
  have PM := Lib.hid hPm
  have AL := Lib.hid hAl
  clear h ht hp hIs hPm hAl
  obtain ⟨U, hU⟩ : ∃ U, U = (w.alloc (Obj.cells #[.slice A n c] 28)).alloc (Obj.cells #[.slice none 0 0] 28) := ⟨_, rfl⟩
  have hB : Below w.heap.size w U := by rw [hU]; exact al2 w _ _
  obtain ⟨z, zb⟩ : U.heap.size ≤ w.heap.size + 2 ∧ w.heap.size + 2 ≤ U.heap.size := by rw [hU]; simp
  have k0 : U.cell? ⟨w.heap.size, 0, none⟩ = some (.slice A n c) := by rw [hU]; simp [go_sem]
  have k1 : U.cell? ⟨w.heap.size + 1, 0, none⟩ = some (.slice none 0 0) := by rw [hU]; simp [go_sem]
  have f1 : U.frozen? ⟨w.heap.size + 1, 0, none⟩ = false := by rw [hU]; simp [go_sem]
  have DU := Lib.hid hB
  have OS := Lib.hid (own_spec A n c T U (HT.out.into hB) h8 IS.out.2.1)
  clear hB
  go_enter Tryd.func72, Tryd.ntmps72
  go_upto_region 1 with fail
  rw [← hU]
  clear hU
  go_wp2_with fail
  refine OS.out.mono ?_
  rintro e w1 ⟨A1, c1, rs1, rfl, hO, hV1, hb⟩
  have z1 : U.heap.size ≤ w1.heap.size := hb.size
  have O1 := Lib.hid hO
  have V1 := Lib.hid hV1
  have B1 := Lib.hid hb
  have L1 := Lib.hid (show rs1.length = n from by rw [← Fc.vals_len, hV1, LN.out])
  have TOP := Lib.hid hO.top
  clear hO hV1 hb OS
  obtain ⟨V, hV⟩ : ∃ V, V = w1.alloc (Obj.cells #[.slice A1 rs1.length c1] 28) := ⟨_, rfl⟩
  obtain ⟨zV, zVb⟩ : V.heap.size ≤ w1.heap.size + 1 ∧ w1.heap.size + 1 ≤ V.heap.size := by rw [hV]; simp
  have BV := Lib.hid (show Below w1.heap.size w1 V from by rw [hV]; exact al1 _ _)
  have r0 : V.cell? ⟨w1.heap.size, 0, none⟩ = some (.slice A1 n c1) := by rw [hV, L1.out]; simp [go_sem]
  have UV := Lib.hid (show Below U.heap.size U V from B1.out.trans (BV.out.mono z1))
  have OV := Lib.hid ((O1.out.below BV.out (Nat.le_refl _)).wide (Nat.le_refl _) (show w1.heap.size ≤ V.heap.size by omega))
  go_upto_region 2 with fail
  rw [← hV]
  clear hV BV B1 O1
  go_wp2
  go_loopw [8] (fun i W => ∃ (a : Nat) (rs : List Rw), a ≤ n ∧ i = .int .i64 a ∧ W.cell? ⟨w1.heap.size, 0, none⟩ = some (.slice A1 n c1) ∧ OwnS W U.heap.size W.heap.size A1 c1 rs ∧ vals rs = Rl.tabS T tl pl a ∧ Below U.heap.size U W ∧ w1.heap.size < W.heap.size) (fun i _ => n - (intOf i).toNat)
  case atStart => exact ⟨0, rs1, Nat.zero_le _, rfl, r0, OV.out, V1.out, UV.out, by omega⟩
  case round =>
    obtain ⟨Wo, rfl⟩ : ∃ W : World, W = wr := ⟨_, rfl⟩
    obtain ⟨a, rs, ha, rfl, hb2, hO, hVl, hbel, zbo⟩ := hrel
    have OW := Lib.hid hO
    have VL := Lib.hid hVl
    have BW := Lib.hid hbel
    have zW : U.heap.size ≤ Wo.heap.size := hbel.size
    have m0 := (hbel.cell (p := ⟨w.heap.size, 0, none⟩) (by dsimp only; omega)).trans k0
    have m1 := (hbel.cell (p := ⟨w.heap.size + 1, 0, none⟩) (by dsimp only; omega)).trans k1
    have g1 := (hbel.frozen (p := ⟨w.heap.size + 1, 0, none⟩) (by dsimp only; omega)).trans f1
    have DW := Lib.hid (DU.out.trans (hbel.mono (by omega)))
    have RL := Lib.hid (show rs.length = n from by rw [← vals_len, hVl, Rl.tabS_len, LN.out])
    have i0 : (0 : Int) ≤ (a : Int) := by omega
    clear hO hVl hbel
    by_cases hlt : a < n
    case neg =>
      obtain rfl : n = a := by omega
      have i1 : ¬ (n : Int) < (n : Int) := by omega
      go_wp2
      refine bodyPost_ret (v := .agg #[.slice A1 n c1]) (by simp [results, Tryd.results72, m1, go_sem]) rfl ?_
      have l9 := RL.out
      refine ⟨A1, c1, rs, by rw [l9], (OW.out.far (p := ⟨w.heap.size + 1, 0, none⟩) (.inl (by dsimp only; omega)) _).wide (by omega) (by simp [World.setCell]), VL.out, DW.out.setCell (by dsimp only; omega) _⟩
    have i1 : (a : Int) < (n : Int) := by omega
    go_wp2_with fail
    refine (free_spec _).mono ?_
    rintro e w7 ⟨rfl, hF, hb⟩
    have D7 := Lib.hid hb
    have s7 : Wo.heap.size < w7.heap.size := hF.lt
    have R7 := Lib.hid (fr_in (w := Wo) hF (Nat.le_refl _))
    clear hF hb
    have n0 := (D7.out.cell (p := ⟨w.heap.size, 0, none⟩) (by dsimp only; omega)).trans m0
    have nb := (D7.out.cell (p := ⟨w1.heap.size, 0, none⟩) (by dsimp only; omega)).trans hb2
    obtain ⟨b, off, gr, o, cj, rfl, hbr, hgr, hcr, h4, hcm, hcf⟩ := (HT.out.below (DW.out.trans (D7.out.mono (by omega)))).row4 hlt (IS.out.2.1 a (by rw [LN.out]; exact hlt))
    obtain ⟨bT, oT, rfl, hbT, hcT⟩ := (HL.out.below (DW.out.trans (D7.out.mono (by omega)))).2 (by omega)
    obtain ⟨bP, oP, rfl, hbP, hcP⟩ := (HP.out.below (DW.out.trans (D7.out.mono (by omega)))).2 (by omega)
    have FC := Lib.hid hcf
    have CT := Lib.hid hcT
    have CP := Lib.hid hcP
    clear hcf hcT hcP
    obtain ⟨pA, hpA, pA24⟩ : ∃ pA : Nat, pl.getD a 0 = (pA : Int) ∧ pA < 24 := ⟨(pl.getD a 0).toNat, by have := AL.out a (by rw [LP.out]; exact hlt); omega, by have := AL.out a (by rw [LP.out]; exact hlt); omega⟩
    have EPA := Lib.hid hpA
    have PAE := Lib.hid (show Rl.pa pl a = pA from by unfold Rl.pa; omega)
    clear hpA
    go_wp2
    go_loopw [10] (fun i Y => ∃ f : Nat, f ≤ 4 ∧ i = .int .i64 f ∧ Rw.In ⟨some ⟨Wo.heap.size, 0, none⟩, 4, Rl.rowR T tl pl a f⟩ Y Wo.heap.size (Wo.heap.size + 1) ∧ Kept Wo.heap.size (Wo.heap.size + 1) w7 Y) (fun i _ => 4 - (intOf i).toNat)
    case atStart => exact ⟨0, by omega, rfl, R7.out, Kept.refl _ _ _⟩
    case round =>
      obtain ⟨Y, rfl⟩ : ∃ Y : World, Y = wr := ⟨_, rfl⟩
      obtain ⟨f, hf, rfl, hR, hK7⟩ := hrel
      have RY := Lib.hid hR
      have KY := Lib.hid hK7
      have zY : w7.heap.size ≤ Y.heap.size := hK7.size
      have p8 := Rl.rowR_len T tl pl a f
      have y0 := (World.cell?_of_block (a := ⟨w.heap.size, 0, none⟩) (hK7.block w.heap.size (by omega) (by omega))).trans n0
      have yb := (World.cell?_of_block (a := ⟨w1.heap.size, 0, none⟩) (hK7.block w1.heap.size (by omega) (by omega))).trans nb
      have BY := Lib.hid (hK7.below (B := Wo.heap.size) (Nat.le_refl _) (by omega))
      have f0 : (0 : Int) ≤ (f : Int) := by omega
      clear hR hK7
      by_cases hf4 : f < 4
      case neg =>
        obtain rfl : f = 4 := by omega
        have OY0 := Lib.hid (OW.out.below (D7.out.trans BY.out) (Nat.le_refl _))
        obtain ⟨gA, hA, gA1, gA2, gc⟩ := OY0.out.at_ (by rw [RL.out]; omega)
        have gT := TOP.out ⟨gA, 0, none⟩ hA
        dsimp only at gT
        obtain ⟨tlt, htl⟩ := Rl.ta_lt PM.out hlt
        have TS := Lib.hid (show Rl.tabS T tl pl (a + 1) = (Rl.tabS T tl pl a).set (Rl.ta tl a) (Rl.rowR T tl pl a 4) from rfl)
        obtain ⟨tA, htA⟩ : ∃ tA, Rl.ta tl a = tA := ⟨_, rfl⟩
        rw [htA] at tlt htl TS
        obtain ⟨gc1, gc2⟩ := gc tA (by rw [RL.out]; exact tlt)
        have c2 := (BY.out.cell (p := ⟨bT, oT + a, none⟩) (by dsimp only; omega)).trans (CT.out a hlt)
        rw [htl] at c2
        subst hA
        have YA := Lib.hid yb
        have it0 : (0 : Int) ≤ (tA : Int) := by omega
        have it1 : (tA : Int) < (n : Int) := by omega
        have EQ := Lib.hid (show (⟨some ⟨Wo.heap.size, 0, none⟩, 4, Rl.rowR T tl pl a 4⟩ : Rw).sv = .slice (some ⟨Wo.heap.size, 0, none⟩) 4 4 from by unfold Rw.sv; rw [p8])
        have NEW := Lib.hid (show ∀ e : World, e = Y.drew → OwnS (e.setCell ⟨gA, tA, none⟩ (.slice (some ⟨Wo.heap.size, 0, none⟩) 4 4)) U.heap.size Y.heap.size (some ⟨gA, 0, none⟩) c1 (rs.set tA ⟨some ⟨Wo.heap.size, 0, none⟩, 4, Rl.rowR T tl pl a 4⟩) from by rintro e rfl; rw [← EQ.out]; exact ((OY0.out.wide (Nat.le_refl _) (show Wo.heap.size ≤ Y.heap.size by omega)).keep (w' := Y.drew) (fun _ _ _ => rfl)).set_ tA ⟨some ⟨Wo.heap.size, 0, none⟩, 4, Rl.rowR T tl pl a 4⟩ ((RY.out.wide (by omega) (by omega)).keep (fun _ _ _ => rfl)) (RY.out.off (.inl gA2)) (fun r' hr' => Apart.of_in RY.out (OY0.out.mine r' hr') (.inr (Nat.le_refl _))))
        have BD := Lib.hid (show Below U.heap.size U Y from BW.out.trans ((D7.out.trans BY.out).mono zW))
        clear OY0 gc htl htA EQ
        go_upto_region 13 with fail
        go_still_tail 8, (by kernel_rfl)
        change wpList _ _ _ _ _ Y.drew
        have BD2 := Lib.hid BD.out.drew
        have YA2 := Lib.hid (show (Y.drew).cell? ⟨w1.heap.size, 0, none⟩ = _ from YA.out)
        have hcV : (Y.drew).cell? ⟨gA, tA, none⟩ = _ := gc1
        have hfV : (Y.drew).frozen? ⟨gA, tA, none⟩ = false := gc2
        obtain ⟨V, hV⟩ : ∃ V, V = Y.drew := ⟨_, rfl⟩
        have NV := Lib.hid (NEW.out V hV)
        have sV : V.heap.size = Y.heap.size := by rw [hV]; rfl
        have gA3 : ¬ gA = w1.heap.size := by omega
        rw [← hV] at BD2 YA2 hcV hfV
        rw [← hV]
        clear hV yb y0 c2 gc1 gc2 BD YA NEW RY KY BY
        go_wp2
        go_roundw
        case rel => exact ⟨a + 1, rs.set tA ⟨some ⟨Wo.heap.size, 0, none⟩, 4, Rl.rowR T tl pl a 4⟩, by omega, by go_num, by rw [World.cell?_setCell_other _ _ _ _ (by first | (simp; done) | (simp; omega))]; exact YA2.out, NV.out.wide (Nat.le_refl _) (by rw [show (V.setCell ⟨gA, tA, none⟩ (Value.slice (some ⟨Wo.heap.size, 0, none⟩) 4 4)).heap.size = V.heap.size from by simp [World.setCell], sV]; exact Nat.le_refl _), by unfold vals; rw [List.map_set]; exact (congrArg (fun z => z.set tA (Rl.rowR T tl pl a 4)) VL.out).trans TS.out.symm, BD2.out.setCell (by dsimp only; omega) _, by rw [show (V.setCell ⟨gA, tA, none⟩ (Value.slice (some ⟨Wo.heap.size, 0, none⟩) 4 4)).heap.size = V.heap.size from by simp [World.setCell]]; omega⟩
        case measure => simp [intOf]; omega
      have f1 : (f : Int) < 4 := by omega
      obtain ⟨q0, q1⟩ := FC.out f hf4
      have q0 := (BY.out.cell (p := ⟨gr, o + f * 2, none⟩) (by dsimp only; omega)).trans q0
      have q1 := (BY.out.cell (p := ⟨gr, o + f * 2 + 1, none⟩) (by dsimp only; omega)).trans q1
      obtain ⟨tv, htv⟩ : ∃ tv, Tr.tt T a f = tv := ⟨_, rfl⟩
      obtain ⟨pv, hpv⟩ : ∃ pv, Tr.pp T a f = pv := ⟨_, rfl⟩
      rw [htv] at q0
      rw [hpv] at q1
      obtain ⟨X, hX⟩ : ∃ X, X = Y.alloc (Obj.cells #[.int .i64 tv, .int .i64 pv] 72) := ⟨_, rfl⟩
      obtain ⟨zX, zXb⟩ : X.heap.size ≤ Y.heap.size + 1 ∧ Y.heap.size + 1 ≤ X.heap.size := by rw [hX]; simp
      have BX := Lib.hid (show Below Y.heap.size Y X from by rw [hX]; exact al1 _ _)
      have hcrY := (BY.out.cell (p := ⟨b, off + a, none⟩) (by dsimp only; omega)).trans hcr
      go_upto_region 10 with fail
      rw [← hX]
      have x0 : X.cell? ⟨Y.heap.size, 0, none⟩ = some (.int .i64 tv) := by rw [hX]; simp [go_sem]
      have x1 : X.cell? ⟨Y.heap.size, 1, none⟩ = some (.int .i64 pv) := by rw [hX]; simp [go_sem]
      have RX := Lib.hid (RY.out.below BX.out (by omega))
      have KX := Lib.hid (KY.out.trans (Kept.of_below BX.out _ _))
      have B7X := Lib.hid (BY.out.trans (BX.out.mono (by omega)))
      clear hX q0 q1 BX RY KY
      by_cases hneg : tv < 0
      · have NG := Lib.hid (Rl.rowR_neg (T := T) (tl := tl) (pl := pl) (a := a) (f := f) (by rw [htv]; exact hneg))
        have t0 : decide (0 ≤ tv) = false := by simp; omega
        clear htv hpv hneg
        go_wp2
        go_roundw
        case rel => exact ⟨f + 1, by omega, by go_num, by rw [NG.out]; exact RX.out, KX.out⟩
        case measure => simp [intOf]; omega
      have hnb : ¬ Tr.Bd T a f := fun e => by have := (IS.out.bd_iff (by rw [LN.out]; exact hlt) hf4).1 e; omega
      obtain ⟨tb, p, ht, hp, htn, hp24, -, -, -, -, -⟩ := IS.out.glued (a := a) (f := f) (by rw [LN.out]; exact hlt) hf4 hnb
      have PS := Lib.hid (Rl.rowR_pos (T := T) (tl := tl) (pl := pl) (a := a) (f := f) (by rw [htv]; exact hneg))
      have RPE := Lib.hid (show Rl.rp T pl a f = P4.thn (P4.thn (P4.ivt pA) p) (Rl.pa pl tb) from by unfold Rl.rp; rw [PAE.out, hp, ht]; rfl)
      have TTE := Lib.hid (show (Tr.tt T a f).toNat = tb from by omega)
      rw [htv] at ht
      rw [hpv] at hp
      subst ht
      subst hp
      have htn' : tb < n := by rw [← LN.out]; exact htn
      obtain ⟨pB, hpB, pB24⟩ : ∃ pB : Nat, pl.getD tb 0 = (pB : Int) ∧ pB < 24 := ⟨(pl.getD tb 0).toNat, by have := AL.out tb (by rw [LP.out]; exact htn'); omega, by have := AL.out tb (by rw [LP.out]; exact htn'); omega⟩
      have PBE := Lib.hid (show Rl.pa pl tb = pB from by unfold Rl.pa; omega)
      rw [PBE.out] at RPE
      obtain ⟨tB, htB⟩ : ∃ tB, tl.getD tb 0 = tB := ⟨_, rfl⟩
      have c0 := (B7X.out.cell (p := ⟨bP, oP + a, none⟩) (by dsimp only; omega)).trans (CP.out a hlt)
      have c1 := (B7X.out.cell (p := ⟨bP, oP + tb, none⟩) (by dsimp only; omega)).trans (CP.out tb htn')
      have c2 := (B7X.out.cell (p := ⟨bT, oT + tb, none⟩) (by dsimp only; omega)).trans (CT.out tb htn')
      rw [EPA.out] at c0
      rw [hpB] at c1
      rw [htB] at c2
      have TBE := Lib.hid htB
      have t0 : decide (0 ≤ (tb : Int)) = true := by simp
      have facts : ((0 : Int) ≤ (tb : Int) ∧ (tb : Int) < (n : Int)) := by omega
      obtain ⟨i4, i5⟩ := facts
      have gml := Rl.gm_lt pA24 hf4
      obtain ⟨g, hg⟩ : ∃ g, Rl.gm pA f = g := ⟨_, rfl⟩
      rw [hg] at gml
      have GE := Lib.hid hg
      have g4 : g < 4 := gml.2
      have tl1 : P4.thn (P4.ivt pA) p < 24 := P4.comp_ix _ (P4.inv_ix pA pA24) p hp24
      have BK := Lib.hid (fun (Z : World) => back_spec pA Z pA24)
      have TH1 := Lib.hid (fun (Z : World) => then_spec (P4.ivt pA) p Z (P4.inv_ix pA pA24) hp24)
      have TH2 := Lib.hid (fun (Z : World) => then_spec (P4.thn (P4.ivt pA) p) pB Z tl1 pB24)
      obtain ⟨rr, hrr⟩ : ∃ rr, P4.thn (P4.thn (P4.ivt pA) p) pB = rr := ⟨_, rfl⟩
      rw [hrr] at TH2 RPE
      have AT := Lib.hid (fun (Z : World) => (show Calls Tryd.prog 57 #[.int .i64 (pA : Int), .int .i64 (f : Int)] Z (ResI Z (g : Int)) from by have := at_spec pA f Z pA24 hf4; rw [gml.1] at this; exact this))
      clear htv hpv hneg hnb htn hpB htB hg gml tl1 hrr
      go_upto_region 11 with fail
      have SX := Lib.hid (fun (Z : World) (hb : Below X.heap.size X Z) => (show Z.cell? ⟨bP, oP + a, none⟩ = some (.int .i64 (pA : Int)) ∧ Z.cell? ⟨bP, oP + tb, none⟩ = some (.int .i64 (pB : Int)) ∧ Z.cell? ⟨Y.heap.size, 0, none⟩ = some (.int .i64 (tb : Int)) ∧ Z.cell? ⟨Y.heap.size, 1, none⟩ = some (.int .i64 (p : Int)) ∧ Z.cell? ⟨bT, oT + tb, none⟩ = some (.int .i64 tB) from ⟨(hb.cell (p := ⟨bP, oP + a, none⟩) (by dsimp only; omega)).trans c0, (hb.cell (p := ⟨bP, oP + tb, none⟩) (by dsimp only; omega)).trans c1, (hb.cell (p := ⟨Y.heap.size, 0, none⟩) (by dsimp only; omega)).trans x0, (hb.cell (p := ⟨Y.heap.size, 1, none⟩) (by dsimp only; omega)).trans x1, (hb.cell (p := ⟨bT, oT + tb, none⟩) (by dsimp only; omega)).trans c2⟩))
      have CUR := Lib.hid (Below.refl X.heap.size X)
      go_cut [12] (fun v Z => v = .int .i64 (rr : Int) ∧ Below X.heap.size X Z)
      case first =>
        go_region_held3 (fun Z => Z.cell? ⟨bP, oP + a, none⟩ = some (.int .i64 (pA : Int)) ∧ Z.cell? ⟨bP, oP + tb, none⟩ = some (.int .i64 (pB : Int)) ∧ Z.cell? ⟨Y.heap.size, 0, none⟩ = some (.int .i64 (tb : Int)) ∧ Z.cell? ⟨Y.heap.size, 1, none⟩ = some (.int .i64 (p : Int)) ∧ Z.cell? ⟨bT, oT + tb, none⟩ = some (.int .i64 tB)) (go_keep) (first
          | (go_at_call 94; (with_reducible refine (BK.out _).mono ?_); rintro e y6 ⟨rfl, hb6'⟩; (first | have hb6 := undrew hb6' | have hb6 := hb6'); replace CUR := Lib.hid (CUR.out.trans (hb6.mono CUR.out.size)); obtain ⟨c0, c1, x0, x1, c2⟩ := SX.out _ CUR.out; clear hb6 hb6')
          | (go_at_call 105; (with_reducible refine (TH1.out _).mono ?_); rintro e y7 ⟨rfl, hb6'⟩; (first | have hb6 := undrew hb6' | have hb6 := hb6'); replace CUR := Lib.hid (CUR.out.trans (hb6.mono CUR.out.size)); obtain ⟨c0, c1, x0, x1, c2⟩ := SX.out _ CUR.out; clear hb6 hb6')
          | (go_at_call 105; (with_reducible refine (TH2.out _).mono ?_); rintro e y8 ⟨rfl, hb6'⟩; (first | have hb6 := undrew hb6' | have hb6 := hb6'); replace CUR := Lib.hid (CUR.out.trans (hb6.mono CUR.out.size)); obtain ⟨c0, c1, x0, x1, c2⟩ := SX.out _ CUR.out; clear hb6 hb6'))
        all_goals
          go_wp2_with fail
          go_meet
          exact ⟨rfl, by first | exact CUR.out | exact CUR.out.drew⟩
      obtain ⟨rfl, hXZ⟩ := hcut
      obtain ⟨Z0, rfl⟩ : ∃ Z : World, Z = wc := ⟨_, rfl⟩
      obtain ⟨c0, c1, x0, x1, c2⟩ := SX.out _ hXZ
      have CUR := Lib.hid hXZ
      have zZ := hXZ.size
      have RZ := Lib.hid (RX.out.below hXZ (by omega))
      obtain ⟨d0, d1, e0, e1, g70, g71⟩ := RZ.out.faceAt p8 g4
      rw [Nat.zero_add] at d0 d1 e0 e1
      have DX := Lib.hid (fun (Z : World) (hb : Below X.heap.size X Z) (hz : Below Z0.heap.size Z0 Z) => (show (Z.cell? ⟨Wo.heap.size, g * 2, none⟩ = some (.int .i64 ((Rl.rowR T tl pl a f).getD (g * 2) 0)) ∧ Z.cell? ⟨Wo.heap.size, g * 2 + 1, none⟩ = some (.int .i64 ((Rl.rowR T tl pl a f).getD (g * 2 + 1) 0))) ∧ Z.frozen? ⟨Wo.heap.size, g * 2, none⟩ = false ∧ Z.frozen? ⟨Wo.heap.size, g * 2 + 1, none⟩ = false from ⟨⟨(hz.cell (p := ⟨Wo.heap.size, g * 2, none⟩) (by dsimp only; omega)).trans d0, (hz.cell (p := ⟨Wo.heap.size, g * 2 + 1, none⟩) (by dsimp only; omega)).trans d1⟩, (hz.frozen (p := ⟨Wo.heap.size, g * 2, none⟩) (by dsimp only; omega)).trans e0, (hz.frozen (p := ⟨Wo.heap.size, g * 2 + 1, none⟩) (by dsimp only; omega)).trans e1⟩))
      have ne : (¬ Wo.heap.size = bP ∧ ¬ bP = Wo.heap.size) ∧ (¬ Wo.heap.size = bT ∧ ¬ bT = Wo.heap.size) ∧ (¬ Wo.heap.size = Y.heap.size ∧ ¬ Y.heap.size = Wo.heap.size) := by omega
      obtain ⟨⟨u1, u2⟩, ⟨u3, u4⟩, u5, u6⟩ := ne
      have ig0 : (0 : Int) ≤ (g : Int) := by omega
      have ig1 : (g : Int) < 4 := by omega
      go_upto_region 12 with fail
      go_region_held3 (fun Z => Z.cell? ⟨bP, oP + a, none⟩ = some (.int .i64 (pA : Int)) ∧ Z.cell? ⟨bP, oP + tb, none⟩ = some (.int .i64 (pB : Int)) ∧ Z.cell? ⟨Y.heap.size, 0, none⟩ = some (.int .i64 (tb : Int)) ∧ Z.cell? ⟨Y.heap.size, 1, none⟩ = some (.int .i64 (p : Int)) ∧ Z.cell? ⟨bT, oT + tb, none⟩ = some (.int .i64 tB)) (go_keep) (first
          | (go_at_call 57; (with_reducible refine (AT.out _).mono ?_); rintro e y9 ⟨rfl, hb6'⟩; (first | have hb6 := undrew hb6' | have hb6 := hb6'); have B9 := Lib.hid (show Below Z0.heap.size Z0 y9 from hb6); replace CUR := Lib.hid (CUR.out.trans (B9.out.mono CUR.out.size)); obtain ⟨c0, c1, x0, x1, c2⟩ := SX.out _ CUR.out; obtain ⟨⟨d0, d1⟩, e0, e1⟩ := DX.out _ CUR.out B9.out; clear hb6 hb6'))
      all_goals
        have z9 := B9.out.size
        have RN0 := (RZ.out.below B9.out (by omega)).setFace p8 g4 tB (rr : Int)
        rw [Nat.zero_add] at RN0
        have RN := Lib.hid RN0
        have RE := Lib.hid (show Rl.rowR T tl pl a (f + 1) = ((Rl.rowR T tl pl a f).set (g * 2) tB).set (g * 2 + 1) (rr : Int) from by rw [PS.out, PAE.out, GE.out, TTE.out, TBE.out, RPE.out]; rfl)
        have KN := Lib.hid (((KX.out.trans (Kept.of_below (CUR.out) _ _)).set_ (p := ⟨Wo.heap.size, g * 2, none⟩) g70 g71 (.int .i64 tB)).set_ (p := ⟨Wo.heap.size, g * 2 + 1, none⟩) g70 g71 (.int .i64 (rr : Int)))
        clear RN0 d0 d1 e0 e1 c0 c1 x0 x1 c2 y0 yb SX DX CUR
        go_wp2
        go_roundw
        case rel => exact ⟨f + 1, by omega, by go_num, by rw [RE.out]; exact RN.out, KN.out⟩
        case measure => simp [intOf]; omega
end Fc
end Go.Proofs.YtajbahfbldmckaaDoor

namespace Go.Proofs.YtajbahfbldmckaaDoor
open Go.RowKit Go.Shelf
namespace Fc
set_option maxRecDepth 100000 in
set_option maxHeartbeats 8000000 in
theorem relabel_spec (A : Option Addr) (n c : Nat) (T : List (List Int)) (At Ap : Option Addr) (m p ct cp : Nat) (tl pl : List Int) (w : World) (h : RdT w w.heap.size A n T) (hn : n ≤ 1048576) (ht : Ints w w.heap.size At m tl) (hm : m ≤ 1048576) (hp : Ints w w.heap.size Ap p pl) (hp1 : p ≤ 1048576) :
    Calls Tryd.prog 31 #[.agg #[.slice A n c], .slice At m ct, .slice Ap p cp] w (ResTC w (Rl.rlT T tl pl) (Rl.rlC T tl pl)) := by
  have LN := Lib.hid h.len
  have LM := Lib.hid ht.1
  have LP := Lib.hid hp.1
  have HT := Lib.hid h
  have HL := Lib.hid ht
  have HP := Lib.hid hp
  have TI := Lib.hid (fun (W : World) (hb : Below w.heap.size w W) => isTri_specT A n c T W (h.into hb) hn)
  clear h ht hp
  obtain ⟨U, hU⟩ : ∃ U, U = (w.alloc (Obj.cells #[.slice A n c] 28)).alloc (Obj.cells #[.slice none 0 0] 28) := ⟨_, rfl⟩
  have hB : Below w.heap.size w U := by rw [hU]; exact al2 w _ _
  have z : U.heap.size = w.heap.size + 2 := by rw [hU]; simp
  have k0 : U.cell? ⟨w.heap.size, 0, none⟩ = some (.slice A n c) := by rw [hU]; simp [go_sem]
  have k1 : U.cell? ⟨w.heap.size + 1, 0, none⟩ = some (.slice none 0 0) := by rw [hU]; simp [go_sem]
  have f1 : U.frozen? ⟨w.heap.size + 1, 0, none⟩ = false := by rw [hU]; simp [go_sem]
  have DU := Lib.hid hB
  clear hB
  go_enter Tryd.func31, Tryd.ntmps31
  go_upto_region 1 with fail
  rw [← hU]
  clear hU
  go_wp2_with fail
  refine (TI.out U DU.out).mono ?_
  rintro e w1 ⟨rfl, hb⟩
  have k0 := (hb.cell (p := ⟨w.heap.size, 0, none⟩) (by dsimp only; omega)).trans k0
  have k1 := (hb.cell (p := ⟨w.heap.size + 1, 0, none⟩) (by dsimp only; omega)).trans k1
  have f1 := (hb.frozen (p := ⟨w.heap.size + 1, 0, none⟩) (by dsimp only; omega)).trans f1
  have z1 : U.heap.size ≤ w1.heap.size := hb.size
  have D1 := Lib.hid (DU.out.trans (hb.mono (by omega)))
  clear hb TI DU
  by_cases hok : Tr.Is T
  case neg =>
    rw [decide_eq_false hok]
    have R := Lib.hid (Rl.rl_1 (tl := tl) (pl := pl) hok)
    clear hok
    go_wp2
    refine bodyPost_ret (v := .tuple #[.agg #[.slice none 0 0], .int .i64 1]) (by simp [results, Tryd.results31, k1, go_sem]) rfl ?_
    rw [R.out.1, R.out.2]
    exact ⟨none, 0, [], rfl, OwnS.nil _ _ _, rfl, D1.out.setCell (by dsimp only; omega) _⟩
  rw [decide_eq_true hok]
  have h8 : n ≤ 8 := by rw [← LN.out]; exact hok.1
  have IS := Lib.hid hok
  clear hok
  go_wp2_with fail
  refine (labels_spec A n c At m ct tl Ap p cp pl w1 (HL.out.into D1.out) (HP.out.into D1.out) hm hp1 h8).mono ?_
  rintro e w2 ⟨rfl, hb⟩
  have k0 := (hb.cell (p := ⟨w.heap.size, 0, none⟩) (by dsimp only; omega)).trans k0
  have k1 := (hb.cell (p := ⟨w.heap.size + 1, 0, none⟩) (by dsimp only; omega)).trans k1
  have f1 := (hb.frozen (p := ⟨w.heap.size + 1, 0, none⟩) (by dsimp only; omega)).trans f1
  have D2 := Lib.hid (D1.out.trans (hb.mono (by omega)))
  have z2 : w1.heap.size ≤ w2.heap.size := hb.size
  clear hb
  by_cases hl : Rp.Pm (n : Int) tl ∧ p = n ∧ AllP pl
  case neg =>
    have R := Lib.hid (Rl.rl_2 (tl := tl) (pl := pl) IS.out (by rw [LN.out, LP.out]; exact hl))
    rw [decide_eq_false hl]
    clear hl
    go_wp2
    refine bodyPost_ret (v := .tuple #[.agg #[.slice none 0 0], .int .i64 2]) (by simp [results, Tryd.results31, k1, go_sem]) rfl ?_
    rw [R.out.1, R.out.2]
    exact ⟨none, 0, [], rfl, OwnS.nil _ _ _, rfl, D2.out.setCell (by dsimp only; omega) _⟩
  have R := Lib.hid (Rl.rl_0 (tl := tl) (pl := pl) IS.out (by rw [LN.out, LP.out]; exact hl))
  rw [decide_eq_true hl]
  obtain ⟨hPm, epn, hAl⟩ := hl
  subst epn
  have emn : m = p := by have := hPm.1; have := LM.out; omega
  subst emn
  have RE := Lib.hid (l07Relabel_spec A m c T At Ap ct cp tl pl w2 (HT.out.into D2.out) (HL.out.into D2.out) (HP.out.into D2.out) IS.out hPm hAl)
  rw [LN.out] at R
  clear hPm hAl
  go_wp2_with fail
  refine RE.out.mono ?_
  rintro e w3 ⟨A1, c1, rs, rfl, hO, hV, hb⟩
  have k1 := (hb.cell (p := ⟨w.heap.size + 1, 0, none⟩) (by dsimp only; omega)).trans k1
  have f1 := (hb.frozen (p := ⟨w.heap.size + 1, 0, none⟩) (by dsimp only; omega)).trans f1
  have D3 := Lib.hid (D2.out.trans (hb.mono (by omega)))
  have z3 : w2.heap.size ≤ w3.heap.size := hb.size
  have O3 := Lib.hid hO
  have V3 := Lib.hid hV
  clear hb hO hV RE
  go_wp2
  refine bodyPost_ret (v := .tuple #[.agg #[.slice A1 rs.length c1], .int .i64 0]) (by simp [results, Tryd.results31, k1, go_sem]) rfl ?_
  rw [R.out.1, R.out.2]
  exact ⟨A1, c1, rs, rfl, (O3.out.far (p := ⟨w.heap.size + 1, 0, none⟩) (.inl (by dsimp only; omega)) _).wide (by omega) (by simp [World.setCell]), V3.out, D3.out.setCell (by dsimp only; omega) _⟩
end Fc
end Go.Proofs.YtajbahfbldmckaaDoor

namespace Go.Proofs.YtajbahfbldmckaaDoor
open Go.RowKit Go.Shelf
namespace Fc
/-- Four bytes in a block. -/
def Four4 (W : World) (b : Nat) (x0 x1 x2 x3 : Nat) : Prop := (W.cell? ⟨b, 0, none⟩ = some (.int .u8 (x0 : Int)) ∧ W.cell? ⟨b, 1, none⟩ = some (.int .u8 (x1 : Int))) ∧ W.cell? ⟨b, 2, none⟩ = some (.int .u8 (x2 : Int)) ∧ W.cell? ⟨b, 3, none⟩ = some (.int .u8 (x3 : Int))
theorem Four4.below {W W' : World} {b B : Nat} {x0 x1 x2 x3 : Nat} (h : Four4 W b x0 x1 x2 x3) (hb : Below B W W') (hB : b < B) : Four4 W' b x0 x1 x2 x3 :=
  ⟨⟨(hb.cell (p := ⟨b, 0, none⟩) hB).trans h.1.1, (hb.cell (p := ⟨b, 1, none⟩) hB).trans h.1.2⟩, (hb.cell (p := ⟨b, 2, none⟩) hB).trans h.2.1, (hb.cell (p := ⟨b, 3, none⟩) hB).trans h.2.2⟩
theorem Four4.at_ {W : World} {b x0 x1 x2 x3 : Nat} (h : Four4 W b x0 x1 x2 x3) {f : Nat} (hf : f < 4) : W.cell? ⟨b, f, none⟩ = some (.int .u8 (([(x0 : Int), (x1 : Int), (x2 : Int), (x3 : Int)] : List Int).getD f 0)) := by
  have : f = 0 ∨ f = 1 ∨ f = 2 ∨ f = 3 := by omega
  rcases this with rfl | rfl | rfl | rfl
  · exact h.1.1
  · exact h.1.2
  · exact h.2.1
  · exact h.2.2
/-- Both arrays behind the first statement. -/
def CutR2 (U : World) (h0 h1 h2 h3 t0 t1 t2 t3 : Nat) (p q : Value) (W : World) : Prop :=
  ∃ bh bt, p = .pointer (some ⟨bh, 0, none⟩) ∧ q = .pointer (some ⟨bt, 0, none⟩) ∧ Four4 W bh h0 h1 h2 h3 ∧ Four4 W bt t0 t1 t2 t3 ∧ (U.heap.size ≤ bh ∧ bh < W.heap.size) ∧ (U.heap.size ≤ bt ∧ bt < W.heap.size) ∧ Below U.heap.size U W

theorem CutR2.ab (U : World) (h0 h1 h2 h3 t0 t1 t2 t3 : Nat) (T T' : TypeId) : CutR2 U h0 h1 h2 h3 t0 t1 t2 t3 (.pointer (some ⟨U.heap.size, 0, none⟩)) (.pointer (some ⟨U.heap.size + 1, 0, none⟩)) ((U.alloc (Obj.cells #[.int .u8 (h0 : Int), .int .u8 (h1 : Int), .int .u8 (h2 : Int), .int .u8 (h3 : Int)] T)).alloc (Obj.cells #[.int .u8 (t0 : Int), .int .u8 (t1 : Int), .int .u8 (t2 : Int), .int .u8 (t3 : Int)] T')).drew :=
  ⟨U.heap.size, U.heap.size + 1, rfl, rfl, by unfold Four4; refine ⟨⟨?_, ?_⟩, ?_, ?_⟩ <;> simp [go_sem], by unfold Four4; refine ⟨⟨?_, ?_⟩, ?_, ?_⟩ <;> simp [go_sem], ⟨Nat.le_refl _, by simp [go_sem]⟩, ⟨by omega, by simp [go_sem]⟩, (al2 _ _ _).drew⟩
theorem CutR2.ba (U : World) (h0 h1 h2 h3 t0 t1 t2 t3 : Nat) (T T' : TypeId) : CutR2 U h0 h1 h2 h3 t0 t1 t2 t3 (.pointer (some ⟨U.heap.size + 1, 0, none⟩)) (.pointer (some ⟨U.heap.size, 0, none⟩)) ((U.alloc (Obj.cells #[.int .u8 (t0 : Int), .int .u8 (t1 : Int), .int .u8 (t2 : Int), .int .u8 (t3 : Int)] T)).alloc (Obj.cells #[.int .u8 (h0 : Int), .int .u8 (h1 : Int), .int .u8 (h2 : Int), .int .u8 (h3 : Int)] T')).drew :=
  ⟨U.heap.size + 1, U.heap.size, rfl, rfl, by unfold Four4; refine ⟨⟨?_, ?_⟩, ?_, ?_⟩ <;> simp [go_sem], by unfold Four4; refine ⟨⟨?_, ?_⟩, ?_, ?_⟩ <;> simp [go_sem], ⟨by omega, by simp [go_sem]⟩, ⟨Nat.le_refl _, by simp [go_sem]⟩, (al2 _ _ _).drew⟩

set_option maxRecDepth 100000 in
set_option maxHeartbeats 16000000 in
theorem relabelled_impl (a f b g p pA pB hf tg x0 x1 x2 x3 h0 h1 h2 h3 t0 t1 t2 t3 r0 r1 r2 r3 : Nat) (tA tB : Int) (At Ap : Option Addr) (nt ct np cp : Nat) (tl pl : List Int) (w : World) (ht : Ints w w.heap.size At nt tl) (hp : Ints w w.heap.size Ap np pl) (hv : Tb w) (hf4 : f < 4) (hg4 : g < 4) (hp24 : p < 24) (hA24 : pA < 24) (hB24 : pB < 24)
    (hat : a < nt) (hbt : b < nt) (hap : a < np) (hbp : b < np) (eA : pl.getD a 0 = (pA : Int)) (eB : pl.getD b 0 = (pB : Int)) (etA : tl.getD a 0 = tA) (etB : tl.getD b 0 = tB)
    (hx : P4.im p = [(x0 : Int), (x1 : Int), (x2 : Int), (x3 : Int)]) (hh : P4.im pA = [(h0 : Int), (h1 : Int), (h2 : Int), (h3 : Int)]) (htt : P4.im pB = [(t0 : Int), (t1 : Int), (t2 : Int), (t3 : Int)]) (hr : P4.im (P4.thn (P4.thn (P4.ivt pA) p) pB) = [(r0 : Int), (r1 : Int), (r2 : Int), (r3 : Int)]) (hhf : (P4.im pA).getD f 0 = (hf : Int)) (htg : (P4.im pB).getD g 0 = (tg : Int)) :
    Calls Tryd.prog 78 #[.agg #[.int .i64 (a : Int), .int .i64 (f : Int), .int .i64 (b : Int), .int .i64 (g : Int), .int .u8 (x0 : Int), .int .u8 (x1 : Int), .int .u8 (x2 : Int), .int .u8 (x3 : Int)], .slice At nt ct, .slice Ap np cp] w fun e w' => e = .returned (.agg #[.int .i64 tA, .int .i64 (hf : Int), .int .i64 tB, .int .i64 (tg : Int), .int .u8 (r0 : Int), .int .u8 (r1 : Int), .int .u8 (r2 : Int), .int .u8 (r3 : Int)]) ∧ Below w.heap.size w w' := by
  have hpos := hv.pos
  obtain ⟨i0, i1, i2, i3, hi, _⟩ := im_four (P4.ivt pA) (P4.inv_ix pA hA24)
  have tlt : P4.thn (P4.ivt pA) p < 24 := P4.comp_ix _ (P4.inv_ix pA hA24) p hp24
  obtain ⟨m0, m1, m2, m3, hm, _⟩ := im_four (P4.thn (P4.ivt pA) p) tlt
  have LA := L4.im hA24
  have LB := L4.im hB24
  have LI : L4 (P4.im (P4.ivt pA)) := L4.im (P4.inv_ix pA hA24)
  have LP := L4.im hp24
  have LM : L4 (P4.im (P4.thn (P4.ivt pA) p)) := L4.im tlt
  have PI := Lib.hid (fun (W : World) => (show Calls Tryd.prog 107 #[.agg #[.int .u8 (h0 : Int), .int .u8 (h1 : Int), .int .u8 (h2 : Int), .int .u8 (h3 : Int)]] W (fun e w' => e = .returned (.agg #[.int .u8 (i0 : Int), .int .u8 (i1 : Int), .int .u8 (i2 : Int), .int .u8 (i3 : Int)]) ∧ Below W.heap.size W w') from by
    have h := pinv_impl (P4.im pA) W LA (by rw [← P4.ivt_im hA24]; exact LI)
    rw [← P4.ivt_im hA24] at h
    unfold ResA at h
    rw [hi, hh] at h
    exact h))
  have TH1 := Lib.hid (fun (W : World) => (show Calls Tryd.prog 108 #[.agg #[.int .u8 (i0 : Int), .int .u8 (i1 : Int), .int .u8 (i2 : Int), .int .u8 (i3 : Int)], .agg #[.int .u8 (x0 : Int), .int .u8 (x1 : Int), .int .u8 (x2 : Int), .int .u8 (x3 : Int)]] W (fun e w' => e = .returned (.agg #[.int .u8 (m0 : Int), .int .u8 (m1 : Int), .int .u8 (m2 : Int), .int .u8 (m3 : Int)]) ∧ Below W.heap.size W w') from by
    have h := pthen_impl (P4.im (P4.ivt pA)) (P4.im p) W LI LP
    rw [show P4.comp (P4.im (P4.ivt pA)) (P4.im p) = P4.im (P4.thn (P4.ivt pA) p) from (P4.thn_im (P4.inv_ix pA hA24) hp24).symm] at h
    unfold ResA at h
    rw [hm, hi, hx] at h
    exact h))
  have TH2 := Lib.hid (fun (W : World) => (show Calls Tryd.prog 108 #[.agg #[.int .u8 (m0 : Int), .int .u8 (m1 : Int), .int .u8 (m2 : Int), .int .u8 (m3 : Int)], .agg #[.int .u8 (t0 : Int), .int .u8 (t1 : Int), .int .u8 (t2 : Int), .int .u8 (t3 : Int)]] W (fun e w' => e = .returned (.agg #[.int .u8 (r0 : Int), .int .u8 (r1 : Int), .int .u8 (r2 : Int), .int .u8 (r3 : Int)]) ∧ Below W.heap.size W w') from by
    have h := pthen_impl (P4.im (P4.thn (P4.ivt pA) p)) (P4.im pB) W LM LB
    rw [← P4.thn_im tlt hB24] at h
    unfold ResA at h
    rw [hr, hm, htt] at h
    exact h))
  clear LA LB LI LP LM hi hm hr tlt
  obtain ⟨y0, y1, y2, y3, hy, _, a0, a1, a2, a3⟩ := hv.four hA24
  rw [hh] at hy
  obtain ⟨rfl, rfl, rfl, rfl⟩ : h0 = y0 ∧ h1 = y1 ∧ h2 = y2 ∧ h3 = y3 := by simp at hy; omega
  clear hy
  obtain ⟨y0, y1, y2, y3, hy, _, b0, b1, b2, b3⟩ := hv.four hB24
  rw [htt] at hy
  obtain ⟨rfl, rfl, rfl, rfl⟩ : t0 = y0 ∧ t1 = y1 ∧ t2 = y2 ∧ t3 = y3 := by simp at hy; omega
  clear hy hv
  obtain ⟨bT, oT, _, rfl, hbT, rfl, cT1⟩ := ht.at_z hat
  obtain ⟨bT', oT', _, eT, _, rfl, cT2⟩ := ht.at_z hbt
  injection eT with eT
  injection eT with eT1 eT2
  subst eT1
  subst eT2
  obtain ⟨bP, oP, _, rfl, hbP, rfl, cP1⟩ := hp.at_z hap
  obtain ⟨bP', oP', _, eP, _, rfl, cP2⟩ := hp.at_z hbp
  injection eP with eP
  injection eP with eP1 eP2
  subst eP1
  subst eP2
  rw [etA] at cT1
  rw [etB] at cT2
  rw [eA] at cP1
  rw [eB] at cP2
  obtain ⟨U, hU⟩ : ∃ U, U = (w.alloc (Obj.cells #[.int .i64 (a : Int), .int .i64 (f : Int), .int .i64 (b : Int), .int .i64 (g : Int), .int .u8 (x0 : Int), .int .u8 (x1 : Int), .int .u8 (x2 : Int), .int .u8 (x3 : Int)] 80)).alloc (Obj.cells #[.int .i64 0, .int .i64 0, .int .i64 0, .int .i64 0, .int .u8 0, .int .u8 0, .int .u8 0, .int .u8 0] 80) := ⟨_, rfl⟩
  have hB : Below w.heap.size w U := by rw [hU]; exact al2 w _ _
  obtain ⟨z, zb⟩ : U.heap.size ≤ w.heap.size + 2 ∧ w.heap.size + 2 ≤ U.heap.size := by rw [hU]; simp
  have q0 : U.cell? ⟨w.heap.size, 0, none⟩ = some (.int .i64 (a : Int)) := by rw [hU]; simp [go_sem]
  have q1 : U.cell? ⟨w.heap.size, 1, none⟩ = some (.int .i64 (f : Int)) := by rw [hU]; simp [go_sem]
  have q2 : U.cell? ⟨w.heap.size, 2, none⟩ = some (.int .i64 (b : Int)) := by rw [hU]; simp [go_sem]
  have q3 : U.cell? ⟨w.heap.size, 3, none⟩ = some (.int .i64 (g : Int)) := by rw [hU]; simp [go_sem]
  have q4 : U.cell? ⟨w.heap.size, 4, none⟩ = some (.int .u8 (x0 : Int)) := by rw [hU]; simp [go_sem]
  have q5 : U.cell? ⟨w.heap.size, 5, none⟩ = some (.int .u8 (x1 : Int)) := by rw [hU]; simp [go_sem]
  have q6 : U.cell? ⟨w.heap.size, 6, none⟩ = some (.int .u8 (x2 : Int)) := by rw [hU]; simp [go_sem]
  have q7 : U.cell? ⟨w.heap.size, 7, none⟩ = some (.int .u8 (x3 : Int)) := by rw [hU]; simp [go_sem]
  have RB := Lib.hid (show U.heap[w.heap.size + 1]? = some (Obj.cells #[.int .i64 0, .int .i64 0, .int .i64 0, .int .i64 0, .int .u8 0, .int .u8 0, .int .u8 0, .int .u8 0] 80 (0, 0)) from by
    rw [hU]
    have e := World.alloc_heap_new (w.alloc (Obj.cells #[.int .i64 (a : Int), .int .i64 (f : Int), .int .i64 (b : Int), .int .i64 (g : Int), .int .u8 (x0 : Int), .int .u8 (x1 : Int), .int .u8 (x2 : Int), .int .u8 (x3 : Int)] 80)) (Obj.cells #[.int .i64 0, .int .i64 0, .int .i64 0, .int .i64 0, .int .u8 0, .int .u8 0, .int .u8 0, .int .u8 0] 80)
    rw [World.size_alloc] at e
    exact e)
  have DU := Lib.hid hB
  have cT1 := (hB.cell (p := ⟨bT, oT + a, none⟩) hbT).trans cT1
  have cT2 := (hB.cell (p := ⟨bT, oT + b, none⟩) hbT).trans cT2
  have cP1 := (hB.cell (p := ⟨bP, oP + a, none⟩) hbP).trans cP1
  have cP2 := (hB.cell (p := ⟨bP, oP + b, none⟩) hbP).trans cP2
  have a0 := (hB.cell (p := ⟨3, pA * 4, none⟩) (by dsimp only; omega)).trans a0
  have a1 := (hB.cell (p := ⟨3, pA * 4 + 1, none⟩) (by dsimp only; omega)).trans a1
  have a2 := (hB.cell (p := ⟨3, pA * 4 + 2, none⟩) (by dsimp only; omega)).trans a2
  have a3 := (hB.cell (p := ⟨3, pA * 4 + 3, none⟩) (by dsimp only; omega)).trans a3
  have b0 := (hB.cell (p := ⟨3, pB * 4, none⟩) (by dsimp only; omega)).trans b0
  have b1 := (hB.cell (p := ⟨3, pB * 4 + 1, none⟩) (by dsimp only; omega)).trans b1
  have b2 := (hB.cell (p := ⟨3, pB * 4 + 2, none⟩) (by dsimp only; omega)).trans b2
  have b3 := (hB.cell (p := ⟨3, pB * 4 + 3, none⟩) (by dsimp only; omega)).trans b3
  have facts : ((0 : Int) ≤ (a : Int) ∧ (0 : Int) ≤ (b : Int)) ∧ ((a : Int) < (nt : Int) ∧ (b : Int) < (nt : Int)) ∧ ((a : Int) < (np : Int) ∧ (b : Int) < (np : Int)) ∧ ((0 : Int) ≤ (pA : Int) ∧ (pA : Int) < 24) ∧ ((0 : Int) ≤ (pB : Int) ∧ (pB : Int) < 24) ∧ ((0 : Int) ≤ (f : Int) ∧ (f : Int) < 4) ∧ ((0 : Int) ≤ (g : Int) ∧ (g : Int) < 4) := by omega
  obtain ⟨⟨g0_, g1_⟩, ⟨g2_, g3_⟩, ⟨g4_, g5_⟩, ⟨g6_, g7_⟩, ⟨g8_, g9_⟩, ⟨j0, j1⟩, j2, j3⟩ := facts
  have hTlt : bT < U.heap.size := by omega
  have hPlt : bP < U.heap.size := by omega
  have hGlt : 3 < U.heap.size := by omega
  have hwlt : w.heap.size < U.heap.size := by omega
  clear hB ht hp etA etB eA eB
  go_enter Tryd.func78, Tryd.ntmps78
  go_upto_region 1 with fail
  rw [← hU]
  clear hU
  go_cut [7, 8] (fun p q W => CutR2 U h0 h1 h2 h3 t0 t1 t2 t3 p q W)
  case first =>
    go_region_held3 (fun W => (W.cell? ⟨w.heap.size, 0, none⟩ = some (.int .i64 (a : Int)) ∧ W.cell? ⟨w.heap.size, 2, none⟩ = some (.int .i64 (b : Int))) ∧ (W.cell? ⟨bP, oP + a, none⟩ = some (.int .i64 (pA : Int)) ∧ W.cell? ⟨bP, oP + b, none⟩ = some (.int .i64 (pB : Int))) ∧ W.cell? ⟨3, pA * 4, none⟩ = some (.int .u8 (h0 : Int)) ∧ W.cell? ⟨3, pA * 4 + 1, none⟩ = some (.int .u8 (h1 : Int)) ∧ W.cell? ⟨3, pA * 4 + 2, none⟩ = some (.int .u8 (h2 : Int)) ∧ W.cell? ⟨3, pA * 4 + 3, none⟩ = some (.int .u8 (h3 : Int)) ∧ W.cell? ⟨3, pB * 4, none⟩ = some (.int .u8 (t0 : Int)) ∧ W.cell? ⟨3, pB * 4 + 1, none⟩ = some (.int .u8 (t1 : Int)) ∧ W.cell? ⟨3, pB * 4 + 2, none⟩ = some (.int .u8 (t2 : Int)) ∧ W.cell? ⟨3, pB * 4 + 3, none⟩ = some (.int .u8 (t3 : Int))) (go_keep) (first | fail)
    all_goals
      go_wp2_with fail
      go_meet
      first
        | exact CutR2.ab U h0 h1 h2 h3 t0 t1 t2 t3 _ _
        | exact CutR2.ba U h0 h1 h2 h3 t0 t1 t2 t3 _ _
  obtain ⟨bh, bt, rfl, rfl, hH, hT, hbh, hbt2, hUV⟩ := hcut
  obtain ⟨V, rfl⟩ : ∃ V : World, V = wc := ⟨_, rfl⟩
  have zV : U.heap.size ≤ V.heap.size := hUV.size
  have DV := Lib.hid (DU.out.trans (hUV.mono (by omega)))
  have wh : IntKind.i64.wrap (hf : Int) = (hf : Int) := IntWalk.i64_in _ (by have := P4.im_in pA hA24 f hf4; omega)
  have wt : IntKind.i64.wrap (tg : Int) = (tg : Int) := IntWalk.i64_in _ (by have := P4.im_in pB hB24 g hg4; omega)
  have cf := hH.at_ hf4
  have cg := hT.at_ hg4
  rw [← hh, hhf] at cf
  rw [← htt, htg] at cg
  have q0 := (hUV.cell (p := ⟨w.heap.size, 0, none⟩) (by dsimp only; omega)).trans q0
  have q1 := (hUV.cell (p := ⟨w.heap.size, 1, none⟩) (by dsimp only; omega)).trans q1
  have q2 := (hUV.cell (p := ⟨w.heap.size, 2, none⟩) (by dsimp only; omega)).trans q2
  have q3 := (hUV.cell (p := ⟨w.heap.size, 3, none⟩) (by dsimp only; omega)).trans q3
  have q4 := (hUV.cell (p := ⟨w.heap.size, 4, none⟩) (by dsimp only; omega)).trans q4
  have q5 := (hUV.cell (p := ⟨w.heap.size, 5, none⟩) (by dsimp only; omega)).trans q5
  have q6 := (hUV.cell (p := ⟨w.heap.size, 6, none⟩) (by dsimp only; omega)).trans q6
  have q7 := (hUV.cell (p := ⟨w.heap.size, 7, none⟩) (by dsimp only; omega)).trans q7
  have cT1 := (hUV.cell (p := ⟨bT, oT + a, none⟩) (by dsimp only; omega)).trans cT1
  have cT2 := (hUV.cell (p := ⟨bT, oT + b, none⟩) (by dsimp only; omega)).trans cT2
  obtain ⟨⟨hc0, hc1⟩, hc2, hc3⟩ := hH
  obtain ⟨⟨tc0, tc1⟩, tc2, tc3⟩ := hT
  have SX := Lib.hid (fun (Y : World) (hb : Below V.heap.size V Y) => (show Y.cell? ⟨w.heap.size, 0, none⟩ = some (.int .i64 (a : Int)) ∧ Y.cell? ⟨w.heap.size, 1, none⟩ = some (.int .i64 (f : Int)) ∧ Y.cell? ⟨w.heap.size, 2, none⟩ = some (.int .i64 (b : Int)) ∧ Y.cell? ⟨w.heap.size, 3, none⟩ = some (.int .i64 (g : Int)) ∧ Y.cell? ⟨w.heap.size, 4, none⟩ = some (.int .u8 (x0 : Int)) ∧ Y.cell? ⟨w.heap.size, 5, none⟩ = some (.int .u8 (x1 : Int)) ∧ Y.cell? ⟨w.heap.size, 6, none⟩ = some (.int .u8 (x2 : Int)) ∧ Y.cell? ⟨w.heap.size, 7, none⟩ = some (.int .u8 (x3 : Int)) ∧ Y.cell? ⟨bT, oT + a, none⟩ = some (.int .i64 tA) ∧ Y.cell? ⟨bT, oT + b, none⟩ = some (.int .i64 tB) ∧ Y.cell? ⟨bh, 0, none⟩ = some (.int .u8 (h0 : Int)) ∧ Y.cell? ⟨bh, 1, none⟩ = some (.int .u8 (h1 : Int)) ∧ Y.cell? ⟨bh, 2, none⟩ = some (.int .u8 (h2 : Int)) ∧ Y.cell? ⟨bh, 3, none⟩ = some (.int .u8 (h3 : Int)) ∧ Y.cell? ⟨bt, 0, none⟩ = some (.int .u8 (t0 : Int)) ∧ Y.cell? ⟨bt, 1, none⟩ = some (.int .u8 (t1 : Int)) ∧ Y.cell? ⟨bt, 2, none⟩ = some (.int .u8 (t2 : Int)) ∧ Y.cell? ⟨bt, 3, none⟩ = some (.int .u8 (t3 : Int)) ∧ Y.cell? ⟨bh, f, none⟩ = some (.int .u8 (hf : Int)) ∧ Y.cell? ⟨bt, g, none⟩ = some (.int .u8 (tg : Int)) from ⟨(hb.cell (p := ⟨w.heap.size, 0, none⟩) (by dsimp only; omega)).trans q0, (hb.cell (p := ⟨w.heap.size, 1, none⟩) (by dsimp only; omega)).trans q1, (hb.cell (p := ⟨w.heap.size, 2, none⟩) (by dsimp only; omega)).trans q2, (hb.cell (p := ⟨w.heap.size, 3, none⟩) (by dsimp only; omega)).trans q3, (hb.cell (p := ⟨w.heap.size, 4, none⟩) (by dsimp only; omega)).trans q4, (hb.cell (p := ⟨w.heap.size, 5, none⟩) (by dsimp only; omega)).trans q5, (hb.cell (p := ⟨w.heap.size, 6, none⟩) (by dsimp only; omega)).trans q6, (hb.cell (p := ⟨w.heap.size, 7, none⟩) (by dsimp only; omega)).trans q7, (hb.cell (p := ⟨bT, oT + a, none⟩) (by dsimp only; omega)).trans cT1, (hb.cell (p := ⟨bT, oT + b, none⟩) (by dsimp only; omega)).trans cT2, (hb.cell (p := ⟨bh, 0, none⟩) (by dsimp only; omega)).trans hc0, (hb.cell (p := ⟨bh, 1, none⟩) (by dsimp only; omega)).trans hc1, (hb.cell (p := ⟨bh, 2, none⟩) (by dsimp only; omega)).trans hc2, (hb.cell (p := ⟨bh, 3, none⟩) (by dsimp only; omega)).trans hc3, (hb.cell (p := ⟨bt, 0, none⟩) (by dsimp only; omega)).trans tc0, (hb.cell (p := ⟨bt, 1, none⟩) (by dsimp only; omega)).trans tc1, (hb.cell (p := ⟨bt, 2, none⟩) (by dsimp only; omega)).trans tc2, (hb.cell (p := ⟨bt, 3, none⟩) (by dsimp only; omega)).trans tc3, (hb.cell (p := ⟨bh, f, none⟩) (by dsimp only; omega)).trans cf, (hb.cell (p := ⟨bt, g, none⟩) (by dsimp only; omega)).trans cg⟩))
  have RV := (hUV.block (w.heap.size + 1) (by omega)).trans RB.out
  have RX := Lib.hid (fun (Y : World) (hb : Below V.heap.size V Y) => (hb.block (w.heap.size + 1) (by omega)).trans RV)
  have CUR := Lib.hid (Below.refl V.heap.size V)
  have ne : (¬ w.heap.size + 1 = bT ∧ ¬ bT = w.heap.size + 1) ∧ (¬ w.heap.size + 1 = bh ∧ ¬ bh = w.heap.size + 1) ∧ (¬ w.heap.size + 1 = bt ∧ ¬ bt = w.heap.size + 1) ∧ (¬ w.heap.size + 1 = w.heap.size ∧ ¬ w.heap.size = w.heap.size + 1) := by omega
  obtain ⟨⟨n1, n2⟩, ⟨n3, n4⟩, ⟨n5, n6⟩, n7, n8⟩ := ne
  clear RV hUV RB DU hx hh htt hhf htg cP1 cP2 a0 a1 a2 a3 b0 b1 b2 b3 hbh hbt2
  go_upto_region 2 with fail
  go_region_held3 (fun Y => Y.cell? ⟨w.heap.size, 0, none⟩ = some (.int .i64 (a : Int)) ∧ Y.cell? ⟨w.heap.size, 1, none⟩ = some (.int .i64 (f : Int)) ∧ Y.cell? ⟨w.heap.size, 2, none⟩ = some (.int .i64 (b : Int)) ∧ Y.cell? ⟨w.heap.size, 3, none⟩ = some (.int .i64 (g : Int)) ∧ Y.cell? ⟨w.heap.size, 4, none⟩ = some (.int .u8 (x0 : Int)) ∧ Y.cell? ⟨w.heap.size, 5, none⟩ = some (.int .u8 (x1 : Int)) ∧ Y.cell? ⟨w.heap.size, 6, none⟩ = some (.int .u8 (x2 : Int)) ∧ Y.cell? ⟨w.heap.size, 7, none⟩ = some (.int .u8 (x3 : Int)) ∧ Y.cell? ⟨bT, oT + a, none⟩ = some (.int .i64 tA) ∧ Y.cell? ⟨bT, oT + b, none⟩ = some (.int .i64 tB) ∧ Y.cell? ⟨bh, 0, none⟩ = some (.int .u8 (h0 : Int)) ∧ Y.cell? ⟨bh, 1, none⟩ = some (.int .u8 (h1 : Int)) ∧ Y.cell? ⟨bh, 2, none⟩ = some (.int .u8 (h2 : Int)) ∧ Y.cell? ⟨bh, 3, none⟩ = some (.int .u8 (h3 : Int)) ∧ Y.cell? ⟨bt, 0, none⟩ = some (.int .u8 (t0 : Int)) ∧ Y.cell? ⟨bt, 1, none⟩ = some (.int .u8 (t1 : Int)) ∧ Y.cell? ⟨bt, 2, none⟩ = some (.int .u8 (t2 : Int)) ∧ Y.cell? ⟨bt, 3, none⟩ = some (.int .u8 (t3 : Int)) ∧ Y.cell? ⟨bh, f, none⟩ = some (.int .u8 (hf : Int)) ∧ Y.cell? ⟨bt, g, none⟩ = some (.int .u8 (tg : Int))) (go_keep) (first
    | (go_at_call 107; (with_reducible refine (PI.out _).mono ?_); rintro e y6 ⟨rfl, hb6'⟩; (first | have hb6 := undrew hb6' | have hb6 := hb6'); replace CUR := Lib.hid (CUR.out.trans (hb6.mono CUR.out.size)); obtain ⟨q0, q1, q2, q3, q4, q5, q6, q7, cT1, cT2, hc0, hc1, hc2, hc3, tc0, tc1, tc2, tc3, cf, cg⟩ := SX.out _ CUR.out; have RY := RX.out y6 CUR.out; have k0 := cell_of_row y6 _ 0 _ _ _ RY; have k1 := cell_of_row y6 _ 1 _ _ _ RY; have k2 := cell_of_row y6 _ 2 _ _ _ RY; have k3 := cell_of_row y6 _ 3 _ _ _ RY; have k4 := cell_of_row y6 _ 4 _ _ _ RY; have k5 := cell_of_row y6 _ 5 _ _ _ RY; have k6 := cell_of_row y6 _ 6 _ _ _ RY; have k7 := cell_of_row y6 _ 7 _ _ _ RY; simp only [List.getElem?_toArray, List.getElem?_cons_zero, List.getElem?_cons_succ] at k0 k1 k2 k3 k4 k5 k6 k7; have z0_ : World.frozen? y6 ⟨w.heap.size + 1, 0, none⟩ = false := (by simp [World.frozen?, RY]); have z1_ : World.frozen? y6 ⟨w.heap.size + 1, 1, none⟩ = false := (by simp [World.frozen?, RY]); have z2_ : World.frozen? y6 ⟨w.heap.size + 1, 2, none⟩ = false := (by simp [World.frozen?, RY]); have z3_ : World.frozen? y6 ⟨w.heap.size + 1, 3, none⟩ = false := (by simp [World.frozen?, RY]); have z4_ : World.frozen? y6 ⟨w.heap.size + 1, 4, none⟩ = false := (by simp [World.frozen?, RY]); have z5_ : World.frozen? y6 ⟨w.heap.size + 1, 5, none⟩ = false := (by simp [World.frozen?, RY]); have z6_ : World.frozen? y6 ⟨w.heap.size + 1, 6, none⟩ = false := (by simp [World.frozen?, RY]); have z7_ : World.frozen? y6 ⟨w.heap.size + 1, 7, none⟩ = false := (by simp [World.frozen?, RY]); clear RY; clear hb6 hb6')
    | (go_at_call 108; (with_reducible refine (TH1.out _).mono ?_); rintro e y7 ⟨rfl, hb6'⟩; (first | have hb6 := undrew hb6' | have hb6 := hb6'); replace CUR := Lib.hid (CUR.out.trans (hb6.mono CUR.out.size)); obtain ⟨q0, q1, q2, q3, q4, q5, q6, q7, cT1, cT2, hc0, hc1, hc2, hc3, tc0, tc1, tc2, tc3, cf, cg⟩ := SX.out _ CUR.out; have RY := RX.out y7 CUR.out; have k0 := cell_of_row y7 _ 0 _ _ _ RY; have k1 := cell_of_row y7 _ 1 _ _ _ RY; have k2 := cell_of_row y7 _ 2 _ _ _ RY; have k3 := cell_of_row y7 _ 3 _ _ _ RY; have k4 := cell_of_row y7 _ 4 _ _ _ RY; have k5 := cell_of_row y7 _ 5 _ _ _ RY; have k6 := cell_of_row y7 _ 6 _ _ _ RY; have k7 := cell_of_row y7 _ 7 _ _ _ RY; simp only [List.getElem?_toArray, List.getElem?_cons_zero, List.getElem?_cons_succ] at k0 k1 k2 k3 k4 k5 k6 k7; have z0_ : World.frozen? y7 ⟨w.heap.size + 1, 0, none⟩ = false := (by simp [World.frozen?, RY]); have z1_ : World.frozen? y7 ⟨w.heap.size + 1, 1, none⟩ = false := (by simp [World.frozen?, RY]); have z2_ : World.frozen? y7 ⟨w.heap.size + 1, 2, none⟩ = false := (by simp [World.frozen?, RY]); have z3_ : World.frozen? y7 ⟨w.heap.size + 1, 3, none⟩ = false := (by simp [World.frozen?, RY]); have z4_ : World.frozen? y7 ⟨w.heap.size + 1, 4, none⟩ = false := (by simp [World.frozen?, RY]); have z5_ : World.frozen? y7 ⟨w.heap.size + 1, 5, none⟩ = false := (by simp [World.frozen?, RY]); have z6_ : World.frozen? y7 ⟨w.heap.size + 1, 6, none⟩ = false := (by simp [World.frozen?, RY]); have z7_ : World.frozen? y7 ⟨w.heap.size + 1, 7, none⟩ = false := (by simp [World.frozen?, RY]); clear RY; clear hb6 hb6')
    | (go_at_call 108; (with_reducible refine (TH2.out _).mono ?_); rintro e y8 ⟨rfl, hb6'⟩; (first | have hb6 := undrew hb6' | have hb6 := hb6'); replace CUR := Lib.hid (CUR.out.trans (hb6.mono CUR.out.size)); obtain ⟨q0, q1, q2, q3, q4, q5, q6, q7, cT1, cT2, hc0, hc1, hc2, hc3, tc0, tc1, tc2, tc3, cf, cg⟩ := SX.out _ CUR.out; have RY := RX.out y8 CUR.out; have k0 := cell_of_row y8 _ 0 _ _ _ RY; have k1 := cell_of_row y8 _ 1 _ _ _ RY; have k2 := cell_of_row y8 _ 2 _ _ _ RY; have k3 := cell_of_row y8 _ 3 _ _ _ RY; have k4 := cell_of_row y8 _ 4 _ _ _ RY; have k5 := cell_of_row y8 _ 5 _ _ _ RY; have k6 := cell_of_row y8 _ 6 _ _ _ RY; have k7 := cell_of_row y8 _ 7 _ _ _ RY; simp only [List.getElem?_toArray, List.getElem?_cons_zero, List.getElem?_cons_succ] at k0 k1 k2 k3 k4 k5 k6 k7; have z0_ : World.frozen? y8 ⟨w.heap.size + 1, 0, none⟩ = false := (by simp [World.frozen?, RY]); have z1_ : World.frozen? y8 ⟨w.heap.size + 1, 1, none⟩ = false := (by simp [World.frozen?, RY]); have z2_ : World.frozen? y8 ⟨w.heap.size + 1, 2, none⟩ = false := (by simp [World.frozen?, RY]); have z3_ : World.frozen? y8 ⟨w.heap.size + 1, 3, none⟩ = false := (by simp [World.frozen?, RY]); have z4_ : World.frozen? y8 ⟨w.heap.size + 1, 4, none⟩ = false := (by simp [World.frozen?, RY]); have z5_ : World.frozen? y8 ⟨w.heap.size + 1, 5, none⟩ = false := (by simp [World.frozen?, RY]); have z6_ : World.frozen? y8 ⟨w.heap.size + 1, 6, none⟩ = false := (by simp [World.frozen?, RY]); have z7_ : World.frozen? y8 ⟨w.heap.size + 1, 7, none⟩ = false := (by simp [World.frozen?, RY]); clear RY; clear hb6 hb6'))
  all_goals
    have DE := Lib.hid (DV.out.trans (CUR.out.mono (by omega)))
    have SC := Lib.hid (fun (Y : World) (oo : Nat) (vv : Value) (h : Below w.heap.size w Y) => (show Below w.heap.size w (Y.setCell ⟨w.heap.size + 1, oo, none⟩ vv) from h.setCell (by dsimp only; omega) vv))
    go_wp2
    refine bodyPost_ret (by simp [results, Tryd.results78, go_sem, k0, k1, k2, k3, k4, k5, k6, k7]) rfl ⟨rfl, ?_⟩
    repeat (first | (with_reducible exact DE.out) | (with_reducible exact DE.out.drew) | (with_reducible refine SC.out _ _ _ ?_) | (with_reducible refine Below.drew ?_))
end Fc
end Go.Proofs.YtajbahfbldmckaaDoor

namespace Go.Proofs.YtajbahfbldmckaaDoor
open Go.RowKit

set_option maxRecDepth 100000 in
/-- What a look-up in the map gives. -/
theorem MapAt.look {W : World} {b : Nat} (h : MapAt W b) {x0 x1 x2 x3 : Nat} (b0 : x0 < 4) (b1 : x1 < 4) (b2 : x2 < 4) (b3 : x3 < 4) :
    (Instr.lookup 110 (.map (some b)) (.agg #[.int .u8 (x0 : Int), .int .u8 (x1 : Int), .int .u8 (x2 : Int), .int .u8 (x3 : Int)]) false).run Tryd.prog W = .ok (.int .i64 (if P4.ix [(x0 : Int), (x1 : Int), (x2 : Int), (x3 : Int)] < 24 then (P4.ix [(x0 : Int), (x1 : Int), (x2 : Int), (x3 : Int)] : Int) else 0)) W := by
  obtain ⟨c, hrun, hat, _⟩ := World.ownsMap.lookup_int h lawK Tryd.underlying110 Tryd.underlying2 (zeroI W) (keyL_of b0 b1 b2 b3)
  have hl := look_all x0 b0 x1 b1 x2 b2 x3 b3
  rw [hat] at hl
  have e := Option.some.inj hl
  rw [← e]
  exact hrun

end Go.Proofs.YtajbahfbldmckaaDoor

namespace Go.Proofs.YtajbahfbldmckaaDoor
open Go.RowKit Go.Shelf
namespace Fc
set_option maxRecDepth 100000 in
set_option maxHeartbeats 4000000 in
theorem describe_at (bb mb hi : Nat) (A : Option Addr) (c : Nat) (rs : List Rw) (a f p x0 x1 x2 x3 : Nat) (b g : Int) (w : World) (h : BldH w bb mb hi A c rs) (hM : MapAt w mb) (hmb : mb < bb) (hp : p < 24) (hx : P4.im p = [(x0 : Int), (x1 : Int), (x2 : Int), (x3 : Int)]) (h4 : Tr.Four (vals rs)) (ha : a < rs.length) (hf : f < 4) :
    Calls Tryd.prog 77 #[.pointer (some ⟨bb, 0, none⟩), .agg #[.int .i64 (a : Int), .int .i64 (f : Int), .int .i64 b, .int .i64 g, .int .u8 (x0 : Int), .int .u8 (x1 : Int), .int .u8 (x2 : Int), .int .u8 (x3 : Int)]] w fun e w' => e = .returned (.tuple #[]) ∧ (∃ A' c' rs', rs'.length = rs.length ∧ BldH w' bb mb hi A' c' rs' ∧ vals rs' = Tr.setF (vals rs) a f b (p : Int)) ∧ MapAt w' mb ∧ (∀ q : Addr, hi ≤ q.block → q.block < w.heap.size → w'.cell? q = w.cell? q) ∧ Below bb w w' := by
  obtain ⟨U, hU⟩ : ∃ U, U = w.alloc (Obj.cells #[.int .i64 (a : Int), .int .i64 (f : Int), .int .i64 b, .int .i64 g, .int .u8 (x0 : Int), .int .u8 (x1 : Int), .int .u8 (x2 : Int), .int .u8 (x3 : Int)] 80) := ⟨_, rfl⟩
  have hB : Below w.heap.size w U := by rw [hU]; exact al1 w _
  have z : w.heap.size < U.heap.size := by rw [hU]; simp
  have q0 : U.cell? ⟨w.heap.size, 0, none⟩ = some (.int .i64 (a : Int)) := by rw [hU]; simp [go_sem]
  have q1 : U.cell? ⟨w.heap.size, 1, none⟩ = some (.int .i64 (f : Int)) := by rw [hU]; simp [go_sem]
  have q2 : U.cell? ⟨w.heap.size, 2, none⟩ = some (.int .i64 b) := by rw [hU]; simp [go_sem]
  have q4 : U.cell? ⟨w.heap.size, 4, none⟩ = some (.int .u8 (x0 : Int)) := by rw [hU]; simp [go_sem]
  have q5 : U.cell? ⟨w.heap.size, 5, none⟩ = some (.int .u8 (x1 : Int)) := by rw [hU]; simp [go_sem]
  have q6 : U.cell? ⟨w.heap.size, 6, none⟩ = some (.int .u8 (x2 : Int)) := by rw [hU]; simp [go_sem]
  have q7 : U.cell? ⟨w.heap.size, 7, none⟩ = some (.int .u8 (x3 : Int)) := by rw [hU]; simp [go_sem]
  have hbb : bb < w.heap.size := Nat.lt_of_lt_of_le h.top.1 h.top.2
  have hhi := h.top
  have BU := Lib.hid (h.below hB)
  have MU := Lib.hid (show MapAt U mb from owns_below hM hB (Nat.lt_trans hmb hbb))
  have DU := Lib.hid (hB.mono (Nat.le_of_lt hbb))
  have WU := Lib.hid (show ∀ q : Addr, q.block < w.heap.size → U.cell? q = w.cell? q from fun q hq => hB.cell hq)
  have ia0 : (0 : Int) ≤ (a : Int) := by omega
  have ia1 : (a : Int) < (rs.length : Int) := by omega
  have if0 : (0 : Int) ≤ (f : Int) := by omega
  have if1 : (f : Int) < 4 := by omega
  obtain ⟨⟨b0, b1, b2, b3⟩⟩ : (x0 < 4 ∧ x1 < 4 ∧ x2 < 4 ∧ x3 < 4) ∧ True := ⟨by
    obtain ⟨y0, y1, y2, y3, e, bb⟩ := im_four p hp
    rw [hx] at e
    simp at e
    omega, trivial⟩
  have lk := MapAt.look (W := U.drew) MU.out b0 b1 b2 b3
  rw [← hx, P4.ix_im p hp, if_pos hp] at lk
  clear h hM hB hx
  go_enter Tryd.func77, Tryd.ntmps77
  go_upto_region 1 with fail
  rw [← hU]
  clear hU
  obtain ⟨g1, gr, o, cr, rfl, hg1, hc, hgr, hne, hcap, _, _⟩ := BU.out.setFace (j := a) (f := f) ha h4 hf
  have o0 := BU.out.cell
  have o1 := BU.out.map
  go_still_tail 24, (by kernel_rfl)
  change wpList _ _ _ _ _ U.drew
  have BV := Lib.hid BU.out.drew
  have MV := Lib.hid (show MapAt U.drew mb from MU.out)
  have DV := Lib.hid DU.out.drew
  have WV := Lib.hid (show ∀ q : Addr, q.block < w.heap.size → (U.drew).cell? q = w.cell? q from WU.out)
  obtain ⟨V, hV⟩ : ∃ V, V = U.drew := ⟨_, rfl⟩
  have sV : V.heap.size = U.heap.size := by rw [hV]; rfl
  have hcV : V.cell? ⟨g1, a, none⟩ = some (.slice (some ⟨gr, o, none⟩) 4 cr) := by rw [hV]; exact hc
  rw [← hV] at BV MV DV WV
  rw [← hV]
  clear hV q0 q1 q2 q4 q5 q6 q7 o0 o1 hc BU MU DU WU lk
  obtain ⟨g1', gr', o', cr', eA, _, hc', _, _, _, ⟨⟨u0, hu0⟩, ⟨u1, hu1⟩, hf0, hf1⟩, hset⟩ := BV.out.setFace (j := a) (f := f) ha h4 hf
  injection eA with eA
  injection eA with eA
  subst eA
  rw [hcV] at hc'
  injection hc' with hc'
  injection hc' with e1 e2 e3
  injection e1 with e1
  injection e1 with e1 e4
  subst e1
  subst e4
  obtain ⟨rs1, hl1, hB1, hv1⟩ := hset b (p : Int)
  have B1 := Lib.hid hB1
  have V1 := Lib.hid hv1
  have L1 := Lib.hid hl1
  clear hset hB1 hv1 hl1 hcV
  go_wp2
  refine bodyPost_end (results_none rfl _ _ _) rfl ?_
  exact ⟨rfl, ⟨_, _, rs1, L1.out, B1.out, V1.out⟩, owns_below MV.out (((Below.refl bb V).setCell (by dsimp only; omega) _).setCell (by dsimp only; omega) _) hmb, fun q h1 h2 => (by rw [World.cell?_setCell_other _ _ _ _ (by intro e; subst e; dsimp only at h1; omega), World.cell?_setCell_other _ _ _ _ (by intro e; subst e; dsimp only at h1; omega)]; exact WV.out q h2), (DV.out.setCell (by dsimp only; omega) _).setCell (by dsimp only; omega) _⟩

set_option maxRecDepth 100000 in
set_option maxHeartbeats 4000000 in
theorem glue_impl (bb mb : Nat) (A : Option Addr) (c : Nat) (rs : List Rw) (a f b g p x0 x1 x2 x3 : Nat) (w : World) (h : BldH w bb mb w.heap.size A c rs) (hM : MapAt w mb) (hmb : mb < bb) (hp : p < 24) (hx : P4.im p = [(x0 : Int), (x1 : Int), (x2 : Int), (x3 : Int)]) (h4 : Tr.Four (vals rs)) (ha : a < rs.length) (hf : f < 4) (hb : b < rs.length) (hg : g < 4) :
    Calls Tryd.prog 64 #[.pointer (some ⟨bb, 0, none⟩), .agg #[.int .i64 (a : Int), .int .i64 (f : Int), .int .i64 (b : Int), .int .i64 (g : Int), .int .u8 (x0 : Int), .int .u8 (x1 : Int), .int .u8 (x2 : Int), .int .u8 (x3 : Int)]] w fun e w' => e = .returned (.tuple #[]) ∧ (∃ A' c' rs', Bld w' bb mb A' c' rs' ∧ vals rs' = Tr.setF (Tr.setF (vals rs) a f (b : Int) (p : Int)) b g (a : Int) (P4.ivt p : Nat)) ∧ MapAt w' mb ∧ Below bb w w' := by
  obtain ⟨U, hU⟩ : ∃ U, U = w.alloc (Obj.cells #[.int .i64 (a : Int), .int .i64 (f : Int), .int .i64 (b : Int), .int .i64 (g : Int), .int .u8 (x0 : Int), .int .u8 (x1 : Int), .int .u8 (x2 : Int), .int .u8 (x3 : Int)] 80) := ⟨_, rfl⟩
  have hB : Below w.heap.size w U := by rw [hU]; exact al1 w _
  have z : w.heap.size < U.heap.size := by rw [hU]; simp
  have q0 : U.cell? ⟨w.heap.size, 0, none⟩ = some (.int .i64 (a : Int)) := by rw [hU]; simp [go_sem]
  have q1 : U.cell? ⟨w.heap.size, 1, none⟩ = some (.int .i64 (f : Int)) := by rw [hU]; simp [go_sem]
  have q2 : U.cell? ⟨w.heap.size, 2, none⟩ = some (.int .i64 (b : Int)) := by rw [hU]; simp [go_sem]
  have q3 : U.cell? ⟨w.heap.size, 3, none⟩ = some (.int .i64 (g : Int)) := by rw [hU]; simp [go_sem]
  have q4 : U.cell? ⟨w.heap.size, 4, none⟩ = some (.int .u8 (x0 : Int)) := by rw [hU]; simp [go_sem]
  have q5 : U.cell? ⟨w.heap.size, 5, none⟩ = some (.int .u8 (x1 : Int)) := by rw [hU]; simp [go_sem]
  have q6 : U.cell? ⟨w.heap.size, 6, none⟩ = some (.int .u8 (x2 : Int)) := by rw [hU]; simp [go_sem]
  have q7 : U.cell? ⟨w.heap.size, 7, none⟩ = some (.int .u8 (x3 : Int)) := by rw [hU]; simp [go_sem]
  have hbb := h.top.1
  obtain ⟨y0, y1, y2, y3, hy, _⟩ := im_four (P4.ivt p) (P4.inv_ix p hp)
  have hL := L4.im hp
  have hL2 : L4 (P4.im (P4.ivt p)) := L4.im (P4.inv_ix p hp)
  have hI : P4.im (P4.ivt p) = P4.invk (P4.im p) 4 := P4.ivt_im hp
  rw [hx] at hL hI
  rw [hy] at hL2 hI
  have RV := Lib.hid (fun (W : World) => reversed_impl (a : Int) (f : Int) (b : Int) (g : Int) x0 x1 x2 x3 y0 y1 y2 y3 W hL hL2 hI.symm)
  have BU := Lib.hid (h.below hB)
  have MU := Lib.hid (show MapAt U mb from owns_below hM hB (Nat.lt_trans hmb hbb))
  have DU := Lib.hid (hB.mono (Nat.le_of_lt hbb))
  have D1' := Lib.hid (describe_at bb mb w.heap.size A c rs a f p x0 x1 x2 x3 (b : Int) (g : Int) U BU.out MU.out hmb hp hx h4 ha hf)
  clear h hM hL hL2 hI hB
  go_enter Tryd.func64, Tryd.ntmps64
  go_upto_region 1 with fail
  rw [← hU]
  clear hU
  go_wp2_with fail
  refine D1'.out.mono ?_
  rintro e w1 ⟨rfl, ⟨A1, c1, rs1, hl1, hB1, hV1⟩, hM1, hK1, hb⟩
  have q0 := (hK1 ⟨w.heap.size, 0, none⟩ (Nat.le_refl _) (by dsimp only; omega)).trans q0
  have q1 := (hK1 ⟨w.heap.size, 1, none⟩ (Nat.le_refl _) (by dsimp only; omega)).trans q1
  have q2 := (hK1 ⟨w.heap.size, 2, none⟩ (Nat.le_refl _) (by dsimp only; omega)).trans q2
  have q3 := (hK1 ⟨w.heap.size, 3, none⟩ (Nat.le_refl _) (by dsimp only; omega)).trans q3
  have q4 := (hK1 ⟨w.heap.size, 4, none⟩ (Nat.le_refl _) (by dsimp only; omega)).trans q4
  have q5 := (hK1 ⟨w.heap.size, 5, none⟩ (Nat.le_refl _) (by dsimp only; omega)).trans q5
  have q6 := (hK1 ⟨w.heap.size, 6, none⟩ (Nat.le_refl _) (by dsimp only; omega)).trans q6
  have q7 := (hK1 ⟨w.heap.size, 7, none⟩ (Nat.le_refl _) (by dsimp only; omega)).trans q7
  have D1 := Lib.hid (DU.out.trans hb)
  have z1 := hb.size
  have B1 := Lib.hid hB1
  have M1 := Lib.hid hM1
  have V1 := Lib.hid hV1
  have L1 := Lib.hid hl1
  clear hb hB1 hM1 hV1 hl1 hK1 D1' DU BU MU
  go_wp2_with fail
  refine (RV.out _).mono ?_
  rintro e w2 ⟨rfl, hb⟩
  have D2 := Lib.hid (D1.out.trans (hb.mono (by omega)))
  have z2 := hb.size
  have B2 := Lib.hid (B1.out.below hb)
  have M2 := Lib.hid (show MapAt w2 mb from owns_below M1.out hb (by omega))
  have E2 := Lib.hid (describe_at bb mb w.heap.size A1 c1 rs1 b g (P4.ivt p) y0 y1 y2 y3 (a : Int) (f : Int) w2 B2.out M2.out hmb (P4.inv_ix p hp) hy (by rw [V1.out]; exact Tr.setF_four h4 _ _ _ _) (by have := L1.out; omega) hg)
  clear hb B1 M1 D1 RV q0 q1 q2 q3 q4 q5 q6 q7
  go_wp2_with fail
  refine E2.out.mono ?_
  rintro e w3 ⟨rfl, ⟨A2, c2, rs2, hl1, hB1, hV1⟩, hM1, hK1, hb⟩
  have D3 := Lib.hid (D2.out.trans hb)
  have B3 := Lib.hid hB1
  have M3 := Lib.hid hM1
  have V3 := Lib.hid (show vals rs2 = Tr.setF (Tr.setF (vals rs) a f (b : Int) (p : Int)) b g (a : Int) (P4.ivt p : Nat) from by rw [hV1, V1.out])
  clear hb hB1 hM1 hV1 hl1 hK1 E2 D2 B2 M2
  go_wp2
  refine bodyPost_end (results_none rfl _ _ _) rfl ?_
  exact ⟨rfl, ⟨_, _, rs2, B3.out.bld, V3.out⟩, M3.out, D3.out⟩
end Fc
end Go.Proofs.YtajbahfbldmckaaDoor

namespace Go.Proofs.YtajbahfbldmckaaDoor
open Go.RowKit Go.Shelf
namespace Fc
theorem BldH.grownC {w w' : World} {bb mb hi c : Nat} {A : Option Addr} {rs : List Rw} {row : Option Nat} (h : BldH w bb mb hi A c rs) (hg : w.grownBy w' row) (hr : ∀ k, row = some k → ∃ o : Obj, w.heap[k]? = some o ∧ o.isCells = false) : BldH w' bb mb hi A c rs :=
  ⟨cell_kept h.cell hg hr, cell_kept h.map hg hr, (frozen_kept h.cell hg hr).trans h.free, h.own.grownC hg hr, h.top.1, Nat.le_trans h.top.2 hg.size⟩
set_option maxRecDepth 100000 in
set_option maxHeartbeats 4000000 in
theorem describe_on (bb mb hi : Nat) (A : Option Addr) (c : Nat) (rs : List Rw) (a f p x0 x1 x2 x3 : Nat) (b g : Int) (w : World) (h : BldH w bb mb hi A c rs) (hM : MapAt w mb) (hmb : mb < bb) (hp : p < 24) (hx : P4.im p = [(x0 : Int), (x1 : Int), (x2 : Int), (x3 : Int)]) (h4 : Tr.Four (vals rs)) (ha : a < rs.length) (hf : f < 4) :
    Calls Tryd.prog 77 #[.pointer (some ⟨bb, 0, none⟩), .agg #[.int .i64 (a : Int), .int .i64 (f : Int), .int .i64 b, .int .i64 g, .int .u8 (x0 : Int), .int .u8 (x1 : Int), .int .u8 (x2 : Int), .int .u8 (x3 : Int)]] w fun e w' => e = .returned (.tuple #[]) ∧ (∃ A' c' rs', rs'.length = rs.length ∧ BldH w' bb mb hi A' c' rs' ∧ vals rs' = Tr.setF (vals rs) a f b (p : Int)) ∧ MapAt w' mb ∧ (∀ q : Addr, hi ≤ q.block → q.block < w.heap.size → w'.cell? q = w.cell? q) ∧ KeepsOthers w w' ∧ Below bb w w' := by
  obtain ⟨U, hU⟩ : ∃ U, U = w.alloc (Obj.cells #[.int .i64 (a : Int), .int .i64 (f : Int), .int .i64 b, .int .i64 g, .int .u8 (x0 : Int), .int .u8 (x1 : Int), .int .u8 (x2 : Int), .int .u8 (x3 : Int)] 80) := ⟨_, rfl⟩
  have hB : Below w.heap.size w U := by rw [hU]; exact al1 w _
  have KO := Lib.hid (show KeepsOthers w U from by rw [hU]; exact KeepsOthers.alloc w _)
  have z : w.heap.size < U.heap.size := by rw [hU]; simp
  have q0 : U.cell? ⟨w.heap.size, 0, none⟩ = some (.int .i64 (a : Int)) := by rw [hU]; simp [go_sem]
  have q1 : U.cell? ⟨w.heap.size, 1, none⟩ = some (.int .i64 (f : Int)) := by rw [hU]; simp [go_sem]
  have q2 : U.cell? ⟨w.heap.size, 2, none⟩ = some (.int .i64 b) := by rw [hU]; simp [go_sem]
  have q4 : U.cell? ⟨w.heap.size, 4, none⟩ = some (.int .u8 (x0 : Int)) := by rw [hU]; simp [go_sem]
  have q5 : U.cell? ⟨w.heap.size, 5, none⟩ = some (.int .u8 (x1 : Int)) := by rw [hU]; simp [go_sem]
  have q6 : U.cell? ⟨w.heap.size, 6, none⟩ = some (.int .u8 (x2 : Int)) := by rw [hU]; simp [go_sem]
  have q7 : U.cell? ⟨w.heap.size, 7, none⟩ = some (.int .u8 (x3 : Int)) := by rw [hU]; simp [go_sem]
  have hbb : bb < w.heap.size := Nat.lt_of_lt_of_le h.top.1 h.top.2
  have hhi := h.top
  have BU := Lib.hid (h.below hB)
  have MU := Lib.hid (show MapAt U mb from owns_below hM hB (Nat.lt_trans hmb hbb))
  have DU := Lib.hid (hB.mono (Nat.le_of_lt hbb))
  have WU := Lib.hid (show ∀ q : Addr, q.block < w.heap.size → U.cell? q = w.cell? q from fun q hq => hB.cell hq)
  have ia0 : (0 : Int) ≤ (a : Int) := by omega
  have ia1 : (a : Int) < (rs.length : Int) := by omega
  have if0 : (0 : Int) ≤ (f : Int) := by omega
  have if1 : (f : Int) < 4 := by omega
  obtain ⟨⟨b0, b1, b2, b3⟩⟩ : (x0 < 4 ∧ x1 < 4 ∧ x2 < 4 ∧ x3 < 4) ∧ True := ⟨by
    obtain ⟨y0, y1, y2, y3, e, bb⟩ := im_four p hp
    rw [hx] at e
    simp at e
    omega, trivial⟩
  have lk := MapAt.look (W := U.drew) MU.out b0 b1 b2 b3
  rw [← hx, P4.ix_im p hp, if_pos hp] at lk
  clear h hM hB hx
  go_enter Tryd.func77, Tryd.ntmps77
  go_upto_region 1 with fail
  rw [← hU]
  clear hU
  obtain ⟨g1, gr, o, cr, rfl, hg1, hc, hgr, hne, hcap, _, _⟩ := BU.out.setFace (j := a) (f := f) ha h4 hf
  have o0 := BU.out.cell
  have o1 := BU.out.map
  go_still_tail 24, (by kernel_rfl)
  change wpList _ _ _ _ _ U.drew
  have BV := Lib.hid BU.out.drew
  have MV := Lib.hid (show MapAt U.drew mb from MU.out)
  have DV := Lib.hid DU.out.drew
  have WV := Lib.hid (show ∀ q : Addr, q.block < w.heap.size → (U.drew).cell? q = w.cell? q from WU.out)
  obtain ⟨V, hV⟩ : ∃ V, V = U.drew := ⟨_, rfl⟩
  have KV := Lib.hid (show KeepsOthers w V from by rw [hV]; exact KO.out.trans (KeepsOthers.drew _))
  have sV : V.heap.size = U.heap.size := by rw [hV]; rfl
  have hcV : V.cell? ⟨g1, a, none⟩ = some (.slice (some ⟨gr, o, none⟩) 4 cr) := by rw [hV]; exact hc
  rw [← hV] at BV MV DV WV
  rw [← hV]
  clear hV q0 q1 q2 q4 q5 q6 q7 o0 o1 hc BU MU DU WU lk
  obtain ⟨g1', gr', o', cr', eA, _, hc', _, _, _, ⟨⟨u0, hu0⟩, ⟨u1, hu1⟩, hf0, hf1⟩, hset⟩ := BV.out.setFace (j := a) (f := f) ha h4 hf
  injection eA with eA
  injection eA with eA
  subst eA
  rw [hcV] at hc'
  injection hc' with hc'
  injection hc' with e1 e2 e3
  injection e1 with e1
  injection e1 with e1 e4
  subst e1
  subst e4
  obtain ⟨rs1, hl1, hB1, hv1⟩ := hset b (p : Int)
  have B1 := Lib.hid hB1
  have V1 := Lib.hid hv1
  have L1 := Lib.hid hl1
  clear hset hB1 hv1 hl1 hcV
  go_wp2
  refine bodyPost_end (results_none rfl _ _ _) rfl ?_
  exact ⟨rfl, ⟨_, _, rs1, L1.out, B1.out, V1.out⟩, owns_below MV.out (((Below.refl bb V).setCell (by dsimp only; omega) _).setCell (by dsimp only; omega) _) hmb, fun q h1 h2 => (by rw [World.cell?_setCell_other _ _ _ _ (by intro e; subst e; dsimp only at h1; omega), World.cell?_setCell_other _ _ _ _ (by intro e; subst e; dsimp only at h1; omega)]; exact WV.out q h2), KV.out.trans ((KeepsOthers.setCell _ _ _).trans (KeepsOthers.setCell _ _ _)), (DV.out.setCell (by dsimp only; omega) _).setCell (by dsimp only; omega) _⟩

end Fc
end Go.Proofs.YtajbahfbldmckaaDoor

namespace Go.Proofs.YtajbahfbldmckaaDoor
open Go

section
variable {F : Fence} {n : Nat} {P : Program} {ops : Array Oper} {Q : Exit → Act → World → Prop} {md : Region.Mode} {S : World → Prop} {N : List Nat}
/-- As EndsIn, or by a call whose answers are told for every act. -/
def EndsC (F : Fence) (n : Nat) (P : Program) (Q : Exit → Act → World → Prop) (o : Oper) (a : Act) (w : World) (K : Act → World → Prop) : Prop :=
  EndsIn P o a w K ∨ ∃ T : Value → World → Prop, (∀ (a' : Act) (K' : Act → World → Prop), (∀ v w', T v w' → K' (a'.put o.dst v) w') → o.uponIn F n P a' K' Q ((o.semAt F.round a.eval).run P w)) ∧ ∀ v w', T v w' → K (a.put o.dst v) w'
/-- No defer, no select, no guard. -/
def plainC (ops : Array Oper) : Bool := ops.all fun o => o.guard.isNone && match o.op with | .defer _ => false | .select _ _ => false | _ => true
def wpC (F : Fence) (n : Nat) (P : Program) (md : Region.Mode) (ops : Array Oper) (Q : Exit → Act → World → Prop) (S : World → Prop) (N : List Nat) : Nat → Array Bool → Act → World → Prop
  | 0, l, a, w => Region.ready md ops l = [] ∧ Q .normal a w
  | f + 1, l, a, w => (Region.ready md ops l = [] → Q .normal a w) ∧ ∀ j ∈ Region.ready md ops l, ∃ o, ops[j]? = some o ∧ EndsC F n P Q o a w (fun a' w' => (asksS md ops N j = true → S w') ∧ wpC F n P md ops Q S N f (l.setIfInBounds j true) a' w')
theorem plainC_at (hp : plainC ops = true) {j : Nat} {o : Oper} (ho : ops[j]? = some o) : o.guard = none ∧ (∀ c, o.op ≠ .defer c) ∧ ∀ cs b, o.op ≠ .select cs b := by
  unfold plainC at hp
  have h := Array.all_eq_true'.1 hp o (Array.mem_of_getElem? ho)
  simp only [Bool.and_eq_true, Option.isNone_iff_eq_none] at h
  obtain ⟨h1, h2⟩ := h
  exact ⟨h1, fun c e => by rw [e] at h2; simp at h2, fun cs b e => by rw [e] at h2; simp at h2⟩
theorem wpAnyIn_of_C (hp : plainC ops = true) (hall : ∀ g, F.fn g) : ∀ (f : Nat) (l : Array Bool) (a : Act) (w : World), wpC F n P md ops Q S N f l a w → wpAnyIn F n P md ops Q f l a w := by
  intro f
  induction f with
  | zero => exact fun _ _ _ h => h
  | succ f ih =>
    refine fun l a w h => ⟨h.1, fun j hj => ?_⟩
    obtain ⟨o, ho, he⟩ := h.2 j hj
    obtain ⟨hg, hd, _⟩ := plainC_at hp ho
    unfold wpOpIn
    simp only [ho]
    rw [if_pos (by simp [Region.wanted, hg])]
    refine ⟨fun g _ => hall g, ?_⟩
    rcases he with he | ⟨T, h1, h2⟩
    · rw [Oper.semAt_eq _ _ _ hd]
      rcases he with ⟨v, w', h1, h2⟩ | ⟨w', h1, h2⟩
      · rw [h1]; exact ih _ _ _ h2.2
      · rw [h1]; exact ih _ _ _ h2.2
    · exact h1 a _ fun v w' ht => ih _ _ _ (h2 v w' ht).2
/-- A load of N is taken first. -/
theorem wpC_first {i : Nat} {oi : Oper} {v : Value} (hp : plainC ops = true) (hi : ops[i]? = some oi) (hN : i ∈ N) (f : Nat) :
    ∀ (l : Array Bool) (a : Act) (w : World), (∀ j oj, ops[j]? = some oj → j ≠ i → l.getD j true = false → (∀ e ∈ oj.after, Region.binds md e = true → e.on ≠ i) → oi.apart ops oj = true) →
      i ∈ Region.ready md ops l → (∀ w, S w → (execOp a.eval oi).run P w = .ok (.value v) w) → S w → wpC F n P md ops Q S N f (l.setIfInBounds i true) (a.put oi.dst v) w → wpC F n P md ops Q S N (f + 1) l a w := by
  have hsi := (plainC_at hp hi).2.2
  induction f with
  | zero =>
    intro l a w _ hr hy hS H
    refine ⟨fun h => absurd hr (by rw [h]; exact List.not_mem_nil), fun j hj => ?_⟩
    by_cases e : j = i
    · rw [e]
      exact ⟨oi, hi, .inl (.inl ⟨v, w, hy w hS, fun _ => hS, H⟩)⟩
    · have h2 := ready_mono hj e
      rw [H.1] at h2
      exact absurd h2 List.not_mem_nil
  | succ f ih =>
    intro l a w hf hr hy hS H
    refine ⟨fun h => absurd hr (by rw [h]; exact List.not_mem_nil), fun j hj => ?_⟩
    by_cases e : j = i
    · rw [e]
      exact ⟨oi, hi, .inl (.inl ⟨v, w, hy w hS, fun _ => hS, H⟩)⟩
    have hask := asks_of_ready hN hr hj
    obtain ⟨hlj, oj', hoj', hall⟩ := mem_ready.1 hj
    have hfree : ∀ x ∈ oj'.after, Region.binds md x = true → x.on ≠ i := fun x hx hb hon => by
      have h1 := hall x hx hb
      rw [hon, getD_both (mem_ready.1 hr).1] at h1
      cases h1
    obtain ⟨oj, hoj, he⟩ := H.2 j (ready_mono hj e)
    obtain rfl : oj = oj' := Option.some.inj (hoj.symm.trans hoj')
    have hsj := (plainC_at hp hoj).2.2
    have hdj := (plainC_at hp hoj).2.1
    obtain ⟨a1, a2, a3⟩ := Oper.apart_spec (hf j oj hoj e hlj hfree)
    have next : ∀ u w', ((asksS md ops N j = true → S w') ∧ wpC F n P md ops Q S N f ((l.setIfInBounds i true).setIfInBounds j true) ((a.put oi.dst v).put oj.dst u) w') → (asksS md ops N j = true → S w') ∧ wpC F n P md ops Q S N (f + 1) (l.setIfInBounds j true) (a.put oj.dst u) w' := fun u w' hk => by
      refine ⟨fun _ => hk.1 hask, ih _ _ w' (fun k ok hk1 hk2 hk3 hk4 => hf k ok hk1 hk2 ?_ hk4) (ready_mono hr (Ne.symm e)) (fun w2 hs2 => by rw [execOp_put oi hsi a oj.dst u a3]; exact hy w2 hs2) (hk.1 hask) ?_⟩
      · by_cases e2 : j = k
        · rw [← e2]; exact hlj
        · rw [getD_set_ne true e2] at hk3; exact hk3
      · rw [Array.setIfInBounds_comm _ _ e, ← Act.put_comm a v u a2]
        exact hk.2
    refine ⟨oj, hoj, ?_⟩
    rcases he with he | ⟨T, h1, h2⟩
    · unfold EndsIn at he
      rw [execOp_put oj hsj a oi.dst v a1] at he
      rcases he with ⟨u, w', h1, h2⟩ | ⟨w', h1, h2⟩
      · exact .inl (.inl ⟨u, w', h1, next u w' h2⟩)
      · exact .inl (.inr ⟨w', h1, next undef w' h2⟩)
    · rw [Oper.semAt_eq _ _ _ hdj, execOp_put oj hsj a oi.dst v a1, ← Oper.semAt_eq F.round _ _ hdj] at h1
      exact .inr ⟨T, h1, fun u w' ht => next u w' (h2 u w' ht)⟩
theorem wpC_take {i : Nat} {oi : Oper} {v : Value} {f : Nat} {l : Array Bool} {a : Act} {w : World} (hp : plainC ops = true) (hi : ops[i]? = some oi) (hN : N.contains i = true) (hf : Region.free md ops l i = true) (hr : (Region.ready md ops l).contains i = true)
    (hy : ∀ w, S w → (execOp a.eval oi).run P w = .ok (.value v) w) (hS : S w) (h : wpC F n P md ops Q S N f (l.setIfInBounds i true) (a.put oi.dst v) w) : wpC F n P md ops Q S N (f + 1) l a w :=
  wpC_first hp hi (by simpa using hN) f l a w (Region.free_spec hi hf) (by simpa using hr) hy hS h
/-- One call alone may come up. -/
theorem wpC_call {j : Nat} {o : Oper} {f : Nat} {l : Array Bool} {a : Act} {w : World} (T : Value → World → Prop) (hr : Region.ready md ops l = [j]) (ho : ops[j]? = some o)
    (h1 : ∀ (a' : Act) (K' : Act → World → Prop), (∀ v w', T v w' → K' (a'.put o.dst v) w') → o.uponIn F n P a' K' Q ((o.semAt F.round a.eval).run P w))
    (h2 : ∀ v w', T v w' → (asksS md ops N j = true → S w') ∧ wpC F n P md ops Q S N f (l.setIfInBounds j true) (a.put o.dst v) w') : wpC F n P md ops Q S N (f + 1) l a w := by
  refine ⟨(fun h0 => by rw [hr] at h0; cases h0), fun k hk => ?_⟩
  rw [hr] at hk
  obtain rfl : k = j := by simpa using hk
  exact ⟨o, ho, .inr ⟨T, h1, h2⟩⟩
theorem wpC_done {f : Nat} {l : Array Bool} {a : Act} {w : World} (hr : Region.ready md ops l = []) (h : Q .normal a w) : wpC F n P md ops Q S N f l a w := by
  cases f with
  | zero => exact ⟨hr, h⟩
  | succ f => exact ⟨fun _ => h, (fun k hk => by rw [hr] at hk; cases hk)⟩
/-- The beginning, in a program under 'wide'. -/
theorem wpIn_region_C (S : World → Prop) (N : List Nat) {id : Nat} {a : Act} {w : World} (hm : P.follows .mixedOrders = true) (hp : plainC ops = true) (hall : ∀ g, F.fn g) (h : wpC F n P .any ops Q S N ops.size (Array.replicate ops.size false) a w.drew) : (Code.region id ops true).wpIn F n P Q a w :=
  wpIn_region_any hm (wpAnyIn_of_C hp hall _ _ _ _ h)
end

end Go.Proofs.YtajbahfbldmckaaDoor

namespace Go.Proofs.YtajbahfbldmckaaDoor
open Go.RowKit Go.Shelf
namespace Fc
attribute [local go_sem] Oper.semAt_some
set_option maxRecDepth 100000 in
set_option maxHeartbeats 8000000 in
theorem relabel_impl (A : Option Addr) (n c : Nat) (T : List (List Int)) (At Ap : Option Addr) (m p ct cp : Nat) (tl pl : List Int) (w : World) (h : RdT w w.heap.size A n T) (hv : Vs w) (hn : n ≤ 1048576) (ht : Ints w w.heap.size At m tl) (hm : m ≤ 1048576) (hp : Ints w w.heap.size Ap p pl) (hp1 : p ≤ 1048576) :
    Calls Tryd.prog 33 #[.agg #[.slice A n c], .slice At m ct, .slice Ap p cp] w (ResTC w (Rl.rlT T tl pl) (Rl.rlC T tl pl)) := by
  have h0 := hv.pos
  have LN := Lib.hid h.len
  have LM := Lib.hid ht.1
  have LP := Lib.hid hp.1
  have HT := Lib.hid h
  have HL := Lib.hid ht
  have HP := Lib.hid hp
  have HV := Lib.hid hv
  have TI := Lib.hid (fun (W : World) (hb : Below w.heap.size w W) => isTri_implT A n c T W (h.into hb) (hv.below hb h0.1) hn)
  clear h ht hp hv
  refine (callsIn_wide (n := 5)).1 ?_
  refine callsIn_of_wp_marks Tryd.func33 rfl trivial ?_ rfl
  simp only [Tryd.ntmps33, List.size_toArray, List.length_cons, List.length_nil, Nat.reduceAdd, Nat.reduceSub, Array.replicate_succ, Array.replicate_zero, List.push_toArray, List.append_toArray, List.nil_append, List.cons_append]
  obtain ⟨U, hU⟩ : ∃ U, U = (((w.alloc (Obj.cells #[.slice A n c] 28)).alloc (Obj.cells #[.slice At m ct] 39)).alloc (Obj.cells #[.slice Ap p cp] 39)).alloc (Obj.cells #[.slice none 0 0] 28) := ⟨_, rfl⟩
  have hB : Below w.heap.size w U := by rw [hU]; exact (al3 w _ _ _).trans ((al1 _ _).mono (by simp; omega))
  obtain ⟨z, zb⟩ : U.heap.size ≤ w.heap.size + 4 ∧ w.heap.size + 4 ≤ U.heap.size := by rw [hU]; simp
  have k0 : U.cell? ⟨w.heap.size, 0, none⟩ = some (.slice A n c) := by rw [hU]; simp [go_sem]
  have kt : U.cell? ⟨w.heap.size + 1, 0, none⟩ = some (.slice At m ct) := by rw [hU]; simp [go_sem]
  have kp : U.cell? ⟨w.heap.size + 2, 0, none⟩ = some (.slice Ap p cp) := by rw [hU]; simp [go_sem]
  have k1 : U.cell? ⟨w.heap.size + 3, 0, none⟩ = some (.slice none 0 0) := by rw [hU]; simp [go_sem]
  have kf : U.frozen? ⟨w.heap.size + 3, 0, none⟩ = false := by rw [hU]; simp [go_sem]
  have DU := Lib.hid hB
  clear hB
  gi_wp2
  rw [← hU]
  clear hU
  refine ⟨trivial, ?_⟩
  refine (callsIn_wide.2 (TI.out U DU.out)).mono ?_
  rintro e w1 ⟨rfl, hb⟩
  have k0 := (hb.cell (p := ⟨w.heap.size, 0, none⟩) (by dsimp only; omega)).trans k0
  have kt := (hb.cell (p := ⟨w.heap.size + 1, 0, none⟩) (by dsimp only; omega)).trans kt
  have kp := (hb.cell (p := ⟨w.heap.size + 2, 0, none⟩) (by dsimp only; omega)).trans kp
  have k1 := (hb.cell (p := ⟨w.heap.size + 3, 0, none⟩) (by dsimp only; omega)).trans k1
  have kf := (hb.frozen (p := ⟨w.heap.size + 3, 0, none⟩) (by dsimp only; omega)).trans kf
  have D1 := Lib.hid (DU.out.trans (hb.mono (by omega)))
  have z1 : U.heap.size ≤ w1.heap.size := hb.size
  clear hb TI DU
  by_cases hok : Tr.Is T
  case neg =>
    rw [decide_eq_false hok]
    have R := Lib.hid (Rl.rl_1 (tl := tl) (pl := pl) hok)
    clear hok
    gi_wp2
    refine leave0 (v := .tuple #[.agg #[.slice none 0 0], .int .i64 1]) (by simp [results, Tryd.results33, go_sem, k1]) ?_
    rw [R.out.1, R.out.2]
    exact ⟨none, 0, [], rfl, OwnS.nil _ _ _, rfl, D1.out.setCell (by dsimp only; omega) _⟩
  rw [decide_eq_true hok]
  have h8 : n ≤ 8 := by rw [← LN.out]; exact hok.1
  have IS := Lib.hid hok
  have H4 := Lib.hid hok.2.1
  clear hok
  have PI := Lib.hid (fun (W : World) (hb : Below w.heap.size w W) => perm_impl n At m ct tl W (HL.out.into hb) hm)
  have AI := Lib.hid (fun (W : World) (hb : Below w.heap.size w W) => arePerms_impl Ap p cp pl W (HP.out.into hb) hp1)
  by_cases hPm : Rp.Pm (n : Int) tl
  case neg =>
    have R := Lib.hid (Rl.rl_2 (tl := tl) (pl := pl) IS.out (by rw [LN.out, LP.out]; exact fun e => hPm e.1))
    rw [decide_eq_false hPm] at PI
    clear hPm
    gi_wp2_with fail
    refine ⟨trivial, ?_⟩
    refine (callsIn_wide.2 (PI.out w1 D1.out)).mono ?_
    rintro e w2 ⟨rfl, hb⟩
    have k0 := (hb.cell (p := ⟨w.heap.size, 0, none⟩) (by dsimp only; omega)).trans k0
    have kt := (hb.cell (p := ⟨w.heap.size + 1, 0, none⟩) (by dsimp only; omega)).trans kt
    have kp := (hb.cell (p := ⟨w.heap.size + 2, 0, none⟩) (by dsimp only; omega)).trans kp
    have k1 := (hb.cell (p := ⟨w.heap.size + 3, 0, none⟩) (by dsimp only; omega)).trans k1
    have kf := (hb.frozen (p := ⟨w.heap.size + 3, 0, none⟩) (by dsimp only; omega)).trans kf
    have D2 := Lib.hid (D1.out.trans (hb.mono (by omega)))
    have z2 : w1.heap.size ≤ w2.heap.size := hb.size
    clear hb
    gi_wp2
    refine ⟨trivial, ?_⟩
    gi_wp2
    refine leave0 (v := .tuple #[.agg #[.slice none 0 0], .int .i64 2]) (by simp [results, Tryd.results33, go_sem, k1]) ?_
    rw [R.out.1, R.out.2]
    exact ⟨none, 0, [], rfl, OwnS.nil _ _ _, rfl, D2.out.setCell (by dsimp only; omega) _⟩
  rw [decide_eq_true hPm] at PI
  have PM := Lib.hid hPm
  by_cases hpn : p = n
  case neg =>
    have R := Lib.hid (Rl.rl_2 (tl := tl) (pl := pl) IS.out (by rw [LN.out, LP.out]; exact fun e => hpn e.2.1))
    have x1 : ((p : Int) == (n : Int)) = false := by simp; omega
    have x2 : ¬ (p : Int) = (n : Int) := by omega
    clear hPm hpn
    gi_wp2_with fail
    refine ⟨trivial, ?_⟩
    refine (callsIn_wide.2 (PI.out w1 D1.out)).mono ?_
    rintro e w2 ⟨rfl, hb⟩
    have k0 := (hb.cell (p := ⟨w.heap.size, 0, none⟩) (by dsimp only; omega)).trans k0
    have kt := (hb.cell (p := ⟨w.heap.size + 1, 0, none⟩) (by dsimp only; omega)).trans kt
    have kp := (hb.cell (p := ⟨w.heap.size + 2, 0, none⟩) (by dsimp only; omega)).trans kp
    have k1 := (hb.cell (p := ⟨w.heap.size + 3, 0, none⟩) (by dsimp only; omega)).trans k1
    have kf := (hb.frozen (p := ⟨w.heap.size + 3, 0, none⟩) (by dsimp only; omega)).trans kf
    have D2 := Lib.hid (D1.out.trans (hb.mono (by omega)))
    have z2 : w1.heap.size ≤ w2.heap.size := hb.size
    clear hb
    gi_wp2
    refine ⟨trivial, ?_⟩
    gi_wp2
    refine leave0 (v := .tuple #[.agg #[.slice none 0 0], .int .i64 2]) (by simp [results, Tryd.results33, go_sem, k1]) ?_
    rw [R.out.1, R.out.2]
    exact ⟨none, 0, [], rfl, OwnS.nil _ _ _, rfl, D2.out.setCell (by dsimp only; omega) _⟩
  obtain rfl : n = p := hpn.symm
  by_cases hAl : AllP pl
  case neg =>
    have R := Lib.hid (Rl.rl_2 (tl := tl) (pl := pl) IS.out (by rw [LN.out, LP.out]; exact fun e => hAl e.2.2))
    rw [decide_eq_false hAl] at AI
    clear hPm hAl
    gi_wp2_with fail
    refine ⟨trivial, ?_⟩
    refine (callsIn_wide.2 (PI.out w1 D1.out)).mono ?_
    rintro e w2 ⟨rfl, hb⟩
    have k0 := (hb.cell (p := ⟨w.heap.size, 0, none⟩) (by dsimp only; omega)).trans k0
    have kt := (hb.cell (p := ⟨w.heap.size + 1, 0, none⟩) (by dsimp only; omega)).trans kt
    have kp := (hb.cell (p := ⟨w.heap.size + 2, 0, none⟩) (by dsimp only; omega)).trans kp
    have k1 := (hb.cell (p := ⟨w.heap.size + 3, 0, none⟩) (by dsimp only; omega)).trans k1
    have kf := (hb.frozen (p := ⟨w.heap.size + 3, 0, none⟩) (by dsimp only; omega)).trans kf
    have D2 := Lib.hid (D1.out.trans (hb.mono (by omega)))
    have z2 : w1.heap.size ≤ w2.heap.size := hb.size
    clear hb
    gi_wp2_with fail
    refine ⟨trivial, ?_⟩
    refine (callsIn_wide.2 (AI.out w2 D2.out)).mono ?_
    rintro e w3 ⟨rfl, rfl⟩
    gi_wp2
    refine leave0 (v := .tuple #[.agg #[.slice none 0 0], .int .i64 2]) (by simp [results, Tryd.results33, go_sem, k1]) ?_
    rw [R.out.1, R.out.2]
    exact ⟨none, 0, [], rfl, OwnS.nil _ _ _, rfl, D2.out.setCell (by dsimp only; omega) _⟩
  rw [decide_eq_true hAl] at AI
  have R := Lib.hid (Rl.rl_0 (tl := tl) (pl := pl) IS.out (by rw [LN.out, LP.out]; exact ⟨hPm, rfl, hAl⟩))
  obtain rfl : n = m := by have := hPm.1; have := LM.out; omega
  have AL := Lib.hid hAl
  clear hPm hAl
  gi_wp2_with fail
  refine ⟨trivial, ?_⟩
  refine (callsIn_wide.2 (PI.out w1 D1.out)).mono ?_
  rintro e w2 ⟨rfl, hb⟩
  have k0 := (hb.cell (p := ⟨w.heap.size, 0, none⟩) (by dsimp only; omega)).trans k0
  have kt := (hb.cell (p := ⟨w.heap.size + 1, 0, none⟩) (by dsimp only; omega)).trans kt
  have kp := (hb.cell (p := ⟨w.heap.size + 2, 0, none⟩) (by dsimp only; omega)).trans kp
  have k1 := (hb.cell (p := ⟨w.heap.size + 3, 0, none⟩) (by dsimp only; omega)).trans k1
  have kf := (hb.frozen (p := ⟨w.heap.size + 3, 0, none⟩) (by dsimp only; omega)).trans kf
  have D2 := Lib.hid (D1.out.trans (hb.mono (by omega)))
  have z2 : w1.heap.size ≤ w2.heap.size := hb.size
  clear hb
  gi_wp2_with fail
  refine ⟨trivial, ?_⟩
  refine (callsIn_wide.2 (AI.out w2 D2.out)).mono ?_
  rintro e w3 ⟨rfl, rfl⟩
  clear PI AI
  have NB := Lib.hid (newBuilder_impl n w3 (HV.out.below D2.out h0.1) hn)
  gi_wp2_with fail
  refine ⟨trivial, ?_⟩
  refine (callsIn_wide.2 NB.out).mono ?_
  rintro e X ⟨bb, mb, A1, c1, rs1, rfl, ⟨g1, g2⟩, hB1, hV1, hM1, hb⟩
  have k0 := (hb.cell (p := ⟨w.heap.size, 0, none⟩) (by dsimp only; omega)).trans k0
  have kt := (hb.cell (p := ⟨w.heap.size + 1, 0, none⟩) (by dsimp only; omega)).trans kt
  have kp := (hb.cell (p := ⟨w.heap.size + 2, 0, none⟩) (by dsimp only; omega)).trans kp
  have k1 := (hb.cell (p := ⟨w.heap.size + 3, 0, none⟩) (by dsimp only; omega)).trans k1
  have kf := (hb.frozen (p := ⟨w.heap.size + 3, 0, none⟩) (by dsimp only; omega)).trans kf
  have z3 : w3.heap.size ≤ X.heap.size := hb.size
  have DX := Lib.hid (D2.out.trans (hb.mono (by omega)))
  have zb3 : bb < X.heap.size := hB1.lt
  have BX := Lib.hid hB1
  have VX := Lib.hid hV1
  have MX := Lib.hid hM1
  clear hb hB1 hV1 hM1 NB
  obtain ⟨V, hV⟩ : ∃ V, V = (X.alloc (Obj.cells #[.pointer (some ⟨bb, 0, none⟩)] 64)).alloc (Obj.cells #[.slice A n c] 28) := ⟨_, rfl⟩
  obtain ⟨zV, zVb⟩ : V.heap.size ≤ X.heap.size + 2 ∧ X.heap.size + 2 ≤ V.heap.size := by rw [hV]; simp
  have hBX : Below X.heap.size X V := by rw [hV]; exact al2 _ _ _
  have DV := Lib.hid (DX.out.trans (hBX.mono (by omega)))
  have K8 := Lib.hid (show V.cell? ⟨X.heap.size, 0, none⟩ = some (.pointer (some ⟨bb, 0, none⟩)) from by rw [hV]; simp [go_sem])
  have KB := Lib.hid (show V.cell? ⟨X.heap.size + 1, 0, none⟩ = some (.slice A n c) from by rw [hV]; simp [go_sem])
  have BV := Lib.hid (BX.out.hold hBX)
  have MV := Lib.hid (show MapAt V mb from owns_below MX.out hBX (by omega))
  have RV := Lib.hid ((HT.out.below DV.out).more (show w.heap.size ≤ bb by omega))
  have KT := Lib.hid ((hBX.cell (p := ⟨w.heap.size + 1, 0, none⟩) (by dsimp only; omega)).trans kt)
  have KP := Lib.hid ((hBX.cell (p := ⟨w.heap.size + 2, 0, none⟩) (by dsimp only; omega)).trans kp)
  have K1 := Lib.hid ((hBX.cell (p := ⟨w.heap.size + 3, 0, none⟩) (by dsimp only; omega)).trans k1)
  have KF := Lib.hid ((hBX.frozen (p := ⟨w.heap.size + 3, 0, none⟩) (by dsimp only; omega)).trans kf)
  have k0a := cell_al (Obj.cells #[.pointer (some ⟨bb, 0, none⟩)] 64) k0
  gi_wp2_with (refine ⟨trivial, ?_⟩; gi_at_call 76; refine (Fc.facesOf_in Fence.wide _ trivial rfl _ _ _ _).mono ?_; rintro e w' ⟨rfl, rfl⟩)
  rw [← hV]
  clear hV hBX BX DX MX k0 kt kp k1 kf k0a
  refine Fc.rangeC (by omega) (X.heap.size + 1) bb c A T H4.out hn (by omega) (by omega) rfl rfl KB.out RV.out
    (fun pre W => (W.cell? ⟨X.heap.size, 0, none⟩ = some (.pointer (some ⟨bb, 0, none⟩)) ∧ ∃ A' c' rs, BldH W bb mb X.heap.size A' c' rs ∧ vals rs = Rl.cpyP T tl pl (List.replicate n fr) pre) ∧ Below bb V W)
    (OwnFrom.and (fun s Y Z row hs hg hr => by
      obtain ⟨h1, A', c', rs, h3, h4⟩ := hs
      have hr' : ∀ r, row = some r → ∃ o : Obj, Y.heap[r]? = some o ∧ o.isCells = false := fun r e => (hr r e).2
      exact ⟨cell_kept h1 hg hr', A', c', rs, h3.grownC hg hr', h4⟩) (ownFrom_below (by omega) (by omega)))
    ⟨⟨K8.out, A1, c1, rs1, BV.out, by rw [VX.out]; rfl⟩, Below.refl _ _⟩
    (fun x Bx W => X.heap.size ≤ Bx ∧ (W.cell? ⟨Bx, 0, none⟩ = some (.int .i64 ((x.1 : Int) / 4)) ∧ W.cell? ⟨Bx, 1, none⟩ = some (.int .i64 ((x.1 : Int) % 4))) ∧ W.cell? ⟨Bx + 1, 0, none⟩ = some (.int .i64 (Tr.tt T (x.1 / 4) (x.1 % 4))) ∧ W.cell? ⟨Bx + 1, 1, none⟩ = some (.int .i64 (Tr.pp T (x.1 / 4) (x.1 % 4))))
    (fun x Bx => Own.from (fun s X Y row hs hg hr => ⟨hs.1, ⟨cell_kept hs.2.1.1 hg hr, cell_kept hs.2.1.2 hg hr⟩, cell_kept hs.2.2.1 hg hr, cell_kept hs.2.2.2 hg hr⟩) _) ?acts ?assign ?body ?done
  case assign =>
    rintro l pre x W K ⟨⟨b0, A', c', rs, hO, hVl⟩, hB⟩ hK
    dsimp only [Fc.encF]
    have zW : bb ≤ W.heap.size := Nat.le_trans (by omega) hB.size
    gi_wp2
    obtain ⟨Y, hY⟩ : ∃ Y, Y = (W.alloc (Obj.cells #[.int .i64 ((x.1 : Int) / 4), .int .i64 ((x.1 : Int) % 4)] 76)).alloc (Obj.cells #[.int .i64 (Tr.tt T (x.1 / 4) (x.1 % 4)), .int .i64 (Tr.pp T (x.1 / 4) (x.1 % 4))] 72) := ⟨_, rfl⟩
    have m0 : Y.cell? ⟨W.heap.size, 0, none⟩ = some (.int .i64 ((x.1 : Int) / 4)) := by rw [hY]; simp [go_sem]
    have m1 : Y.cell? ⟨W.heap.size, 1, none⟩ = some (.int .i64 ((x.1 : Int) % 4)) := by rw [hY]; simp [go_sem]
    have n0 : Y.cell? ⟨W.heap.size + 1, 0, none⟩ = some (.int .i64 (Tr.tt T (x.1 / 4) (x.1 % 4))) := by rw [hY]; simp [go_sem]
    have n1 : Y.cell? ⟨W.heap.size + 1, 1, none⟩ = some (.int .i64 (Tr.pp T (x.1 / 4) (x.1 % 4))) := by rw [hY]; simp [go_sem]
    have hAA : Below W.heap.size W Y := by rw [hY]; exact al2 _ _ _
    have hA : Below bb W Y := hAA.mono zW
    have hF : KeepsFrom V.heap.size W Y := by rw [hY]; exact ((KeepsOthers.alloc W _).trans (KeepsOthers.alloc _ _)).from _
    have hI : Y.cell? ⟨X.heap.size, 0, none⟩ = some (.pointer (some ⟨bb, 0, none⟩)) := by rw [hY]; exact Fc.cell_al _ (Fc.cell_al _ b0)
    have hOY : BldH Y bb mb X.heap.size A' c' rs := hO.below hAA
    rw [← hY]
    clear hY
    have zx : X.heap.size ≤ W.heap.size := Nat.le_trans (by omega) hB.size
    revert m0 m1 n0 n1 zx
    generalize W.heap.size = Bx
    intro m0 m1 n0 n1 zx
    exact hK Bx _ hF hA ⟨⟨hI, A', c', rs, hOY, hVl⟩, hB.trans hA⟩ ⟨zx, ⟨m0, m1⟩, n0, n1⟩
  case body =>
    rintro l pre x Bx W hl ⟨r, hr⟩ ⟨⟨b8, A', c', rs, hO, hVl⟩, hB⟩ ⟨zx, ⟨m0, m1⟩, q0, q1⟩ hlen
    have xlt := x.2
    obtain ⟨a, hae⟩ : ∃ a, x.1 / 4 = a := ⟨_, rfl⟩
    obtain ⟨f, hfe⟩ : ∃ f, x.1 % 4 = f := ⟨_, rfl⟩
    have ha : a < n := by omega
    have hf : f < 4 := by omega
    have ia : ((x.1 : Int) / 4) = (a : Int) := by omega
    have jf : ((x.1 : Int) % 4) = (f : Int) := by omega
    rw [ia] at m0
    rw [jf] at m1
    rw [hae, hfe] at q0 q1
    have SN := Lib.hid (show Rl.cpyP T tl pl (List.replicate n fr) (pre ++ [x]) = Rl.updP T tl pl (Rl.cpyP T tl pl (List.replicate n fr) pre) a f from by rw [Rl.cpyP_snoc, hae, hfe])
    have FR : Tr.Four (List.replicate n fr) := fun b hb => by
      rw [List.length_replicate] at hb
      rw [List.getD_eq_getElem?_getD, List.getElem?_replicate, if_pos hb]; rfl
    have F4 := Lib.hid (show Tr.Four (vals rs) from by rw [hVl]; exact Rl.cpyP_four FR pre)
    have RLN := Lib.hid (show rs.length = n from by rw [← Fc.vals_len, hVl, Rl.cpyP_len, List.length_replicate])
    have hz := hB.size
    have zW : bb ≤ W.heap.size := by omega
    have zWX : X.heap.size < W.heap.size := by omega
    have zB : Bx + 1 < W.heap.size := World.block_lt_of_cell? W _ q0
    have DW := Lib.hid (show Below w.heap.size w W from DV.out.trans (hB.mono (by omega)))
    obtain ⟨v0, v1⟩ := (HV.out.below DW.out h0.1).2
    have tc := (hB.cell (p := ⟨w.heap.size + 1, 0, none⟩) (by dsimp only; omega)).trans KT.out
    have pc := (hB.cell (p := ⟨w.heap.size + 2, 0, none⟩) (by dsimp only; omega)).trans KP.out
    have OW := Lib.hid hO
    have VL := Lib.hid hVl
    have HBW := Lib.hid hB
    have DB := IS.out.bd_iff (a := a) (f := f) (by rw [LN.out]; exact ha) hf
    have hmx : Tryd.prog.follows .mixedOrders = true := by kernel_rfl
    have hd : 1 ≤ 5 - 1 - 1 := by omega
    clear ia jf hae hfe xlt hO hVl hr hB FR
    by_cases hneg : Tr.tt T a f < 0
    · obtain ⟨h1, h2⟩ := DB.2 hneg
      have NX := Lib.hid (show ∀ Z, Rl.updP T tl pl Z a f = Z from fun Z => by unfold Rl.updP; rw [if_pos hneg])
      rw [h1] at q0
      rw [h2] at q1
      clear h1 h2 hneg DB
      gi_wp2
      exact ⟨KeepsFrom.refl _ _, Below.refl _ _, ⟨b8, A', c', rs, OW.out, by rw [SN.out, NX.out]; exact VL.out⟩, HBW.out⟩
    · have hnb : ¬ Tr.Bd T a f := fun e => hneg (DB.1 e)
      obtain ⟨tb, p, ht, hp, htn, hp24, -, -, -, -, -⟩ := IS.out.glued (a := a) (f := f) (by rw [LN.out]; exact ha) hf hnb
      have htn' : tb < n := by rw [← LN.out]; exact htn
      obtain ⟨x0, x1, x2, x3, hx4, -⟩ := im_four p hp24
      obtain ⟨g, hgv, hg4⟩ : ∃ g : Nat, (P4.im p).getD f 0 = (g : Int) ∧ g < 4 := ⟨((P4.im p).getD f 0).toNat, by have := P4.im_in p hp24 f hf; omega, by have := P4.im_in p hp24 f hf; omega⟩
      obtain ⟨pA, hpA, pA24⟩ : ∃ pA : Nat, pl.getD a 0 = (pA : Int) ∧ pA < 24 := ⟨(pl.getD a 0).toNat, by have := AL.out a (by rw [LP.out]; exact ha); omega, by have := AL.out a (by rw [LP.out]; exact ha); omega⟩
      obtain ⟨pB, hpB, pB24⟩ : ∃ pB : Nat, pl.getD tb 0 = (pB : Int) ∧ pB < 24 := ⟨(pl.getD tb 0).toNat, by have := AL.out tb (by rw [LP.out]; exact htn'); omega, by have := AL.out tb (by rw [LP.out]; exact htn'); omega⟩
      obtain ⟨h0', h1', h2', h3', hh4, -⟩ := im_four pA pA24
      obtain ⟨t0, t1, t2, t3, ht4, -⟩ := im_four pB pB24
      have rr24 : P4.thn (P4.thn (P4.ivt pA) p) pB < 24 := P4.comp_ix _ (P4.comp_ix _ (P4.inv_ix pA pA24) p hp24) pB pB24
      obtain ⟨r0, r1, r2, r3, hr4, -⟩ := im_four _ rr24
      obtain ⟨hfm1, hfm⟩ := Rl.gm_lt pA24 hf
      obtain ⟨hF, hhf⟩ : ∃ hF, Rl.gm pA f = hF := ⟨_, rfl⟩
      obtain ⟨tgm1, tgm⟩ := Rl.gm_lt pB24 hg4
      obtain ⟨tG, htg⟩ : ∃ tG, Rl.gm pB g = tG := ⟨_, rfl⟩
      obtain ⟨tlt, etA⟩ := Rl.ta_lt PM.out ha
      obtain ⟨tA, htA⟩ : ∃ tA, Rl.ta tl a = tA := ⟨_, rfl⟩
      obtain ⟨tB, htB⟩ : ∃ tB, tl.getD tb 0 = tB := ⟨_, rfl⟩
      have UP := Lib.hid (show ∀ Z, Rl.updP T tl pl Z a f = Tr.setF Z tA hF tB ((P4.thn (P4.thn (P4.ivt pA) p) pB : Nat) : Int) from fun Z => by
        unfold Rl.updP Rl.rp
        rw [if_neg hneg, ht, hp, Int.toNat_natCast, Int.toNat_natCast, htA, htB, show Rl.pa pl a = pA from by unfold Rl.pa; omega, show Rl.pa pl tb = pB from by unfold Rl.pa; omega, hhf])
      rw [hhf] at hfm1 hfm
      rw [htg] at tgm1 tgm
      rw [htA] at etA tlt
      rw [ht] at q0
      rw [hp] at q1
      have GG := Lib.hid (fun (Y : World) (hb : Below W.heap.size W Y) => (show Calls Tryd.prog 62 #[.agg #[.int .i64 (a : Int), .int .i64 (f : Int)], .agg #[.int .i64 (tb : Int), .int .i64 (p : Int)]] Y (fun e w' => e = .returned (.agg #[.int .i64 (a : Int), .int .i64 (f : Int), .int .i64 (tb : Int), .int .i64 (g : Int), .int .u8 (x0 : Int), .int .u8 (x1 : Int), .int .u8 (x2 : Int), .int .u8 (x3 : Int)]) ∧ Below Y.heap.size Y w') from by
        have := gluingOf_impl (a : Int) f p (tb : Int) x0 x1 x2 x3 Y hf hp24 hx4 (HV.out.below (DW.out.trans (hb.mono (by omega))) h0.1).1
        rw [hgv] at this
        exact this))
      have RR := Lib.hid (fun (Y : World) (hb : Below W.heap.size W Y) => relabelled_impl a f tb g p pA pB hF tG x0 x1 x2 x3 h0' h1' h2' h3' t0 t1 t2 t3 r0 r1 r2 r3 (tA : Int) tB At Ap n ct n cp tl pl Y (HL.out.into (DW.out.trans (hb.mono (by omega)))) (HP.out.into (DW.out.trans (hb.mono (by omega)))) (HV.out.below (DW.out.trans (hb.mono (by omega))) h0.1).1 hf hg4 hp24 pA24 pB24 ha htn' ha htn' hpA hpB etA htB hx4 hh4 ht4 hr4 hfm1 tgm1)
      have S0 := Lib.hid (fun (Y : World) (hb : Below W.heap.size W Y) => (hb.cell (p := ⟨X.heap.size, 0, none⟩) (by dsimp only; omega)).trans b8)
      have S1 := Lib.hid (fun (Y : World) (hb : Below W.heap.size W Y) => (hb.cell (p := ⟨Bx, 0, none⟩) (by dsimp only; omega)).trans m0)
      have S2 := Lib.hid (fun (Y : World) (hb : Below W.heap.size W Y) => (hb.cell (p := ⟨Bx, 1, none⟩) (by dsimp only; omega)).trans m1)
      have S3 := Lib.hid (fun (Y : World) (hb : Below W.heap.size W Y) => (hb.cell (p := ⟨Bx + 1, 0, none⟩) (by dsimp only; omega)).trans q0)
      have S4 := Lib.hid (fun (Y : World) (hb : Below W.heap.size W Y) => (hb.cell (p := ⟨Bx + 1, 1, none⟩) (by dsimp only; omega)).trans q1)
      have S5 := Lib.hid (fun (Y : World) (hb : Below W.heap.size W Y) => (hb.cell (p := ⟨w.heap.size + 1, 0, none⟩) (by dsimp only; omega)).trans tc)
      have S6 := Lib.hid (fun (Y : World) (hb : Below W.heap.size W Y) => (hb.cell (p := ⟨w.heap.size + 2, 0, none⟩) (by dsimp only; omega)).trans pc)
      have SF := Lib.hid (show ∀ Y : World, Below W.heap.size W Y → (fun Y : World => Y.cell? ⟨X.heap.size, 0, none⟩ = some (.pointer (some ⟨bb, 0, none⟩)) ∧ Y.cell? ⟨Bx, 0, none⟩ = some (.int .i64 (a : Int)) ∧ Y.cell? ⟨Bx, 1, none⟩ = some (.int .i64 (f : Int)) ∧ Y.cell? ⟨Bx + 1, 0, none⟩ = some (.int .i64 (tb : Int)) ∧ Y.cell? ⟨Bx + 1, 1, none⟩ = some (.int .i64 (p : Int)) ∧ Y.cell? ⟨w.heap.size + 1, 0, none⟩ = some (.slice At n ct) ∧ Y.cell? ⟨w.heap.size + 2, 0, none⟩ = some (.slice Ap n cp)) Y from fun Y hb => ⟨S0.out Y hb, S1.out Y hb, S2.out Y hb, S3.out Y hb, S4.out Y hb, S5.out Y hb, S6.out Y hb⟩)
      have DD := Lib.hid (fun (Y : World) (hb : Below W.heap.size W Y) => (show Calls Tryd.prog 77 #[.pointer (some ⟨bb, 0, none⟩), .agg #[.int .i64 (tA : Int), .int .i64 (hF : Int), .int .i64 tB, .int .i64 (tG : Int), .int .u8 (r0 : Int), .int .u8 (r1 : Int), .int .u8 (r2 : Int), .int .u8 (r3 : Int)]] Y (fun e w' => e = .returned (.tuple #[]) ∧ (KeepsFrom V.heap.size W w' ∧ Below bb W w' ∧ (w'.cell? ⟨X.heap.size, 0, none⟩ = some (.pointer (some ⟨bb, 0, none⟩)) ∧ ∃ A' c' rs, BldH w' bb mb X.heap.size A' c' rs ∧ vals rs = Rl.cpyP T tl pl (List.replicate n fr) (pre ++ [x])) ∧ Below bb V w') ∧ (fun Y : World => Y.cell? ⟨X.heap.size, 0, none⟩ = some (.pointer (some ⟨bb, 0, none⟩)) ∧ Y.cell? ⟨Bx, 0, none⟩ = some (.int .i64 (a : Int)) ∧ Y.cell? ⟨Bx, 1, none⟩ = some (.int .i64 (f : Int)) ∧ Y.cell? ⟨Bx + 1, 0, none⟩ = some (.int .i64 (tb : Int)) ∧ Y.cell? ⟨Bx + 1, 1, none⟩ = some (.int .i64 (p : Int)) ∧ Y.cell? ⟨w.heap.size + 1, 0, none⟩ = some (.slice At n ct) ∧ Y.cell? ⟨w.heap.size + 2, 0, none⟩ = some (.slice Ap n cp)) w') from by
        refine (describe_on bb mb X.heap.size A' c' rs tA hF _ r0 r1 r2 r3 tB (tG : Int) Y (OW.out.below hb) (owns_below MV.out (HBW.out.trans (hb.mono zW)) g2) g2 rr24 hr4 F4.out (by rw [RLN.out]; exact tlt) hfm).mono ?_
        rintro e w' ⟨rfl, ⟨A3, c3, rs3, hl3, hB3, hv3⟩, hM3, hk3, ko3, hb3⟩
        have zY := hb.size
        obtain ⟨y0, y1, y2, y3, y4, y5, y6⟩ := SF.out Y hb
        exact ⟨rfl, ⟨(KeepsFrom.of_below hb (by omega)).trans (ko3.from _), (hb.mono zW).trans hb3, ⟨(hk3 ⟨X.heap.size, 0, none⟩ (Nat.le_refl _) (Nat.lt_of_lt_of_le zWX hb.size)).trans ((hb.cell (p := ⟨X.heap.size, 0, none⟩) zWX).trans b8), A3, c3, rs3, hB3, by rw [hv3, SN.out, UP.out, VL.out]⟩, HBW.out.trans ((hb.mono zW).trans hb3)⟩, (hk3 _ (Nat.le_refl _) (by dsimp only; omega)).trans y0, (hk3 _ zx (by dsimp only; omega)).trans y1, (hk3 _ zx (by dsimp only; omega)).trans y2, (hk3 _ (by dsimp only; omega) (by dsimp only; omega)).trans y3, (hk3 _ (by dsimp only; omega) (by dsimp only; omega)).trans y4, (hb3.cell (by dsimp only; omega)).trans y5, (hb3.cell (by dsimp only; omega)).trans y6⟩))
      have CUR := Lib.hid (Below.refl W.heap.size W)
      have b8' : ((tb : Int) == -1) = false := by simp
      have nb : ¬ (tb : Int) = -1 := by omega
      clear hneg hnb DB ht hp htn hx4 hgv hpA hpB hh4 ht4 hr4 hfm1 hfm hhf tgm1 tgm htg etA tlt htA htB rr24 hp24 pA24 pB24 OW VL SN UP hlen
      gi_wp2
      refine wpIn_region_C (fun Y : World => Y.cell? ⟨X.heap.size, 0, none⟩ = some (.pointer (some ⟨bb, 0, none⟩)) ∧ Y.cell? ⟨Bx, 0, none⟩ = some (.int .i64 (a : Int)) ∧ Y.cell? ⟨Bx, 1, none⟩ = some (.int .i64 (f : Int)) ∧ Y.cell? ⟨Bx + 1, 0, none⟩ = some (.int .i64 (tb : Int)) ∧ Y.cell? ⟨Bx + 1, 1, none⟩ = some (.int .i64 (p : Int)) ∧ Y.cell? ⟨w.heap.size + 1, 0, none⟩ = some (.slice At n ct) ∧ Y.cell? ⟨w.heap.size + 2, 0, none⟩ = some (.slice Ap n cp)) [0, 1, 2, 4, 5] (by kernel_rfl) (by kernel_rfl) (fun _ => trivial) ?_
      have hS : (fun Y : World => Y.cell? ⟨X.heap.size, 0, none⟩ = some (.pointer (some ⟨bb, 0, none⟩)) ∧ Y.cell? ⟨Bx, 0, none⟩ = some (.int .i64 (a : Int)) ∧ Y.cell? ⟨Bx, 1, none⟩ = some (.int .i64 (f : Int)) ∧ Y.cell? ⟨Bx + 1, 0, none⟩ = some (.int .i64 (tb : Int)) ∧ Y.cell? ⟨Bx + 1, 1, none⟩ = some (.int .i64 (p : Int)) ∧ Y.cell? ⟨w.heap.size + 1, 0, none⟩ = some (.slice At n ct) ∧ Y.cell? ⟨w.heap.size + 2, 0, none⟩ = some (.slice Ap n cp)) W.drew := SF.out W.drew (Below.refl W.heap.size W).drew
      refine wpC_take (i := 0) (oi := { dst := some 46, op := .load _ (.tmp 8), type := _, pos := _, after := _, guard := _ }) (v := ?_) (by kernel_rfl) rfl (by kernel_rfl) (by kernel_rfl) (by kernel_rfl) ?_ hS ?_
      rotate_left
      · intro Y hY
        obtain ⟨y0, y1, y2, y3, y4, y5, y6⟩ := hY
        go_simp
        try with_reducible rfl
      try simp only [Act.put, List.setIfInBounds_toArray, List.set_cons_zero, List.set_cons_succ]
      refine wpC_take (i := 1) (oi := { dst := some 47, op := .load _ (.tmp 9), type := _, pos := _, after := _, guard := _ }) (v := ?_) (by kernel_rfl) rfl (by kernel_rfl) (by kernel_rfl) (by kernel_rfl) ?_ hS ?_
      rotate_left
      · intro Y hY
        obtain ⟨y0, y1, y2, y3, y4, y5, y6⟩ := hY
        go_simp
        try with_reducible rfl
      try simp only [Act.put, List.setIfInBounds_toArray, List.set_cons_zero, List.set_cons_succ]
      refine wpC_take (i := 2) (oi := { dst := some 48, op := .load _ (.tmp 10), type := _, pos := _, after := _, guard := _ }) (v := ?_) (by kernel_rfl) rfl (by kernel_rfl) (by kernel_rfl) (by kernel_rfl) ?_ hS ?_
      rotate_left
      · intro Y hY
        obtain ⟨y0, y1, y2, y3, y4, y5, y6⟩ := hY
        go_simp
        try with_reducible rfl
      try simp only [Act.put, List.setIfInBounds_toArray, List.set_cons_zero, List.set_cons_succ]
      refine wpC_take (i := 4) (oi := { dst := some 50, op := .load _ (.tmp 4), type := _, pos := _, after := _, guard := _ }) (v := ?_) (by kernel_rfl) rfl (by kernel_rfl) (by kernel_rfl) (by kernel_rfl) ?_ hS ?_
      rotate_left
      · intro Y hY
        obtain ⟨y0, y1, y2, y3, y4, y5, y6⟩ := hY
        go_simp
        try with_reducible rfl
      try simp only [Act.put, List.setIfInBounds_toArray, List.set_cons_zero, List.set_cons_succ]
      refine wpC_take (i := 5) (oi := { dst := some 51, op := .load _ (.tmp 5), type := _, pos := _, after := _, guard := _ }) (v := ?_) (by kernel_rfl) rfl (by kernel_rfl) (by kernel_rfl) (by kernel_rfl) ?_ hS ?_
      rotate_left
      · intro Y hY
        obtain ⟨y0, y1, y2, y3, y4, y5, y6⟩ := hY
        go_simp
        try with_reducible rfl
      try simp only [Act.put, List.setIfInBounds_toArray, List.set_cons_zero, List.set_cons_succ]
      refine wpC_call (j := 3) (o := { dst := some 49, op := .call _, type := _, pos := _, after := _, guard := _ }) (fun v Y => v = (.agg #[.int .i64 (a : Int), .int .i64 (f : Int), .int .i64 (tb : Int), .int .i64 (g : Int), .int .u8 (x0 : Int), .int .u8 (x1 : Int), .int .u8 (x2 : Int), .int .u8 (x3 : Int)]) ∧ Below W.heap.size W Y) (by kernel_rfl) rfl ?_ ?_
      · intro a' K' hK
        go_simp
        refine (CallsIn.inRound l (callsIn_wide.2 (GG.out _ (Below.refl W.heap.size W).drew))).mono ?_
        rintro e w6 ⟨rfl, hb6⟩
        exact hK _ _ ⟨rfl, undrew hb6⟩
      rintro _ Y1 ⟨rfl, hb1⟩
      refine ⟨fun _ => SF.out Y1 hb1, ?_⟩
      have CU1 := Lib.hid hb1
      clear hb1
      try simp only [Act.put, List.setIfInBounds_toArray, List.set_cons_zero, List.set_cons_succ]
      refine wpC_call (j := 6) (o := { dst := some 52, op := .call _, type := _, pos := _, after := _, guard := _ }) (fun v Y => v = (.agg #[.int .i64 (tA : Int), .int .i64 (hF : Int), .int .i64 tB, .int .i64 (tG : Int), .int .u8 (r0 : Int), .int .u8 (r1 : Int), .int .u8 (r2 : Int), .int .u8 (r3 : Int)]) ∧ Below W.heap.size W Y) (by kernel_rfl) rfl ?_ ?_
      · intro a' K' hK
        go_simp
        refine (CallsIn.inRound l (callsIn_wide.2 (RR.out Y1 CU1.out))).mono ?_
        rintro e w7 ⟨rfl, hb7⟩
        exact hK _ _ ⟨rfl, CU1.out.trans (hb7.mono CU1.out.size)⟩
      rintro _ Y2 ⟨rfl, hb2⟩
      refine ⟨fun _ => SF.out Y2 hb2, ?_⟩
      have CU2 := Lib.hid hb2
      clear hb2
      try simp only [Act.put, List.setIfInBounds_toArray, List.set_cons_zero, List.set_cons_succ]
      refine wpC_call (j := 7) (o := { dst := some 53, op := .call _, type := _, pos := _, after := _, guard := _ }) (fun v Y => v = .tuple #[] ∧ (KeepsFrom V.heap.size W Y ∧ Below bb W Y ∧ (Y.cell? ⟨X.heap.size, 0, none⟩ = some (.pointer (some ⟨bb, 0, none⟩)) ∧ ∃ A' c' rs, BldH Y bb mb X.heap.size A' c' rs ∧ vals rs = Rl.cpyP T tl pl (List.replicate n fr) (pre ++ [x])) ∧ Below bb V Y) ∧ (fun Y : World => Y.cell? ⟨X.heap.size, 0, none⟩ = some (.pointer (some ⟨bb, 0, none⟩)) ∧ Y.cell? ⟨Bx, 0, none⟩ = some (.int .i64 (a : Int)) ∧ Y.cell? ⟨Bx, 1, none⟩ = some (.int .i64 (f : Int)) ∧ Y.cell? ⟨Bx + 1, 0, none⟩ = some (.int .i64 (tb : Int)) ∧ Y.cell? ⟨Bx + 1, 1, none⟩ = some (.int .i64 (p : Int)) ∧ Y.cell? ⟨w.heap.size + 1, 0, none⟩ = some (.slice At n ct) ∧ Y.cell? ⟨w.heap.size + 2, 0, none⟩ = some (.slice Ap n cp)) Y) (by kernel_rfl) rfl ?_ ?_
      · intro a' K' hK
        go_simp
        refine (CallsIn.inRound l (callsIn_wide.2 (DD.out Y2 CU2.out))).mono ?_
        rintro e w8 ⟨rfl, hP⟩
        exact hK _ _ ⟨rfl, hP⟩
      rintro _ Y3 ⟨rfl, hP, hS3⟩
      exact ⟨fun _ => hS3, wpC_done (by kernel_rfl) hP⟩
  case done =>
    rintro D W hD ⟨⟨b8, A', c', rs, hO, hVl⟩, hB⟩ hK
    have hz := hB.size
    have DW := Lib.hid (show Below w.heap.size w W from DV.out.trans (hB.mono (by omega)))
    have VN := Lib.hid (show vals rs = Rl.tabS T tl pl n from by rw [hVl]; exact Rl.both PM.out LN.out)
    have q1 := (hB.cell (p := ⟨w.heap.size + 3, 0, none⟩) (by dsimp only; omega)).trans K1.out
    have qf := (hB.frozen (p := ⟨w.heap.size + 3, 0, none⟩) (by dsimp only; omega)).trans KF.out
    have BW := Lib.hid hO
    have hDl : D < W.heap.size := by
      rcases Nat.lt_or_ge D W.heap.size with h | h
      · exact h
      · rw [Array.getElem?_eq_none h] at hK; cases hK
    have KK := Lib.hid hK
    have ztop := hO.top
    clear hVl hO hB hK
    gi_wp2_with fail
    refine ⟨trivial, ?_⟩
    refine (callsIn_wide.2 (triang_impl bb mb A' c' rs W BW.out.bld)).mono ?_
    rintro e W2 ⟨rfl, hb⟩
    have q1 := (hb.cell (p := ⟨w.heap.size + 3, 0, none⟩) (by dsimp only; omega)).trans q1
    have qf := (hb.frozen (p := ⟨w.heap.size + 3, 0, none⟩) (by dsimp only; omega)).trans qf
    have hK2 := Lib.hid ((hb.block D hDl).trans KK.out)
    have D2' := Lib.hid (DW.out.trans (hb.mono (by omega)))
    have B2 := Lib.hid (BW.out.below hb)
    have z2' := hb.size
    clear hb
    gi_wp2
    have hK' := (KeepsOthers.setCell W2 ⟨w.heap.size + 3, 0, none⟩ (.slice A' rs.length c')).same D _ hK2.out rfl
    have hc5 := cell_kept (World.cell?_setCell_same' W2 ⟨w.heap.size + 3, 0, none⟩ (.slice A' rs.length c') (by rw [q1]; rfl)) (grownBy_putObj' _ D (.deferred none)) (fun r e => by cases e; exact ⟨_, hK', rfl⟩)
    refine leave1 (v := .tuple #[.agg #[.slice A' rs.length c'], .int .i64 0]) hK' (by simp [results, Tryd.results33, go_sem, hc5]) ?_
    rw [R.out.1, R.out.2, LN.out]
    refine ⟨A', c', rs, rfl, ?_, VN.out, (D2'.out.setCell (p := ⟨w.heap.size + 3, 0, none⟩) (by dsimp only; omega) _).trans (belowK_b (w := w) (Nat.le_refl _) _ D _ _ (by omega) hK' rfl rfl)⟩
    have hg := grownBy_putObj' (W2.setCell ⟨w.heap.size + 3, 0, none⟩ (.slice A' rs.length c')) D (.deferred none)
    refine ((B2.out.own.far (p := ⟨w.heap.size + 3, 0, none⟩) (.inl (by dsimp only; omega)) _).grownC hg (fun r e => by cases e; exact ⟨_, hK', rfl⟩)).wide (by omega) (Nat.le_trans ?_ hg.size)
    simp [World.setCell]
    omega
end Fc
end Go.Proofs.YtajbahfbldmckaaDoor

