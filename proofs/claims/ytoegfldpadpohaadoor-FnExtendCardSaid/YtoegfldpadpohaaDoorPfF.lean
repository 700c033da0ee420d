/- The program's arrays of four numbers. No condition but those that each theorem names. -/
import Derived.Test.YtoegfldpadpohaaDoorPfE
import Derived.Deep.MidRow
import Derived.Deep.RegionHeld3
namespace Go.Proofs.YtoegfldpadpohaaDoor
open Go.RowKit

def cP (l : List Int) : List Value := l.map (Value.int .u8)
/-- An array of four numbers in a block of its own. -/
def BlkP (W : World) (g : Nat) (l : List Int) : Prop := W.heap[g]? = some (.cells (cP l).toArray 47 (0, 0))
theorem BlkP.lt {W : World} {g : Nat} {l : List Int} (h : BlkP W g l) : g < W.heap.size := by
  rcases Nat.lt_or_ge g W.heap.size with hlt | hge
  · exact hlt
  · unfold BlkP at h; rw [Array.getElem?_eq_none hge] at h; cases h
theorem BlkP.cell {W : World} {g : Nat} {l : List Int} (h : BlkP W g l) {i : Nat} (hi : i < l.length) : W.cell? ⟨g, i, none⟩ = some (.int .u8 (l.getD i 0)) := by
  rw [cell_of_row W g i _ _ (0, 0) h]
  simp [cP, List.getElem?_eq_getElem hi]
theorem BlkP.frozen {W : World} {g : Nat} {l : List Int} (h : BlkP W g l) (i : Nat) : W.frozen? ⟨g, i, none⟩ = false := by
  unfold BlkP at h
  simp [World.frozen?, h]
theorem BlkP.set_ {W : World} {g : Nat} {l : List Int} (h : BlkP W g l) (i : Nat) (u : Int) : BlkP (W.setCell ⟨g, i, none⟩ (.int .u8 u)) g (l.set i u) := by
  unfold BlkP at h ⊢
  simp [World.setCell, Array.getElem?_modify, h, cP]
theorem BlkP.below {W W' : World} {g : Nat} {l : List Int} {B : Nat} (h : BlkP W g l) (hb : Below B W W') (hg : g < B) : BlkP W' g l := (hb.block g hg).trans h
theorem BlkP.far {W : World} {g : Nat} {l : List Int} (h : BlkP W g l) {p : Addr} (hp : g ≠ p.block) (u : Value) : BlkP (W.setCell p u) g l := (Below.heap_setCell W p u g hp).trans h
theorem BlkP.alloc {W : World} {g : Nat} {l : List Int} (h : BlkP W g l) (o : Obj) : BlkP (W.alloc o) g l := (Below.heap_alloc W o g h.lt).trans h
theorem BlkP.range {W : World} {g : Nat} {l : List Int} (h : BlkP W g l) : W.rangeAt g 0 (cP l) := fun j v hv => by
  rw [Nat.zero_add, cell_of_row W g j _ _ (0, 0) h]
  simpa using hv
/-- The program's table of permutations. -/
def TC : List Value := P4.tab.flatMap cP
def Tb (W : World) : Prop := W.rangeAt 0 0 TC
theorem Tb.below {W W' : World} {B : Nat} (h : Tb W) (hb : Below B W W') (hB : 0 < B) : Tb W' := fun j v hv => (hb.cell (p := ⟨0, 0 + j, none⟩) hB).trans (h j v hv)
theorem TC_at : ∀ p, p < 24 → ∀ k, k < 4 → (P4.tab.flatMap id)[p * 4 + k]? = (P4.im p)[k]? := by decide +kernel
theorem Tb.row {W : World} (h : Tb W) {p : Nat} (hp : p < 24) : W.rangeAt 0 (p * 4) (cP (P4.im p)) := fun j v hv => by
  have hj : j < 4 := by
    have := (List.getElem?_eq_some_iff.1 hv).1
    rwa [cP, List.length_map, P4.im_len p hp] at this
  have h1 := h (p * 4 + j) v (by
    have e : TC = (P4.tab.flatMap id).map (Value.int .u8) := by rw [List.map_flatMap]; rfl
    rw [e, List.getElem?_map, TC_at p hp j hj, ← hv, cP, List.getElem?_map])
  rwa [Nat.zero_add] at h1
theorem Tb.cell {W : World} (h : Tb W) {p k : Nat} (hp : p < 24) (hk : k < 4) : W.cell? ⟨0, p * 4 + k, none⟩ = some (.int .u8 ((P4.im p).getD k 0)) := by
  refine h.row hp k _ ?_
  have hl := P4.im_len p hp
  rw [cP, List.getElem?_map, List.getElem?_eq_getElem (by omega), List.getD_eq_getElem?_getD, List.getElem?_eq_getElem (by omega)]
  rfl
theorem size4 : (Tryd.prog.info? 47).map (·.size) = some 4 := by kernel_rfl

/-- Four images of the table, one by one. -/
theorem Tb.four {W : World} (h : Tb W) {p : Nat} (hp : p < 24) : ∃ x0 x1 x2 x3 : Nat, P4.im p = [(x0 : Int), (x1 : Int), (x2 : Int), (x3 : Int)] ∧ (x0 < 4 ∧ x1 < 4 ∧ x2 < 4 ∧ x3 < 4) ∧
    W.cell? ⟨0, p * 4, none⟩ = some (.int .u8 (x0 : Int)) ∧ W.cell? ⟨0, p * 4 + 1, none⟩ = some (.int .u8 (x1 : Int)) ∧ W.cell? ⟨0, p * 4 + 2, none⟩ = some (.int .u8 (x2 : Int)) ∧ W.cell? ⟨0, p * 4 + 3, none⟩ = some (.int .u8 (x3 : Int)) := by
  have b0 := P4.im_in p hp 0 (by omega)
  have b1 := P4.im_in p hp 1 (by omega)
  have b2 := P4.im_in p hp 2 (by omega)
  have b3 := P4.im_in p hp 3 (by omega)
  have c0 := h.cell hp (k := 0) (by omega)
  have c1 := h.cell hp (k := 1) (by omega)
  have c2 := h.cell hp (k := 2) (by omega)
  have c3 := h.cell hp (k := 3) (by omega)
  have e : ∀ z : Int, 0 ≤ z → ((z.toNat : Nat) : Int) = z := fun z hz => by omega
  refine ⟨((P4.im p).getD 0 0).toNat, ((P4.im p).getD 1 0).toNat, ((P4.im p).getD 2 0).toNat, ((P4.im p).getD 3 0).toNat, ?_, ⟨by omega, by omega, by omega, by omega⟩, ?_, ?_, ?_, ?_⟩
  · rw [e _ b0.1, e _ b1.1, e _ b2.1, e _ b3.1]; exact P4.four_eq (P4.im_len p hp) rfl rfl rfl rfl
  · rw [e _ b0.1]; exact c0
  · rw [e _ b1.1]; exact c1
  · rw [e _ b2.1]; exact c2
  · rw [e _ b3.1]; exact c3
/-- A list of four numbers from 0 to 3. -/
structure L4 (l : List Int) : Prop where
  len : l.length = 4
  v : ∀ k, k < 4 → 0 ≤ l.getD k 0 ∧ l.getD k 0 < 4
theorem L4.im {p : Nat} (hp : p < 24) : L4 (P4.im p) := ⟨P4.im_len p hp, P4.im_in p hp⟩
theorem L4.nat {l : List Int} (h : L4 l) {k : Nat} (hk : k < 4) : ∃ z : Nat, l.getD k 0 = (z : Int) ∧ z < 4 := by
  have := h.v k hk
  exact ⟨(l.getD k 0).toNat, by omega, by omega⟩

set_option maxHeartbeats 4000000 in
theorem psign_impl (l : List Int) (w : World) (hl : L4 l) :
    Calls Tryd.prog 41 #[.agg (cP l).toArray] w (ResI w (P4.sgO l 4)) := by
  have HL := Lib.hid hl
  have X0 := Lib.hid (show BlkP (w.alloc (Obj.cells (cP l).toArray 47)) w.heap.size l from heap_alloc_new w _)
  obtain ⟨X, hX⟩ : ∃ X, (cP l).toArray = X := ⟨_, rfl⟩
  rw [hX] at X0 ⊢
  clear hl hX
  go_enter Tryd.func41, Tryd.ntmps41
  go_wp2
  have D1 := Lib.hid (al1 w (Obj.cells X 47))
  obtain ⟨V, hV⟩ : ∃ V, w.alloc (Obj.cells X 47) = V := ⟨_, rfl⟩
  rw [hV] at X0 D1 ⊢
  obtain ⟨g, hg⟩ : ∃ g, w.heap.size = g := ⟨_, rfl⟩
  have HG := Lib.hid hg
  rw [hg] at X0 ⊢
  clear hV hg
  go_loopw [3, 6] (fun s j W => ∃ k : Nat, k ≤ 4 ∧ j = .int .i64 k ∧ s = .int .i64 (P4.sgO l k) ∧ ∃ q, W = V.drewN q) (fun _ j _ => 4 - (intOf j).toNat)
  case atStart => exact ⟨0, Nat.zero_le _, rfl, rfl, 0, rfl⟩
  case round =>
    obtain ⟨k, hk, rfl, rfl, q, rfl⟩ := hrel
    by_cases hlt : k < 4
    · have hcz := X0.out.cell (i := k) (by rw [HL.out.len]; exact hlt)
      obtain ⟨z, hz, hz4⟩ := HL.out.nat hlt
      rw [hz] at hcz
      have Z := Lib.hid hz
      have i1 : (k : Int) < 4 := by omega
      have i2 : (0 : Int) ≤ (k : Int) := by omega
      obtain ⟨S, hS⟩ : ∃ S, P4.sgO l k = S := ⟨_, rfl⟩
      have HS := Lib.hid hS
      have SB := Lib.hid (show S = 1 ∨ S = -1 from by rw [← hS]; exact P4.sgO_in l k)
      rw [hS]
      clear hz hS
      go_wp2
      obtain ⟨wo, hwo⟩ : ∃ wo : World, wo = V.drewN q := ⟨_, rfl⟩
      rw [← hwo]
      have WO := Lib.hid hwo
      clear hwo
      go_loopw [3, 10] (fun s i W => ∃ m : Nat, m ≤ k ∧ i = .int .i64 m ∧ s = .int .i64 (P4.sgI l k S m) ∧ ∃ q2, W = wo.drewN q2) (fun _ i _ => k - (intOf i).toNat)
      case atStart => exact ⟨0, Nat.zero_le _, rfl, rfl, 0, rfl⟩
      case round =>
        obtain ⟨m, hm, rfl, rfl, q2, rfl⟩ := hrel
        have TB := P4.sgI_in (l := l) (j := k) SB.out m
        by_cases hlm : m < k
        · have hcy := X0.out.cell (i := m) (by rw [HL.out.len]; omega)
          obtain ⟨y, hy, hy4⟩ := HL.out.nat (k := m) (by omega)
          rw [hy] at hcy
          have c1 : wo.cell? ⟨g, k, none⟩ = some (.int .u8 (z : Int)) := by rw [WO.out]; exact hcz
          have c2 : wo.cell? ⟨g, m, none⟩ = some (.int .u8 (y : Int)) := by rw [WO.out]; exact hcy
          have NX := Lib.hid (show P4.sgI l k S (m + 1) = if (y : Int) > (z : Int) then -(P4.sgI l k S m) else P4.sgI l k S m from by rw [P4.sgI, hy, Z.out])
          obtain ⟨T, hT⟩ : ∃ T, P4.sgI l k S m = T := ⟨_, rfl⟩
          rw [hT] at NX TB
          rw [hT]
          have t3 : -1 ≤ T := by omega
          have t4 : T ≤ 1 := by omega
          have tn : IntKind.i64.wrap (-T) = -T := IntWalk.i64_in _ (by omega)
          clear hT hy hcy TB
          have j1 : (m : Int) < 4 := by omega
          have j2 : (0 : Int) ≤ (m : Int) := by omega
          have j3 : (m : Int) < (k : Int) := by omega
          by_cases hyz : (z : Int) < (y : Int)
          · have t1 : decide ((z : Int) < (y : Int)) = true := by simpa using hyz
            have t2 : decide (z < y) = true := by simpa using hyz
            have NY := Lib.hid (show P4.sgI l k S (m + 1) = -T from by rw [NX.out, if_pos hyz])
            clear hyz NX
            go_wp2
            go_quiet (fail)
            all_goals
              go_wp2
              go_roundw
              case rel => exact ⟨m + 1, by omega, by go_num, by rw [NY.out], _, rfl⟩
              case measure => simp [intOf]; omega
          · have t1 : decide ((z : Int) < (y : Int)) = false := by simpa using hyz
            have t2 : decide (z < y) = false := by simpa using hyz
            have NY := Lib.hid (show P4.sgI l k S (m + 1) = T from by rw [NX.out, if_neg hyz])
            clear hyz NX
            go_wp2
            go_quiet (fail)
            all_goals
              go_wp2
              go_roundw
              case rel => exact ⟨m + 1, by omega, by go_num, by rw [NY.out], _, rfl⟩
              case measure => simp [intOf]; omega
        · obtain rfl : m = k := by omega
          have NX := Lib.hid (show P4.sgO l (m + 1) = P4.sgI l m S m from by rw [P4.sgO, HS.out])
          go_wp2
          go_roundw
          case rel => exact ⟨m + 1, by omega, by go_num, by rw [NX.out], drewN_more2 WO.out q2⟩
          case measure => simp [intOf]; omega
    · obtain rfl : k = 4 := by omega
      go_wp2
      go_ret
      exact ⟨rfl, D1.out.trans (Go.Joins.below_draws _ _ _)⟩

theorem sign_impl (p : Nat) (w : World) (hp : p < 24) (ht : Tb w) :
    Calls Tryd.prog 18 #[.int .i64 p] w (ResI w (P4.sgO (P4.im p) 4)) := by
  have HP := Lib.hid (show (0 : Int) ≤ (p : Int) ∧ (p : Int) < 24 from by omega)
  have i1 : (p : Int) < 24 := by omega
  obtain ⟨x0, x1, x2, x3, hx, _, c0, c1, c2, c3⟩ := ht.four hp
  have PS := Lib.hid (fun W => psign_impl (P4.im p) W (L4.im hp))
  rw [hx] at PS
  rw [hx]
  clear hx
  go_enter Tryd.func18, Tryd.ntmps18
  go_wp2_with fail
  refine (isPerm4_yes _ _ HP.out.1 HP.out.2).mono ?_
  rintro e w0 ⟨rfl, rfl⟩
  go_wp2_with fail
  refine (PS.out _).mono ?_
  rintro e w1 ⟨rfl, hb⟩
  have D1 := Lib.hid hb
  clear hb
  go_wp2
  go_ret
  exact ⟨rfl, D1.out⟩
theorem sign_impl_no (p : Int) (w : World) (hp : ¬ (0 ≤ p ∧ p < 24)) :
    Calls Tryd.prog 18 #[.int .i64 p] w fun e w' => e = .returned (.int .i64 0) ∧ w = w' := by
  have HP := Lib.hid hp
  clear hp
  go_enter Tryd.func18, Tryd.ntmps18
  go_wp2_with fail
  refine (isPerm4_no _ _ HP.out).mono ?_
  rintro e w0 ⟨rfl, rfl⟩
  go_wp2
  go_ret
  exact ⟨rfl, rfl⟩

end Go.Proofs.YtoegfldpadpohaaDoor
