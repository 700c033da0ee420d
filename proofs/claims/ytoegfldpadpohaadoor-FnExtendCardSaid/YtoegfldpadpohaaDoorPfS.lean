/- Extensions: the program's and the specification's. No condition but those that each theorem names. -/
import Derived.Test.YtoegfldpadpohaaDoorPfR
namespace Go.Proofs.YtoegfldpadpohaaDoor
open Go.RowKit

/-- Do the images l map the first k numbers of zs to those of ys? -/
def P4.fk (l zs ys : List Int) (k : Nat) : Bool := decide (∀ j, j < k → l.getD (zs.getD j 0).toNat 0 = ys.getD j 0)
theorem P4.fk_zero (l zs ys : List Int) : P4.fk l zs ys 0 = true := by simp [P4.fk]
theorem P4.fk_succ (l zs ys : List Int) (k : Nat) : P4.fk l zs ys (k + 1) = (P4.fk l zs ys k && decide (l.getD (zs.getD k 0).toNat 0 = ys.getD k 0)) := by
  rw [Bool.eq_iff_iff, Bool.and_eq_true]
  simp only [P4.fk, decide_eq_true_iff]
  constructor
  · exact fun h => ⟨fun j hj => h j (by omega), h k (by omega)⟩
  · intro h j hj
    by_cases e : j = k
    · rw [e]; exact h.2
    · exact h.1 j (by omega)
theorem P4.fk_no {l zs ys : List Int} {k n : Nat} (hk : k < n) (h : l.getD (zs.getD k 0).toNat 0 ≠ ys.getD k 0) : P4.fk l zs ys n = false := by
  rw [P4.fk, decide_eq_false_iff_not]
  exact fun h1 => h (h1 k hk)

set_option maxHeartbeats 4000000 in
theorem mapsAll_impl (l : List Int) (A A' : Option Addr) (n c c' : Nat) (zs ys : List Int) (w : World) (hl : L4 l) (h : Ints w w.heap.size A n zs) (h' : Ints w w.heap.size A' n ys) (hn : n ≤ 1048576) (hv : P4.vs zs = true) :
    Calls Tryd.prog 45 #[.agg (cP l).toArray, .slice A n c, .slice A' n c'] w fun e w' => e = .returned (.bool (P4.fk l zs ys n)) ∧ Below w.heap.size w w' := by
  have HL := Lib.hid hl
  have X0 := Lib.hid (show BlkP (w.alloc (Obj.cells (cP l).toArray 47)) w.heap.size l from heap_alloc_new w _)
  have D1 := Lib.hid (al1 w (Obj.cells (cP l).toArray 47))
  have H := Lib.hid (h.below D1.out)
  have H' := Lib.hid (h'.below D1.out)
  have VV := Lib.hid (show ∀ k, k < n → 0 ≤ zs.getD k 0 ∧ zs.getD k 0 < 4 from by rw [P4.vs, decide_eq_true_iff, h.1] at hv; exact hv)
  obtain ⟨X, hX⟩ : ∃ X, (cP l).toArray = X := ⟨_, rfl⟩
  rw [hX] at X0 D1 H H' ⊢
  clear hl hX h h' hv
  obtain ⟨V, hV⟩ : ∃ V, w.alloc (Obj.cells X 47) = V := ⟨_, rfl⟩
  obtain ⟨r, hr⟩ : ∃ r, P4.fk l zs ys n = r := ⟨_, rfl⟩
  have HR := Lib.hid hr
  rw [hr]
  clear hr
  go_enter Tryd.func45, Tryd.ntmps45
  go_upto_region 1 with fail
  rw [hV] at X0 D1 H H'
  (try rw [hV])
  clear hV
  obtain ⟨g, hg⟩ : ∃ g, w.heap.size = g := ⟨_, rfl⟩
  have HG := Lib.hid hg
  rw [hg] at X0
  (try rw [hg])
  clear hg
  go_wp2
  go_loopw [11] (fun i W => ∃ k : Nat, k ≤ n ∧ i = .int .i64 k ∧ (∀ j, j < k → l.getD (zs.getD j 0).toNat 0 = ys.getD j 0) ∧ ∃ q, W = V.drewN q) (fun i _ => n - (intOf i).toNat)
  case atStart => exact ⟨0, Nat.zero_le _, rfl, fun j hj => by omega, 0, rfl⟩
  case round =>
    obtain ⟨k, hk, rfl, hR, q, rfl⟩ := hrel
    have RR := Lib.hid hR
    clear hR
    by_cases hlt : k < n
    · obtain ⟨b, off, z, rfl, hb, hz, hc⟩ := H.out.at_z hlt
      obtain ⟨b', off', y, rfl, hb', hy, hc'⟩ := H'.out.at_z hlt
      have hz4 := VV.out k hlt
      rw [hz] at hz4
      obtain ⟨Z, rfl⟩ : ∃ Z : Nat, z = Z := ⟨z.toNat, by omega⟩
      have hZ4 : Z < 4 := by omega
      have cp := X0.out.cell (i := Z) (by rw [HL.out.len]; exact hZ4)
      obtain ⟨u, hu, hu4⟩ := HL.out.nat hZ4
      rw [hu] at cp
      have i1 : (k : Int) < (n : Int) := by omega
      have i2 : (0 : Int) ≤ (k : Int) := by omega
      have i3 : (Z : Int) < 4 := by omega
      have i4 : (0 : Int) ≤ (Z : Int) := by omega
      have u1 : IntKind.i64.wrap (u : Int) = (u : Int) := IntWalk.i64_in _ (by omega)
      have EQ := Lib.hid (show l.getD (zs.getD k 0).toNat 0 = (u : Int) from by rw [hz, Int.toNat_natCast, hu])
      have Y := Lib.hid hy
      clear hz hy hu hz4
      by_cases huy : (u : Int) = y
      · have NX := Lib.hid (show ∀ j, j < k + 1 → l.getD (zs.getD j 0).toNat 0 = ys.getD j 0 from fun j hj => by
          by_cases e : j = k
          · rw [e, EQ.out, Y.out, huy]
          · exact RR.out j (by omega))
        have t1 : ((u : Int) != y) = false := by simpa using huy
        clear huy
        go_wp2
        go_quiet (fail)
        all_goals
          go_wp2
          go_roundw
          case rel => exact ⟨k + 1, by omega, by go_num, NX.out, _, rfl⟩
          case measure => simp [intOf]; omega
      · have NO := Lib.hid (show r = false from by
          rw [← HR.out]
          exact P4.fk_no hlt (by rw [EQ.out, Y.out]; exact huy))
        have t1 : ((u : Int) != y) = true := by simpa using huy
        clear huy
        go_wp2
        go_quiet (fail)
        all_goals
          go_wp2
          go_ret
          exact ⟨by rw [NO.out]; rfl, (D1.out.trans (Go.Joins.below_draws _ _ _)).trans (Go.Joins.below_draws _ _ _)⟩
    · obtain rfl : k = n := by omega
      have YES := Lib.hid (show r = true from by rw [← HR.out, P4.fk, decide_eq_true_iff]; exact RR.out)
      have i1 : ¬ (k : Int) < (k : Int) := by omega
      go_wp2
      go_ret
      exact ⟨by rw [YES.out]; rfl, D1.out.trans (Go.Joins.below_draws _ _ _)⟩

/-- The first permutation from k on that fits. -/
def P4.first (zs ys : List Int) (n : Nat) : Nat → Option Nat
  | 0 => none
  | m + 1 => if P4.fk (P4.im (23 - m)) zs ys n = true then some (23 - m) else P4.first zs ys n m
theorem P4.first_step (zs ys : List Int) (n k : Nat) (hk : k < 24) : P4.first zs ys n (24 - k) = if P4.fk (P4.im k) zs ys n = true then some k else P4.first zs ys n (24 - (k + 1)) := by
  rw [show 24 - k = (23 - k) + 1 by omega, P4.first, show 23 - (23 - k) = k by omega, show 24 - (k + 1) = 23 - k by omega]
def P4.ext (n m : Nat) (zs ys : List Int) : Option Nat := if n = m ∧ P4.vs zs = true ∧ P4.vs ys = true then P4.first zs ys n 24 else none
def ResX (w : World) (o : Option Nat) (e : Ending) (w' : World) : Prop := e = .returned (.tuple #[.int .i64 ((o.getD 0 : Nat) : Int), .bool o.isSome]) ∧ Below w.heap.size w w'

end Go.Proofs.YtoegfldpadpohaaDoor
