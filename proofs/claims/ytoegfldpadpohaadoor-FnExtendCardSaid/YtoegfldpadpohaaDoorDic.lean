/- Contracts of the laws' dice. No condition but those that each theorem names. -/
import Derived.Test.YtoegfldpadpohaaDoorDrwA
import Derived.Outline
import Derived.IntWalk
import Derived.Deep.Cut
import Derived.Laws.Bits64b
namespace Go.Proofs.YtoegfldpadpohaaDoor
open Go.RowKit

/-- The dice: the code, the place, the state. -/
def Dic (w : World) (g : Nat) (A : Option Addr) (n c : Nat) (a x : Int) : Prop := Box3 w g (.slice A n c) (.int .i64 a) (.int .u64 x) ∧ Free w g ∧ 0 ≤ a ∧ a ≤ n
theorem Dic.below {w w' : World} {g : Nat} {A : Option Addr} {n c : Nat} {a x : Int} {B : Nat} (h : Dic w g A n c a x) (hb : Below B w w') (hg : g < B) : Dic w' g A n c a x := ⟨h.1.below hb hg, h.2.1.below hb hg, h.2.2⟩
theorem Dic.kept {w w' : World} {g lo hi : Nat} {A : Option Addr} {n c : Nat} {a x : Int} (h : Dic w g A n c a x) (hk : Kept lo hi w w') (hg : g < w.heap.size) (hn : ¬ (lo ≤ g ∧ g < hi)) : Dic w' g A n c a x := ⟨h.1.kept hk hg hn, h.2.1.kept hk hg hn, h.2.2⟩
theorem Dic.set2 {w : World} {g : Nat} {A : Option Addr} {n c : Nat} {a x : Int} (h : Dic w g A n c a x) (y : Int) : Dic (w.setCell ⟨g, 2, none⟩ (.int .u64 y)) g A n c a y := by
  obtain ⟨⟨b0, b1, b2⟩, hf, a0, a1⟩ := h
  exact ⟨⟨by simp [b0, go_sem], by simp [b1, go_sem], by simp [b2, go_sem]⟩, hf.set_ _ _, a0, a1⟩
theorem Dic.set1 {w : World} {g : Nat} {A : Option Addr} {n c : Nat} {a x y : Int} (h : Dic w g A n c a x) (h0 : 0 ≤ y) (h1 : y ≤ n) : Dic (w.setCell ⟨g, 1, none⟩ (.int .i64 y)) g A n c y x := by
  obtain ⟨⟨b0, b1, b2⟩, hf, _, _⟩ := h
  exact ⟨⟨by simp [b0, go_sem], by simp [b1, go_sem], by simp [b2, go_sem]⟩, hf.set_ _ _, h0, h1⟩
theorem Dic.lt {w : World} {g : Nat} {A : Option Addr} {n c : Nat} {a x : Int} (h : Dic w g A n c a x) : g < w.heap.size := World.block_lt_of_cell? w _ h.1.1
theorem big_impl (A : Option Addr) (n c : Nat) (w : World) : Calls Tryd.prog 13 #[.slice A n c] w fun e w' => e = .returned (.bool (decide (4096 < (n : Int)))) ∧ w = w' := by
  by_cases h : (4096 : Int) < (n : Int)
  · have t0 : decide ((4096 : Int) < (n : Int)) = true := by simpa using h
    rw [t0]
    go_enter Tryd.func13, Tryd.ntmps13
    go_wp2
    go_ret
    exact ⟨by simp, rfl⟩
  · have t0 : decide ((4096 : Int) < (n : Int)) = false := by simpa using h
    rw [t0]
    go_enter Tryd.func13, Tryd.ntmps13
    go_wp2
    go_ret
    exact ⟨by simp, rfl⟩
/-- The dice made of a code. -/
def RollR (w : World) (A : Option Addr) (n c : Nat) (e : Ending) (w' : World) : Prop := ∃ g x, e = .returned (.pointer (some ⟨g, 0, none⟩)) ∧ Dic w' g A n c 0 x ∧ w.heap.size ≤ g ∧ g < w'.heap.size ∧ Below w.heap.size w w'

set_option maxRecDepth 100000 in
set_option maxHeartbeats 4000000 in
theorem roll_impl (A : Option Addr) (n c : Nat) (bs : List Int) (s : Int) (w : World) (h : Bys w w.heap.size A n bs) (hn : n ≤ 4096) :
    Calls Tryd.prog 14 #[.slice A n c, .int .u64 s] w (RollR w A n c) := by
  have H := Lib.hid h
  clear h
  go_enter Tryd.func14, Tryd.ntmps14
  go_wp2
  obtain ⟨x0, hx0⟩ : ∃ x0, IntKind.u64.wrap (IntKind.u64.wrap (s * 7919) + (n : Int)) = x0 := ⟨_, rfl⟩
  rw [hx0]
  clear hx0
  have K0 := Lib.hid (Box3.new w 42 (.slice A n c) (.int .i64 0) (.int .u64 x0))
  have F0 := Lib.hid (Free.new w 42 #[.slice A n c, .int .i64 0, .int .u64 x0])
  have D0 := Lib.hid (al1 w (Obj.cells #[.slice A n c, .int .i64 0, .int .u64 x0] 42))
  obtain ⟨W0, hW0⟩ : ∃ W0, W0 = w.alloc (Obj.cells #[.slice A n c, .int .i64 0, .int .u64 x0] 42) := ⟨_, rfl⟩
  have s0 : w.heap.size < W0.heap.size := by rw [hW0]; simp
  rw [← hW0] at K0 F0 D0
  rw [← hW0]
  have DC := Lib.hid (show Dic W0 w.heap.size A n c 0 x0 from ⟨K0.out, F0.out, by omega, by omega⟩)
  clear hW0 K0 F0
  obtain ⟨g, hg⟩ : ∃ g, w.heap.size = g := ⟨_, rfl⟩
  have HG := Lib.hid hg
  rw [hg] at DC D0 s0 H ⊢
  clear hg
  go_loopw [6] (fun i W => ∃ (k : Nat) (x : Int), k ≤ n ∧ i = .int .i64 k ∧ Dic W g A n c 0 x ∧ Below g w W ∧ g < W.heap.size) (fun i _ => n - (intOf i).toNat)
  case atStart => exact ⟨0, x0, Nat.zero_le _, rfl, DC.out, D0.out, s0⟩
  case round =>
    obtain ⟨k, x, hk, rfl, hd, hbel, hgl⟩ := hrel
    have DD := Lib.hid hd
    have D := Lib.hid hbel
    obtain ⟨⟨b0, b1, b2⟩, hfree, _, _⟩ := hd
    have f2 := hfree 2
    clear hfree hbel
    by_cases hlt : k < n
    · obtain ⟨b, off, z, rfl, hb, z0, z1, hc⟩ := (H.out.below D.out).at_z hlt
      have i1 : (k : Int) < (n : Int) := by omega
      have i2 : (0 : Int) ≤ (k : Int) := by omega
      have NE := Lib.hid (show ¬ b = g from by omega)
      go_wp2
      go_region
      all_goals
        go_wp2
        go_roundw
        case rel => exact ⟨k + 1, _, by omega, by go_num, DD.out.set2 _, (D.out.drew).setCell (Nat.le_refl _) _, by simpa using hgl⟩
        case measure => simp [intOf]; omega
    · obtain rfl : k = n := by omega
      have i1 : ¬ (k : Int) < (k : Int) := by omega
      go_wp2
      go_ret
      exact ⟨g, x, rfl, DD.out, Nat.le_of_eq HG.out, hgl, by rw [HG.out]; exact D.out⟩
theorem mask24 (y : Int) (h0 : 0 ≤ y) (h1 : y < 18446744073709551616) : 0 ≤ wrap64 (bits BinOp.and IntKind.u64 (y / 8589934592) 16777215) ∧ wrap64 (bits BinOp.and IntKind.u64 (y / 8589934592) 16777215) ≤ 16777215 := by
  have e : y / 8589934592 = (((y / 8589934592).toNat : Nat) : Int) := by omega
  have h := bits_and_u64_nat (y / 8589934592).toNat 16777215 (by omega) (by omega)
  have h2 : (y / 8589934592).toNat &&& 16777215 ≤ 16777215 := Nat.and_le_right
  rw [← e] at h
  have h3 : bits BinOp.and IntKind.u64 (y / 8589934592) 16777215 = (((y / 8589934592).toNat &&& 16777215 : Nat) : Int) := h
  rw [h3]
  have h4 : wrap64 (((y / 8589934592).toNat &&& 16777215 : Nat) : Int) = (((y / 8589934592).toNat &&& 16777215 : Nat) : Int) := by unfold wrap64; omega
  rw [h4]
  omega
theorem u64_lt (z : Int) : 0 ≤ IntKind.u64.wrap z ∧ IntKind.u64.wrap z < 18446744073709551616 := by
  rw [IntKind.wrap_u64]
  omega
/-- A number from 0 to m - 1, and the dice behind it. -/
def BelR (w : World) (g : Nat) (A : Option Addr) (n c : Nat) (m : Int) (e : Ending) (w' : World) : Prop :=
  ∃ v a x, e = .returned (.int .i64 v) ∧ 0 ≤ v ∧ v < m ∧ Dic w' g A n c a x ∧ Kept g (g + 1) w w'

set_option maxRecDepth 100000 in
set_option maxHeartbeats 8000000 in
theorem below_impl (g : Nat) (A : Option Addr) (n c : Nat) (bs : List Int) (m a x : Int) (w : World) (h : Bys w g A n bs) (hn : n ≤ 4096) (hs : Dic w g A n c a x) (m0 : 1 ≤ m) (m1 : m ≤ 1000000) :
    Calls Tryd.prog 15 #[.pointer (some ⟨g, 0, none⟩), .int .i64 m] w (BelR w g A n c m) := by
  have H := Lib.hid h
  have S := Lib.hid hs
  clear h
  obtain ⟨⟨b0, b1, b2⟩, hfree, a0, a1⟩ := hs
  have f0 := hfree
  unfold Free at f0
  clear hfree
  have gl := S.out.lt
  have mz : ¬ m = 0 := by omega
  have mz' : (m == 0) = false := by simp; omega
  have REM := Lib.hid (fun (t : Int) (ht : 0 ≤ t) => (⟨Int.emod_nonneg t (by omega), Int.emod_lt_of_pos t (by omega), Int.tmod_eq_emod_of_nonneg ht⟩ : 0 ≤ t % m ∧ t % m < m ∧ t.tmod m = t % m))
  go_enter Tryd.func15, Tryd.ntmps15
  go_upto_region 3 with fail
  have YB := u64_lt (IntKind.u64.wrap (x * 6364136223846793005) + 1442695040888963407)
  obtain ⟨y, hy⟩ : ∃ y, IntKind.u64.wrap (IntKind.u64.wrap (x * 6364136223846793005) + 1442695040888963407) = y := ⟨_, rfl⟩
  rw [hy] at YB
  rw [hy]
  have UB := mask24 y YB.1 YB.2
  obtain ⟨u, hu⟩ : ∃ u, wrap64 (bits BinOp.and IntKind.u64 (y / 8589934592) 16777215) = u := ⟨_, rfl⟩
  rw [hu] at UB
  rw [hu]
  obtain ⟨u0, u1⟩ := UB
  clear hy hu YB
  have S2 := Lib.hid (S.out.set2 y)
  have K2 := Lib.hid (kept_set (i := 2) (Kept.refl g (g + 1) w) (.int .u64 y))
  have H2 := Lib.hid (H.out.kept K2.out (Nat.le_refl _) (by omega))
  obtain ⟨W2, hW2⟩ : ∃ W2, W2 = w.setCell ⟨g, 2, none⟩ (.int .u64 y) := ⟨_, rfl⟩
  rw [← hW2] at S2 K2 H2
  rw [← hW2]
  clear hW2 b0 b1 b2 f0 S
  obtain ⟨k, rfl⟩ : ∃ k : Nat, a = k := ⟨a.toNat, by omega⟩
  have g2 := S2.out.lt
  obtain ⟨⟨b0, b1, b2⟩, hfree, _, _⟩ := S2.out
  have f0 := hfree
  unfold Free at f0
  clear hfree
  by_cases hlt : k < n
  case neg =>
    have t1 : ¬ (k : Int) < (n : Int) := by omega
    obtain ⟨v0, v1, v2⟩ := REM.out u u0
    obtain ⟨v, hv⟩ : ∃ v, u % m = v := ⟨_, rfl⟩
    rw [hv] at v0 v1 v2
    have ws5 : IntKind.i64.wrap v = v := IntWalk.i64_in _ (by omega)
    go_quiet (fail)
    all_goals
      go_wp2
      go_ret
      exact ⟨v, k, y, rfl, v0, v1, S2.out, K2.out.drewN _⟩
  have t1 : (k : Int) < (n : Int) := by omega
  have t0 : (0 : Int) ≤ (k : Int) := by omega
  obtain ⟨b, off, z, rfl, hb, z0, z1, hc⟩ := H2.out.at_z hlt
  have ws6 : IntKind.i64.wrap ((k : Int) + 1) = (k : Int) + 1 := IntWalk.i64_in _ (by omega)
  have ws7 : IntKind.i64.wrap (u + z) = u + z := IntWalk.i64_in _ (by omega)
  have ws8 : IntKind.i64.wrap z = z := IntWalk.i64_in _ (by omega)
  obtain ⟨v0, v1, v2⟩ := REM.out (u + z) (by omega)
  obtain ⟨v, hv⟩ : ∃ v, (u + z) % m = v := ⟨_, rfl⟩
  rw [hv] at v0 v1 v2
  have ws5 : IntKind.i64.wrap v = v := IntWalk.i64_in _ (by omega)
  have gb : ¬ b = g := by omega
  have gb' : ¬ g = b := by omega
  go_quiet (fail)
  go_wp2
  go_quiet (fail)
  go_wp2
  go_ret
  exact ⟨v, (k : Int) + 1, y, rfl, v0, v1, S2.out.set1 (by omega) (by omega), (by first | exact kept_set (kept_draws K2.out _) _ | exact kept_draws (kept_set (kept_draws K2.out _) _) _)⟩
end Go.Proofs.YtoegfldpadpohaaDoor
