/- Texts of one proof laid together. No condition but those that each theorem names. -/
import Derived.Test.YtjommpdblbbkdaaGrpA
import Derived.Test.YtjommpdblbbkdaaMatH
import Derived.Deep.RegionWith
import Derived.Test.YtjommpdblbbkdaaWdD
import Derived.Test.YtjommpdblbbkdaaTzV
import Derived.Deep.RegionHeld3
import Derived.Test.YtjommpdblbbkdaaSsD
import Derived.Test.YtjommpdblbbkdaaTzJ
import Derived.Test.YtjommpdblbbkdaaSsC
import Derived.Test.YtjommpdblbbkdaaTzKa
import Derived.Test.YtjommpdblbbkdaaMatC
import Derived.OpenShut
import Derived.ShutString
import Derived.ChangeOld
namespace Go.Proofs.Ytjommpdblbbkdaa
open Go.RowKit

/-- A slice of bytes that reads as a list of numbers. -/
def Bys (w : World) (B : Nat) (A : Option Addr) (n : Nat) (bs : List Int) : Prop :=
  bs.length = n ∧ (∀ j, j < n → 0 ≤ bs.getD j 0 ∧ bs.getD j 0 ≤ 255) ∧ (0 < n → ∃ b off, A = some ⟨b, off, none⟩ ∧ b < B ∧ ∀ j, j < n → w.cell? ⟨b, off + j, none⟩ = some (.int .u8 (bs.getD j 0)))
theorem Bys.at_z {w : World} {B : Nat} {A : Option Addr} {n : Nat} {bs : List Int} (h : Bys w B A n bs) {k : Nat} (hk : k < n) : ∃ b off z, A = some ⟨b, off, none⟩ ∧ b < B ∧ 0 ≤ z ∧ z ≤ 255 ∧ w.cell? ⟨b, off + k, none⟩ = some (.int .u8 z) := by
  obtain ⟨_, h2, h3⟩ := h
  obtain ⟨b, off, hA, hb, hc⟩ := h3 (by omega)
  exact ⟨b, off, _, hA, hb, (h2 k hk).1, (h2 k hk).2, hc k hk⟩
theorem Bys.keep {w w' : World} {B : Nat} {A : Option Addr} {n : Nat} {bs : List Int} (h : Bys w B A n bs) (hk : ∀ p : Addr, p.block < B → w'.cell? p = w.cell? p) : Bys w' B A n bs :=
  ⟨h.1, h.2.1, fun h0 => by
    obtain ⟨b, off, hA, hb, hc⟩ := h.2.2 h0
    exact ⟨b, off, hA, hb, fun j hj => (hk ⟨b, off + j, none⟩ hb).trans (hc j hj)⟩⟩
theorem Bys.more {w : World} {B B' : Nat} {A : Option Addr} {n : Nat} {bs : List Int} (h : Bys w B A n bs) (hB : B ≤ B') : Bys w B' A n bs :=
  ⟨h.1, h.2.1, fun h0 => by
    obtain ⟨b, off, hA, hb, hc⟩ := h.2.2 h0
    exact ⟨b, off, hA, by omega, hc⟩⟩
theorem Bys.below {w w' : World} {B : Nat} {A : Option Addr} {n : Nat} {bs : List Int} (h : Bys w B A n bs) (hb : Below B w w') : Bys w' B A n bs := h.keep fun _ hp => hb.cell hp
theorem Bys.into {w W : World} {A : Option Addr} {n : Nat} {bs : List Int} (h : Bys w w.heap.size A n bs) (hb : Below w.heap.size w W) : Bys W W.heap.size A n bs := (h.below hb).more hb.size
theorem Bys.kept {w w' : World} {B lo hi : Nat} {A : Option Addr} {n : Nat} {bs : List Int} (h : Bys w B A n bs) (hk : Kept lo hi w w') (hB : B ≤ lo) (hw : B ≤ w.heap.size) : Bys w' B A n bs := h.below (hk.below hB hw)

/-- The source: the code, the place, the state. -/
def Src (w : World) (g : Nat) (A : Option Addr) (n c : Nat) (a x : Int) : Prop := Box3 w g (.slice A n c) (.int .i64 a) (.int .i64 x) ∧ Free w g ∧ 0 ≤ a ∧ a ≤ n ∧ 0 ≤ x ∧ x < 2147483647
theorem Src.below {w w' : World} {g : Nat} {A : Option Addr} {n c : Nat} {a x : Int} {B : Nat} (h : Src w g A n c a x) (hb : Below B w w') (hg : g < B) : Src w' g A n c a x := ⟨h.1.below hb hg, h.2.1.below hb hg, h.2.2⟩
theorem Src.kept {w w' : World} {g lo hi : Nat} {A : Option Addr} {n c : Nat} {a x : Int} (h : Src w g A n c a x) (hk : Kept lo hi w w') (hg : g < w.heap.size) (hn : ¬ (lo ≤ g ∧ g < hi)) : Src w' g A n c a x := ⟨h.1.kept hk hg hn, h.2.1.kept hk hg hn, h.2.2⟩
theorem Free.set_ {w : World} {g : Nat} (h : Free w g) (p : Addr) (u : Value) : Free (w.setCell p u) g := fun o => by
  have := h o
  simp [this, go_sem]
theorem Src.set2 {w : World} {g : Nat} {A : Option Addr} {n c : Nat} {a x y : Int} (h : Src w g A n c a x) (h0 : 0 ≤ y) (h1 : y < 2147483647) : Src (w.setCell ⟨g, 2, none⟩ (.int .i64 y)) g A n c a y := by
  obtain ⟨⟨b0, b1, b2⟩, hf, a0, a1, _, _⟩ := h
  exact ⟨⟨by simp [b0, go_sem], by simp [b1, go_sem], by simp [b2, go_sem]⟩, hf.set_ _ _, a0, a1, h0, h1⟩
theorem Src.set1 {w : World} {g : Nat} {A : Option Addr} {n c : Nat} {a x y : Int} (h : Src w g A n c a x) (h0 : 0 ≤ y) (h1 : y ≤ n) : Src (w.setCell ⟨g, 1, none⟩ (.int .i64 y)) g A n c y x := by
  obtain ⟨⟨b0, b1, b2⟩, hf, _, _, x0, x1⟩ := h
  exact ⟨⟨by simp [b0, go_sem], by simp [b1, go_sem], by simp [b2, go_sem]⟩, hf.set_ _ _, h0, h1, x0, x1⟩
theorem Src.lt {w : World} {g : Nat} {A : Option Addr} {n c : Nat} {a x : Int} (h : Src w g A n c a x) : g < w.heap.size := World.block_lt_of_cell? w _ h.1.1
theorem rem_facts {y : Int} (h0 : 0 ≤ y) : 0 ≤ y % 2147483647 ∧ y % 2147483647 < 2147483647 ∧ y.tmod 2147483647 = y % 2147483647 := ⟨by omega, by omega, Int.tmod_eq_emod_of_nonneg h0⟩

/-- What the source is made of. -/
def FromR (w : World) (A : Option Addr) (n c : Nat) (e : Ending) (w' : World) : Prop := ∃ g x, e = .returned (.pointer (some ⟨g, 0, none⟩)) ∧ Src w' g A n c 0 x ∧ w.heap.size ≤ g ∧ g < w'.heap.size ∧ Below w.heap.size w w'

set_option maxRecDepth 100000 in
set_option maxHeartbeats 4000000 in
theorem from_spec (A : Option Addr) (n c : Nat) (bs : List Int) (w : World) (h : Bys w w.heap.size A n bs) (hn : n ≤ 1048576) :
    Calls Try.prog 27 #[.slice A n c] w (FromR w A n c) := by
  have H := Lib.hid h
  clear h
  have K0 := Lib.hid (Box3.new w 77 (.slice A n c) (.int .i64 0) (.int .i64 97531))
  have F0 := Lib.hid (Free.new w 77 #[.slice A n c, .int .i64 0, .int .i64 97531])
  have D0 := Lib.hid (al1 w (Obj.cells #[.slice A n c, .int .i64 0, .int .i64 97531] 77))
  go_enter Try.func27, Try.ntmps27
  go_wp2
  obtain ⟨W0, hW0⟩ : ∃ W0, W0 = w.alloc (Obj.cells #[.slice A n c, .int .i64 0, .int .i64 97531] 77) := ⟨_, rfl⟩
  have s0 : w.heap.size < W0.heap.size := by rw [hW0]; simp
  rw [← hW0] at K0 F0 D0
  rw [← hW0]
  clear hW0
  go_loopw [4] (fun y wr => ∃ (k : Nat) (x : Int), k ≤ n ∧ y = .int .i64 k ∧ Src wr w.heap.size A n c 0 x ∧ Below w.heap.size w wr ∧ w.heap.size < wr.heap.size) (fun y _ => n - (intOf y).toNat)
  case atStart => exact ⟨0, _, Nat.zero_le _, rfl, ⟨K0.out, F0.out, by omega, by omega, by omega, by omega⟩, D0.out, s0⟩
  case round =>
    obtain ⟨k, x, hk, rfl, ⟨⟨b0, b1, b2⟩, hfree, _, _, x0, x1⟩, hbel, hsz⟩ := hrel
    have HL := Lib.hid hbel
    have HF := Lib.hid hfree
    have HK := Lib.hid (show Box3 wr w.heap.size (.slice A n c) (.int .i64 0) (.int .i64 x) from ⟨b0, b1, b2⟩)
    have f0 := HF.out
    unfold Free at f0
    clear hbel hfree
    have t0 : (0 : Int) ≤ (k : Int) := by omega
    by_cases hlt : k < n
    · have t1 : (k : Int) < (n : Int) := by omega
      by_cases h64 : k < 64
      · have t2 : (k : Int) < 64 := by omega
        obtain ⟨b, off, z, rfl, hb, z0, z1, hc⟩ := (H.out.below HL.out).at_z hlt
        have q0 : 0 ≤ x * 37 + z := by omega
        obtain ⟨r0, r1, r2⟩ := rem_facts q0
        obtain ⟨y, hy⟩ : ∃ y, (x * 37 + z) % 2147483647 = y := ⟨_, rfl⟩
        rw [hy] at r0 r1 r2
        have ws1 : IntKind.i64.wrap (x * 37) = x * 37 := IntWalk.i64_in _ (by omega)
        have ws2 : IntKind.i64.wrap (x * 37 + z) = x * 37 + z := IntWalk.i64_in _ (by omega)
        have ws3 : IntKind.i64.wrap z = z := IntWalk.i64_in _ (by omega)
        have ws4 : IntKind.i64.wrap y = y := IntWalk.i64_in _ (by omega)
        go_wp2
        go_region
        all_goals
          go_wp2
          go_roundw
          case rel => exact ⟨k + 1, y, by omega, by go_num, Src.set2 (show Src wr w.heap.size _ n c 0 x from ⟨HK.out, HF.out, by omega, by omega, x0, x1⟩) r0 r1, (HL.out.setCell (Nat.le_refl _) _).drew, by simp [World.setCell]; omega⟩
          case measure => simp [intOf]; omega
      · have t2 : ¬ (k : Int) < 64 := by omega
        go_wp2
        go_ret
        exact ⟨_, x, rfl, ⟨HK.out, HF.out, by omega, by omega, by omega, by omega⟩, Nat.le_refl _, hsz, HL.out⟩
    · have t1 : ¬ (k : Int) < (n : Int) := by omega
      go_wp2
      go_ret
      exact ⟨_, x, rfl, ⟨HK.out, HF.out, by omega, by omega, by omega, by omega⟩, Nat.le_refl _, hsz, HL.out⟩

/-- A number from 0 to m - 1 (0, if m is 1 or less), and the source behind it. -/
def NextR (w : World) (g : Nat) (A : Option Addr) (n c : Nat) (m : Int) (e : Ending) (w' : World) : Prop :=
  ∃ v a x, e = .returned (.int .i64 v) ∧ 0 ≤ v ∧ (1 < m → v < m) ∧ (m ≤ 1 → v = 0) ∧ Src w' g A n c a x ∧ Kept g (g + 1) w w'
theorem kept_set {w w' : World} {g i : Nat} (h : Kept g (g + 1) w w') (u : Value) : Kept g (g + 1) w (w'.setCell ⟨g, i, none⟩ u) := h.set_ (Nat.le_refl _) (by simp) u
theorem kept_draws {w w' : World} {g : Nat} (h : Kept g (g + 1) w w') (k : Nat) : Kept g (g + 1) w (w'.drewN k) := h.drewN k

set_option maxRecDepth 100000 in
set_option maxHeartbeats 8000000 in
theorem next_spec (g : Nat) (A : Option Addr) (n c : Nat) (bs : List Int) (m a x : Int) (w : World) (h : Bys w g A n bs) (hn : n ≤ 1048576) (hs : Src w g A n c a x) (m0 : -1000000 ≤ m) (m1 : m ≤ 1000000) :
    Calls Try.prog 51 #[.pointer (some ⟨g, 0, none⟩), .int .i64 m] w (NextR w g A n c m) := by
  have H := Lib.hid h
  have S := Lib.hid hs
  clear h
  by_cases hm : m ≤ 1
  · clear hs
    go_enter Try.func51, Try.ntmps51
    go_wp2
    go_ret
    exact ⟨0, a, x, rfl, by omega, fun h => by omega, fun _ => rfl, S.out, Kept.refl _ _ _⟩
  obtain ⟨⟨b0, b1, b2⟩, hfree, a0, a1, x0, x1⟩ := hs
  have f0 := hfree
  unfold Free at f0
  clear hfree
  have gl := S.out.lt
  have q0 : 0 ≤ x * 48271 + 11 := by omega
  obtain ⟨r0, r1, r2⟩ := rem_facts q0
  obtain ⟨y, hy⟩ : ∃ y, (x * 48271 + 11) % 2147483647 = y := ⟨_, rfl⟩
  rw [hy] at r0 r1 r2
  have ws1 : IntKind.i64.wrap (x * 48271) = x * 48271 := IntWalk.i64_in _ (by omega)
  have ws2 : IntKind.i64.wrap (x * 48271 + 11) = x * 48271 + 11 := IntWalk.i64_in _ (by omega)
  have ws4 : IntKind.i64.wrap y = y := IntWalk.i64_in _ (by omega)
  obtain ⟨u, hu⟩ : ∃ u, y / 11 = u := ⟨_, rfl⟩
  have d1 : y.tdiv 11 = u := by rw [Int.tdiv_eq_ediv_of_nonneg r0]; exact hu
  have u0 : 0 ≤ u ∧ u ≤ 200000000 := by omega
  have HU := Lib.hid hu
  have HY := Lib.hid hy
  obtain ⟨u0, u1⟩ := u0
  have S2 := Lib.hid (S.out.set2 r0 r1)
  have K2 := Lib.hid (kept_set (i := 2) (Kept.refl g (g + 1) w) (.int .i64 y))
  have H2 := Lib.hid (H.out.kept K2.out (Nat.le_refl _) (by omega))
  go_enter Try.func51, Try.ntmps51
  go_wp2
  obtain ⟨W2, hW2⟩ : ∃ W2, W2 = w.setCell ⟨g, 2, none⟩ (.int .i64 y) := ⟨_, rfl⟩
  rw [← hW2] at S2 K2 H2
  rw [← hW2]
  clear hW2 b0 b1 b2 f0 S
  obtain ⟨k, rfl⟩ : ∃ k : Nat, a = k := ⟨a.toNat, by omega⟩
  have mm : 1 < m := by omega
  have mz : ¬ m = 0 := by omega
  have mz' : (m == 0) = false := by simp; omega
  have REM := Lib.hid (fun (t : Int) (ht : 0 ≤ t) => (⟨Int.emod_nonneg t (by omega), Int.emod_lt_of_pos t (by omega), Int.tmod_eq_emod_of_nonneg ht⟩ : 0 ≤ t % m ∧ t % m < m ∧ t.tmod m = t % m))
  have g2 := S2.out.lt
  obtain ⟨⟨b0, b1, b2⟩, hfree, _, _, _, _⟩ := S2.out
  have f0 := hfree
  unfold Free at f0
  clear hfree
  by_cases hlt : k < n
  case neg =>
    have t1 : ¬ (k : Int) < (n : Int) := by omega
    obtain ⟨v0, v1, v2⟩ := REM.out u u0
    obtain ⟨v, hv⟩ : ∃ v, u % m = v := ⟨_, rfl⟩
    rw [hv] at v0 v1 v2
    have ws5 : IntKind.i64.wrap v = v := IntWalk.i64_in _ (by omega)
    go_quiet (fail)
    all_goals
      go_wp2
      go_ret
      exact ⟨v, k, y, rfl, v0, fun _ => v1, fun h => absurd mm (by omega), S2.out, K2.out.drewN _⟩
  have t1 : (k : Int) < (n : Int) := by omega
  have t0 : (0 : Int) ≤ (k : Int) := by omega
  obtain ⟨b, off, z, rfl, hb, z0, z1, hc⟩ := H2.out.at_z hlt
  have ws6 : IntKind.i64.wrap ((k : Int) + 1) = (k : Int) + 1 := IntWalk.i64_in _ (by omega)
  have ws7 : IntKind.i64.wrap (u + z) = u + z := IntWalk.i64_in _ (by omega)
  have ws8 : IntKind.i64.wrap z = z := IntWalk.i64_in _ (by omega)
  have ws9 : IntKind.i64.wrap (((k : Int) + 1) % 2) = ((k : Int) + 1) % 2 := IntWalk.i64_in _ (by omega)
  have ws10 : IntKind.i64.wrap (k : Int) = (k : Int) := IntWalk.i64_in _ (by omega)
  have gb : ¬ b = g := by omega
  have gb' : ¬ g = b := by omega
  have t3 : (0 : Int) ≤ (k : Int) + 1 := by omega
  by_cases hc2 : m ≤ 256 ∧ ((k : Int) + 1) % 2 = 0
  · obtain ⟨p1, p2⟩ := hc2
    have p3 : (((k : Int) + 1) % 2 == 0) = true := by rw [p2]; rfl
    have p4 : (((k : Int) + 1).tmod 2 == 0) = true := by rw [Int.tmod_eq_emod_of_nonneg t3]; exact p3
    obtain ⟨v0, v1, v2⟩ := REM.out z z0
    obtain ⟨v, hv⟩ : ∃ v, z % m = v := ⟨_, rfl⟩
    rw [hv] at v0 v1 v2
    have ws5 : IntKind.i64.wrap v = v := IntWalk.i64_in _ (by omega)
    clear p2
    go_quiet (fail)
    go_wp2
    go_quiet (fail)
    go_wp2
    go_quiet (fail)
    go_wp2
    go_ret
    exact ⟨v, (k : Int) + 1, y, rfl, v0, fun _ => v1, fun h => absurd mm (by omega), S2.out.set1 (by omega) (by omega), (by first | exact kept_set (kept_draws K2.out _) _ | exact kept_draws (kept_set (kept_draws K2.out _) _) _)⟩
  · obtain ⟨v0, v1, v2⟩ := REM.out (u + z) (by omega)
    obtain ⟨v, hv⟩ : ∃ v, (u + z) % m = v := ⟨_, rfl⟩
    rw [hv] at v0 v1 v2
    have ws5 : IntKind.i64.wrap v = v := IntWalk.i64_in _ (by omega)
    have uz : 0 ≤ u + z := by omega
    by_cases hp : m ≤ 256
    · have p2 : ¬ ((k : Int) + 1) % 2 = 0 := fun e => hc2 ⟨hp, e⟩
      have p3 : (((k : Int) + 1) % 2 == 0) = false := by simpa using p2
      have p4 : (((k : Int) + 1).tmod 2 == 0) = false := by rw [Int.tmod_eq_emod_of_nonneg t3]; exact p3
      clear p2 hc2
      go_quiet (fail)
      go_wp2
      go_quiet (fail)
      go_wp2
      go_ret
      exact ⟨v, (k : Int) + 1, y, rfl, v0, fun _ => v1, fun h => absurd mm (by omega), S2.out.set1 (by omega) (by omega), (by first | exact kept_set (kept_draws K2.out _) _ | exact kept_draws (kept_set (kept_draws K2.out _) _) _)⟩
    · clear hc2
      go_quiet (fail)
      go_wp2
      go_quiet (fail)
      go_wp2
      go_ret
      exact ⟨v, (k : Int) + 1, y, rfl, v0, fun _ => v1, fun h => absurd mm (by omega), S2.out.set1 (by omega) (by omega), (by first | exact kept_set (kept_draws K2.out _) _ | exact kept_draws (kept_set (kept_draws K2.out _) _) _)⟩
end Go.Proofs.Ytjommpdblbbkdaa

namespace Go.Proofs.Ytjommpdblbbkdaa
open Go.RowKit

set_option maxHeartbeats 400000 in
theorem Wd.big_no (A : Option Addr) (n c : Nat) (w : World) (hn : n ≤ 4096) : Calls Try.prog 6 #[.slice A n c] w fun e w' => e = .returned (.bool false) ∧ w = w' := by
  have t : ¬ (4096 : Int) < (n : Int) := by omega
  go_enter Try.func6, Try.ntmps6
  go_wp2
  go_ret
  exact ⟨rfl, rfl⟩
set_option maxHeartbeats 400000 in
theorem Wd.big_yes (A : Option Addr) (n c : Nat) (w : World) (hn : ¬ n ≤ 4096) : Calls Try.prog 6 #[.slice A n c] w fun e w' => e = .returned (.bool true) ∧ w = w' := by
  have t : (4096 : Int) < (n : Int) := by omega
  go_enter Try.func6, Try.ntmps6
  go_wp2
  go_ret
  exact ⟨rfl, rfl⟩

set_option maxHeartbeats 2000000 in
theorem Wd.likeInts_any (A A' : Option Addr) (n c c' : Nat) (zs : List Int) (B B' : Nat) (w : World) (h : Ints w B A n zs) (h' : Ints w B' A' n zs) (hn : n ≤ 1048576) :
    Calls Try.prog 11 #[.slice A n c, .slice A' n c'] w fun e w' => e = .returned (.bool true) ∧ Below w.heap.size w w' := by
  have H := Lib.hid h
  have H' := Lib.hid h'
  clear h h'
  go_enter Try.func11, Try.ntmps11
  go_wp2
  go_loopw [5] (fun x wr => ∃ k m : Nat, k ≤ n ∧ x = .int .i64 k ∧ wr = w.drewN m) (fun x _ => n - (intOf x).toNat)
  case atStart => exact ⟨0, 0, Nat.zero_le _, rfl, rfl⟩
  case round =>
    obtain ⟨k, m, hk, rfl, rfl⟩ := hrel
    by_cases hlt : k < n
    · obtain ⟨b, off, x, rfl, hb, hx, hc⟩ := H.out.at_z hlt
      obtain ⟨b', off', y, rfl, hb', hy, hc'⟩ := H'.out.at_z hlt
      obtain rfl : x = y := hx.symm.trans hy
      have i0 : (0 : Int) ≤ (k : Int) := by omega
      have i1 : (k : Int) < (n : Int) := by omega
      clear hx hy
      go_wp2
      go_quiet (fail)
      all_goals
        go_wp2
        go_roundw
        case rel => exact ⟨k + 1, _, by omega, by go_num, rfl⟩
        case measure => simp [intOf]; omega
    · obtain rfl : n = k := by omega
      have i1 : ¬ (n : Int) < (n : Int) := by omega
      go_wp2
      go_ret
      exact ⟨rfl, Go.Joins.below_draws _ _ _⟩

theorem Wd.kept_new {g lo hi : Nat} {w a b : World} (h : Kept g (g + 1) w a) (h2 : Kept lo hi a b) (hlo : w.heap.size ≤ lo) : Kept g (g + 1) w b :=
  ⟨h2.os.trans h.os, h2.tape.trans h.tape, h2.output.trans h.output, Nat.le_trans h.size h2.size, fun k hk hn => (h2.block k (Nat.lt_of_lt_of_le hk h.size) (by omega)).trans (h.block k hk hn)⟩
theorem Wd.kept_al {g : Nat} {w a : World} (h : Kept g (g + 1) w a) (o : Obj) : Kept g (g + 1) w (a.alloc o) := h.alloc o
/-- A list that was drawn, in new memory, and the source behind it. -/
def DrawW (w : World) (g : Nat) (A : Option Addr) (n c : Nat) (most bd : Int) (e : Ending) (w' : World) : Prop :=
  ∃ R t m zs a x, e = .returned (.slice R m t) ∧ Own w' w.heap.size w'.heap.size R m t zs ∧ (m : Int) ≤ most ∧ (∀ y ∈ zs, -bd ≤ y ∧ y ≤ bd) ∧ Src w' g A n c a x ∧ Kept g (g + 1) w w'
/-- The state in which a word is drawn. -/
def DrwS (w : World) (g : Nat) (A : Option Addr) (n c : Nat) (most bd : Int) (j : Int) (out : Value) (W : World) : Prop :=
  ∃ R t m zs a x, out = .slice R m t ∧ Own W w.heap.size W.heap.size R m t zs ∧ 0 ≤ j ∧ (m : Int) + j ≤ most ∧ (∀ y ∈ zs, -bd ≤ y ∧ y ≤ bd) ∧ Src W g A n c a x ∧ Kept g (g + 1) w W

set_option maxRecDepth 100000 in
set_option maxHeartbeats 16000000 in
theorem drawWord_spec (g : Nat) (A : Option Addr) (n c : Nat) (bs : List Int) (a x : Int) (gens most : Int) (w : World) (h : Bys w g A n bs) (hn : n ≤ 1048576) (hs : Src w g A n c a x) (hg0 : 0 ≤ gens) (hg1 : gens ≤ 1000) (hm0 : 0 ≤ most) (hm1 : most ≤ 1000) :
    Calls Try.prog 62 #[.pointer (some ⟨g, 0, none⟩), .int .i64 gens, .int .i64 most] w (DrawW w g A n c most gens) := by
  have gl := hs.lt
  have BY := Lib.hid (fun (W : World) (hk : Kept g (g + 1) w W) => h.kept hk (Nat.le_refl _) (by omega))
  have S0 := Lib.hid (hs.below (al1 w (Obj.cells #[] 2)) gl)
  have K0 := Lib.hid (Kept.of_below (al1 w (Obj.cells #[] 2)) g (g + 1))
  have O0 := Lib.hid (Wd.own_nil w)
  clear h hs
  go_enter Try.func62, Try.ntmps62
  go_wp2_with fail
  refine (next_spec g A n c bs (most + 1) a x _ (BY.out _ K0.out) hn S0.out (by omega) (by omega)).mono ?_
  rintro e w2 ⟨v, a2, x2, rfl, v0, v1, v2, hs2, hk2⟩
  have vm : v ≤ most := by
    rcases Int.lt_or_le 1 (most + 1) with h | h
    · have := v1 h; omega
    · have := v2 h; omega
  have ST := Lib.hid (show DrwS w g A n c most gens v (.slice (some ⟨w.heap.size, 0, none⟩) 0 0) w2 from
    ⟨_, _, 0, [], a2, x2, rfl, (O0.out.kept hk2 (by simp) (.inr (by omega))).wide (Nat.le_refl _) (by have := hk2.size; simp at this; omega), v0, by simpa using vm, by simp, hs2, K0.out.trans hk2⟩)
  clear v1 v2 hs2 hk2 S0 K0 O0
  go_wp2_with fail
  go_loopw [8, 7] (fun j out W => ∃ i : Int, j = .int .i64 i ∧ DrwS w g A n c most gens i out W) (fun j _ _ => (intOf j).toNat)
  case atStart => exact ⟨v, rfl, ST.out⟩
  case round =>
    obtain ⟨i, rfl, R, t, m, zs, a1, x1, rfl, ho, i0, im, hbd, hs1, hk1⟩ := hrel
    have O := Lib.hid ho
    have K := Lib.hid hk1
    have BD := Lib.hid hbd
    have hsz : w.heap.size ≤ wr.heap.size := hk1.size
    clear ho hk1 hbd ST vm
    by_cases hlt : 0 < i
    · by_cases hgen : 0 < gens
      · go_wp2_with fail
        refine (next_spec g A n c bs gens a1 x1 _ (BY.out _ K.out) hn hs1 (by omega) (by omega)).mono ?_
        rintro e w3 ⟨y, a3, x3, rfl, y0, y1, y2, hs3, hk3⟩
        have yg : y < gens := by
          rcases Int.lt_or_le 1 gens with h | h
          · exact y1 h
          · have := y2 h; omega
        have K3 := Lib.hid (K.out.trans hk3)
        have z3 : wr.heap.size ≤ w3.heap.size := hk3.size
        have O3 := Lib.hid ((O.out.kept hk3 (Nat.le_refl _) (.inr (by omega))).wide (Nat.le_refl _) z3)
        clear y1 y2 hs1 hk3 K O
        have wy : IntKind.i64.wrap (1 + y) = 1 + y := IntWalk.i64_in _ (by omega)
        go_wp2_with fail
        refine (next_spec g A n c bs 2 a3 x3 _ (BY.out _ K3.out) hn hs3 (by omega) (by omega)).mono ?_
        rintro e w4 ⟨q, a4, x4, rfl, q0, q1, _, hs4, hk4⟩
        have K4 := Lib.hid (K3.out.trans hk4)
        have z4 : w3.heap.size ≤ w4.heap.size := hk4.size
        have O4 := Lib.hid ((O3.out.kept hk4 (Nat.le_refl _) (.inr (by omega))).wide (Nat.le_refl _) z4)
        have S4 := Lib.hid hs4
        have wn : IntKind.i64.wrap (-(1 + y)) = -(1 + y) := IntWalk.i64_in _ (by omega)
        have wi : IntKind.i64.wrap (i - 1) = i - 1 := IntWalk.i64_in _ (by omega)
        clear hs3 hs4 hk4 K3 O3 q1
        have FIN := Lib.hid (fun (z : Int) (hz : -gens ≤ z ∧ z ≤ gens) (A7 : Option Addr) (c7 : Nat) (w7 : World) (h5 : Own w7 w.heap.size w7.heap.size A7 (m + 1) c7 (zs ++ [z])) (h6 : Kept w.heap.size w4.heap.size (w4.alloc (Obj.cells #[.int .i64 z] 2)) w7) =>
          (show DrwS w g A n c most gens (i - 1) (.slice A7 (m + 1) c7) w7 from ⟨A7, c7, m + 1, _, a4, x4, rfl, h5, by omega, by simp; omega, fun u hu => (List.mem_append.1 hu).elim (BD.out u) (fun hu => by simp at hu; subst hu; exact hz),
            (S4.out.below (al1 w4 _) S4.out.lt).kept h6 (by have := S4.out.lt; simp; omega) (by omega), Wd.kept_new (K4.out.alloc _) h6 (Nat.le_refl _)⟩))
        by_cases hq : q = 0
        · have tq : (q == (0 : Int)) = true := by simpa using hq
          have F := Lib.hid (FIN.out (-(1 + y)) (by omega))
          clear FIN hq
          go_wp2_with (at_builtin; refine Wd.push_int rfl _ _ rfl w.heap.size w4.heap.size t w4.heap.size m R _ (-(1 + y)) rfl (by exact O4.out.below (al1 w4 _) (Nat.le_refl _)) rfl (by exact Wd.alloc_first _ _ _ _ rfl) (by simp; omega) (by omega) ?_; intro A7 c7 w7 h5 h6; have F7 := Lib.hid (F.out A7 c7 w7 h5 h6); clear h5 h6)
          go_roundw
          case rel => exact ⟨i - 1, rfl, F7.out⟩
          case measure => simp [intOf]; omega
        · have tq : (q == (0 : Int)) = false := by simpa using hq
          have F := Lib.hid (FIN.out (1 + y) (by omega))
          clear FIN hq
          go_wp2_with (at_builtin; refine Wd.push_int rfl _ _ rfl w.heap.size w4.heap.size t w4.heap.size m R _ (1 + y) rfl (by exact O4.out.below (al1 w4 _) (Nat.le_refl _)) rfl (by exact Wd.alloc_first _ _ _ _ rfl) (by simp; omega) (by omega) ?_; intro A7 c7 w7 h5 h6; have F7 := Lib.hid (F.out A7 c7 w7 h5 h6); clear h5 h6)
          go_roundw
          case rel => exact ⟨i - 1, rfl, F7.out⟩
          case measure => simp [intOf]; omega
      · go_wp2
        go_ret
        exact ⟨_, _, _, _, _, _, rfl, O.out, by omega, BD.out, hs1, K.out⟩
    · go_wp2
      go_ret
      exact ⟨_, _, _, _, _, _, rfl, O.out, by omega, BD.out, hs1, K.out⟩

end Go.Proofs.Ytjommpdblbbkdaa

namespace Go.Proofs.Ytjommpdblbbkdaa
open Go.RowKit

/-- The first number of n from s on for which c says yes. -/
def scanG (c : Int → Bool) : Nat → Int → Option Int
  | 0, _ => none
  | n + 1, s => if c s = true then some s else scanG c n (s + 1)
theorem scanG_hit {c : Int → Bool} : ∀ (n : Nat) (s g : Int), (∀ x, s ≤ x → x < g → c x = false) → c g = true → s ≤ g → g < s + n → scanG c n s = some g
  | 0, s, g, _, _, h1, h2 => by omega
  | n + 1, s, g, h, hg, h1, h2 => by
    unfold scanG
    by_cases e : s = g
    · subst e; rw [if_pos hg]
    · rw [if_neg (by rw [h s (Int.le_refl _) (by omega)]; simp)]
      exact scanG_hit n (s + 1) g (fun x hx1 hx2 => h x (by omega) hx2) hg (by omega) (by omega)
theorem scanG_miss {c : Int → Bool} : ∀ (n : Nat) (s : Int), (∀ x, s ≤ x → x < s + n → c x = false) → scanG c n s = none
  | 0, _, _ => rfl
  | n + 1, s, h => by
    unfold scanG
    rw [if_neg (by rw [h s (Int.le_refl _) (by omega)]; simp)]
    exact scanG_miss n (s + 1) (fun x hx1 hx2 => h x (by omega) (by omega))
theorem scanG_some {c : Int → Bool} : ∀ (n : Nat) (s g : Int), scanG c n s = some g → c g = true ∧ s ≤ g ∧ g < s + n
  | 0, _, _, h => by cases h
  | n + 1, s, g, h => by
    unfold scanG at h
    split at h
    · rename_i hc
      cases h
      exact ⟨hc, Int.le_refl _, by omega⟩
    · have := scanG_some n (s + 1) g h
      exact ⟨this.1, by omega, by omega⟩
theorem scanG_none {c : Int → Bool} : ∀ (n : Nat) (s : Int), scanG c n s = none → ∀ x, s ≤ x → x < s + n → c x = false
  | 0, _, _, x, h1, h2 => by omega
  | n + 1, s, h, x, h1, h2 => by
    unfold scanG at h
    split at h
    · cases h
    · rename_i hc
      by_cases e : x = s
      · subst e; simpa using hc
      · exact scanG_none n (s + 1) h x (by omega) (by omega)

/-- Whether the removal of j by the relator i succeeds. -/
def remOk (r : Int) (zss : List (List Int)) (i j : Int) : Bool := decide ((applied r zss 5 i j []).2.2 = 0)
def hasRem (r : Int) (zss : List (List Int)) (i : Int) : Bool := (scanG (remOk r zss i) r.toNat 1).isSome
def isEmptyAt (zss : List (List Int)) (i : Int) : Bool := decide (zss.getD i.toNat [] = [])
/-- One step of a simplification: the presentation behind it, and the move. -/
def simpStep (r : Int) (zss : List (List Int)) : Option ((Int × List (List Int)) × (Int × Int × Int)) :=
  match scanG (isEmptyAt zss) zss.length 0 with
  | some i => some ((r, zss.eraseIdx i.toNat), (4, i, 0))
  | none =>
    match scanG (hasRem r zss) zss.length 0 with
    | some i =>
      match scanG (remOk r zss i) r.toNat 1 with
      | some j => some (((applied r zss 5 i j []).1, (applied r zss 5 i j []).2.1), (5, i, j))
      | none => none
    | none => none

theorem Wd.isP_erase {r : Int} {zss : List (List Int)} (h : Wd.isP r zss = true) (i : Nat) : Wd.isP r (zss.eraseIdx i) = true := by
  obtain ⟨h1, h2, h3, h4⟩ := Wd.isP_iff.1 h
  exact Wd.isP_iff.2 ⟨h1, h2, by have := List.length_eraseIdx_le zss i; omega, fun z hz => h4 z (List.mem_of_mem_eraseIdx hz)⟩
theorem applied_isP {r : Int} {zss : List (List Int)} {K I J : Int} {ws : List Int} (h : (applied r zss K I J ws).2.2 = 0) : Wd.isP (applied r zss K I J ws).1 (applied r zss K I J ws).2.1 = true := by
  have key : ∀ b r2 chg, (fin b r2 chg).2.2 = 0 → Wd.isP (fin b r2 chg).1 (fin b r2 chg).2.1 = true := fun b r2 chg h => by
    unfold fin at h ⊢
    split at h
    · rename_i hb; exact absurd h hb
    · rename_i hb
      rw [if_neg hb]
      split at h
      · rename_i hp; rw [if_pos hp]; exact hp
      · simp at h
  unfold applied at h ⊢
  split at h
  · simp at h
  · rename_i h1
    rw [if_neg h1]
    split at h
    · simp at h
    · rename_i h2
      rw [if_neg h2]
      exact key _ _ _ h
theorem applied_drop_ok {r : Int} {zss : List (List Int)} {i : Nat} {J : Int} (h : Wd.isP r zss = true) (hi : i < zss.length) (he : zss.getD i [] = []) : applied r zss 4 i J [] = (r, zss.eraseIdx i, 0) := by
  have e1 : mvCode r zss 4 i J [] = 0 := by
    unfold mvCode
    rw [if_neg (fun h2 => by rcases missing_iff.1 h2 with h3 | h3 | h3 <;> omega), if_neg (by omega), if_neg (by unfold possible; rw [if_neg (by omega), if_pos rfl, Int.toNat_natCast, he]; simp)]
  have e2 : mvGen r 4 = r := by unfold mvGen; rw [if_neg (by omega), if_neg (by omega)]
  have e3 : mvChg r zss 4 i J [] = zss.eraseIdx i := by unfold mvChg; rw [if_neg (by omega), if_neg (by omega), if_neg (by omega), if_pos rfl, Int.toNat_natCast]
  have e4 : (zss.eraseIdx i).map Wd.rd = zss.eraseIdx i := map_same (Wd.rd_rows (Wd.isP_erase h i))
  unfold applied
  rw [if_neg (by simp [h]), if_neg (by omega), e1, e2, e3]
  unfold fin
  rw [if_neg (by omega), e4, if_pos (Wd.isP_erase h i)]
theorem applied_drop_no {r : Int} {zss : List (List Int)} {i : Nat} {J : Int} (h : Wd.isP r zss = true) (hi : i < zss.length) (he : zss.getD i [] ≠ []) : applied r zss 4 i J [] = (0, [], 5) := by
  have e1 : mvCode r zss 4 i J [] = 5 := by
    unfold mvCode
    rw [if_neg (fun h2 => by rcases missing_iff.1 h2 with h3 | h3 | h3 <;> omega), if_neg (by omega), if_pos (by unfold possible; rw [if_neg (by omega), if_pos rfl, Int.toNat_natCast]; simpa using he)]
  unfold applied
  rw [if_neg (by simp [h]), if_neg (by omega), e1]
  unfold fin
  rw [if_pos (by omega)]

theorem simpStep_drop {r : Int} {zss : List (List Int)} {i : Nat} (hi : i < zss.length) (hlt : ∀ k, k < i → zss.getD k [] ≠ []) (he : zss.getD i [] = []) : simpStep r zss = some ((r, zss.eraseIdx i), (4, (i : Int), 0)) := by
  unfold simpStep
  rw [scanG_hit (c := isEmptyAt zss) zss.length 0 i (fun x h1 h2 => by unfold isEmptyAt; have := hlt x.toNat (by omega); simpa using this) (by unfold isEmptyAt; rw [Int.toNat_natCast]; simpa using he) (by omega) (by omega)]
  simp
theorem noEmpty {zss : List (List Int)} (h : ∀ k, k < zss.length → zss.getD k [] ≠ []) : scanG (isEmptyAt zss) zss.length 0 = none :=
  scanG_miss _ _ fun x h1 h2 => by unfold isEmptyAt; have := h x.toNat (by omega); simpa using this
theorem noRem {r : Int} {zss : List (List Int)} {i : Int} (h0 : 0 ≤ r) (h : ∀ j, 1 ≤ j → j ≤ r → (applied r zss 5 i j []).2.2 ≠ 0) : hasRem r zss i = false := by
  unfold hasRem
  rw [scanG_miss _ _ fun x h1 h2 => by unfold remOk; have := h x h1 (by omega); simpa using this]
  rfl
theorem simpStep_rem {r : Int} {zss : List (List Int)} {i j : Int} (h0 : 0 ≤ r) (hne : ∀ k, k < zss.length → zss.getD k [] ≠ []) (hi0 : 0 ≤ i) (hi : i < zss.length) (hj1 : 1 ≤ j) (hj : j ≤ r)
    (hout : ∀ i', 0 ≤ i' → i' < i → ∀ j', 1 ≤ j' → j' ≤ r → (applied r zss 5 i' j' []).2.2 ≠ 0) (hin : ∀ j', 1 ≤ j' → j' < j → (applied r zss 5 i j' []).2.2 ≠ 0) (h : (applied r zss 5 i j []).2.2 = 0) :
    simpStep r zss = some (((applied r zss 5 i j []).1, (applied r zss 5 i j []).2.1), (5, i, j)) := by
  have hj2 : scanG (remOk r zss i) r.toNat 1 = some j := scanG_hit _ _ _ (fun x h1 h2 => by unfold remOk; simpa using hin x h1 h2) (by unfold remOk; simpa using h) hj1 (by omega)
  unfold simpStep
  rw [noEmpty hne, scanG_hit (c := hasRem r zss) zss.length 0 i (fun x h1 h2 => noRem h0 (hout x h1 h2)) (by unfold hasRem; rw [hj2]; rfl) hi0 (by omega)]
  simp only [hj2]
theorem simpStep_none {r : Int} {zss : List (List Int)} (h0 : 0 ≤ r) (hne : ∀ k, k < zss.length → zss.getD k [] ≠ [])
    (hout : ∀ i', 0 ≤ i' → i' < (zss.length : Int) → ∀ j', 1 ≤ j' → j' ≤ r → (applied r zss 5 i' j' []).2.2 ≠ 0) : simpStep r zss = none := by
  unfold simpStep
  rw [noEmpty hne, scanG_miss (c := hasRem r zss) _ _ fun x h1 h2 => noRem h0 (hout x h1 (by omega))]
/-- What a step has done. -/
theorem simpStep_some {r r2 : Int} {zss z2 : List (List Int)} {K I J : Int} (h : Wd.isP r zss = true) (hs : simpStep r zss = some ((r2, z2), (K, I, J))) : applied r zss K I J [] = (r2, z2, 0) ∧ Wd.isP r2 z2 = true ∧ r2 ≤ r ∧ ((K = 4 ∧ r2 = r) ∨ K = 5) := by
  unfold simpStep at hs
  split at hs
  · rename_i i he
    obtain ⟨h1, h2, h3⟩ := scanG_some _ _ _ he
    simp only [Option.some.injEq, Prod.mk.injEq] at hs
    obtain ⟨⟨rfl, rfl⟩, rfl, rfl, rfl⟩ := hs
    obtain ⟨k, rfl⟩ : ∃ k : Nat, i = k := ⟨i.toNat, by omega⟩
    rw [Int.toNat_natCast]
    exact ⟨applied_drop_ok h (by omega) (by unfold isEmptyAt at h1; rw [Int.toNat_natCast] at h1; simpa using h1), Wd.isP_erase h k, Int.le_refl _, .inl ⟨rfl, rfl⟩⟩
  · split at hs
    · split at hs
      · rename_i i he x j hj
        obtain ⟨h1, h2, h3⟩ := scanG_some _ _ _ hj
        simp only [Option.some.injEq, Prod.mk.injEq] at hs
        obtain ⟨⟨rfl, rfl⟩, rfl, rfl, rfl⟩ := hs
        have h4 : (applied r zss 5 i j []).2.2 = 0 := by unfold remOk at h1; simpa using h1
        refine ⟨by rw [← h4], applied_isP h4, ?_, .inr rfl⟩
        have key : ∀ b chg, (fin b (r - 1) chg).2.2 = 0 → (fin b (r - 1) chg).1 ≤ r := fun b chg h => by
          unfold fin at h ⊢
          split at h
          · rename_i hb; exact absurd h hb
          · rename_i hb
            rw [if_neg hb]
            split at h
            · rename_i hp; rw [if_pos hp]; show r - 1 ≤ r; omega
            · simp at h
        have e : applied r zss 5 i j [] = fin (mvCode r zss 5 i j []) (r - 1) (mvChg r zss 5 i j []) := by
          unfold applied
          rw [if_neg (by simp [h]), if_neg (by omega)]
          rfl
        rw [e] at h4 ⊢
        exact key _ _ h4
      · cases hs
    · cases hs
theorem simpStep_end {r : Int} {zss : List (List Int)} (hs : simpStep r zss = none) : (∀ k, k < zss.length → zss.getD k [] ≠ []) ∧ ∀ i, 0 ≤ i → i < (zss.length : Int) → ∀ j, 1 ≤ j → j ≤ r → (applied r zss 5 i j []).2.2 ≠ 0 := by
  unfold simpStep at hs
  split at hs
  · cases hs
  · rename_i he
    refine ⟨fun k hk => ?_, fun i h1 h2 j h3 h4 => ?_⟩
    · have := scanG_none _ _ he k (by omega) (by omega)
      unfold isEmptyAt at this
      rw [Int.toNat_natCast] at this
      simpa using this
    · have hall : scanG (hasRem r zss) zss.length 0 = none := by
        rcases hq : scanG (hasRem r zss) zss.length 0 with _ | i'
        · rfl
        · rw [hq] at hs
          simp only at hs
          have h5 := (scanG_some _ _ _ hq).1
          unfold hasRem at h5
          rcases hq2 : scanG (remOk r zss i') r.toNat 1 with _ | j'
          · rw [hq2] at h5; cases h5
          · rw [hq2] at hs; cases hs
      have h5 := scanG_none _ _ hall i h1 (by omega)
      unfold hasRem at h5
      have h6 : scanG (remOk r zss i) r.toNat 1 = none := by
        rcases hq : scanG (remOk r zss i) r.toNat 1 with _ | j'
        · rfl
        · rw [hq] at h5; cases h5
      have h7 := scanG_none _ _ h6 j h3 (by omega)
      unfold remOk at h7
      simpa using h7

/-- At most n steps. -/
def simpRun : Nat → Int → List (List Int) → (Int × List (List Int)) × List (Int × Int × Int)
  | 0, r, z => ((r, z), [])
  | n + 1, r, z => match simpStep r z with
    | none => ((r, z), [])
    | some (p, m) => ((simpRun n p.1 p.2).1, m :: (simpRun n p.1 p.2).2)
theorem simpRun_stop {n : Nat} {r : Int} {z : List (List Int)} (h : simpStep r z = none) : simpRun n r z = ((r, z), []) := by
  cases n with
  | zero => rfl
  | succ n => unfold simpRun; rw [h]
theorem simpRun_go {n : Nat} {r : Int} {z : List (List Int)} {p : Int × List (List Int)} {m : Int × Int × Int} (h : simpStep r z = some (p, m)) : simpRun (n + 1) r z = ((simpRun n p.1 p.2).1, m :: (simpRun n p.1 p.2).2) := by
  rw [simpRun, h]
theorem simpRun_facts : ∀ (n : Nat) (r : Int) (z : List (List Int)), Wd.isP r z = true → (simpRun n r z).2.length ≤ n ∧ Wd.isP (simpRun n r z).1.1 (simpRun n r z).1.2 = true ∧ (simpRun n r z).1.1 ≤ r ∧ ((simpRun n r z).2.length < n → simpStep (simpRun n r z).1.1 (simpRun n r z).1.2 = none)
  | 0, r, z, h => ⟨Nat.le_refl _, h, Int.le_refl _, fun h0 => by simp [simpRun] at h0⟩
  | n + 1, r, z, h => by
    rcases hs : simpStep r z with _ | ⟨⟨r2, z2⟩, K, I, J⟩
    · rw [simpRun_stop hs]
      exact ⟨Nat.zero_le _, h, Int.le_refl _, fun _ => hs⟩
    · obtain ⟨_, h2, h3, _⟩ := simpStep_some h hs
      rw [simpRun_go hs]
      obtain ⟨f1, f2, f3, f4⟩ := simpRun_facts n r2 z2 h2
      exact ⟨by simp; omega, f2, by dsimp only at f3 ⊢; omega, fun h0 => f4 (by simp at h0; omega)⟩

end Go.Proofs.Ytjommpdblbbkdaa

namespace Go.Proofs.Ytjommpdblbbkdaa
open Go.RowKit

section
variable (r : Int) (A : Option Addr) (c : Nat) (rs : List Rw) (w : World)

/-- A removal, by the program: what ApplyTietze would return. -/
theorem rem_impl (i j : Nat) (h : RdS w w.heap.size A rs) (hp : Wd.isP r (vals rs) = true) (hi : i < rs.length) (hj1 : 1 ≤ j) (hj : (j : Int) ≤ r) :
    Calls Try.prog 41 #[.agg #[.int .i64 r, .slice A rs.length c], .iface 83 (.agg #[.int .i64 i, .int .i64 j])] w (ResP w (applied r (vals rs) 5 i j []).1 (applied r (vals rs) 5 i j []).2.1 (applied r (vals rs) 5 i j []).2.2) := by
  rw [show applied r (vals rs) 5 i j [] = fin (mvCode r (vals rs) 5 i j []) (mvGen r 5) (mvChg r (vals rs) 5 i j []) from by unfold applied; rw [if_neg (by simp [hp]), if_neg (by omega)]]
  obtain ⟨r0, r24, r48, hz⟩ := Wd.isP_iff.1 hp
  rw [vals_len] at r48
  have ROW : ∀ z ∈ vals rs, z.length ≤ 120 ∧ Wd.Sm z := fun z hz' => by
    have h1 := (Wd.isR_iff.1 (hz _ hz')).1
    exact ⟨(Wd.isW_fit h1).1, Wd.isW_sm h1 (by omega)⟩
  have OKR : ∀ z ∈ vals rs, Okz z := fun z hz' => ⟨by have := (ROW z hz').1; omega, (ROW z hz').2⟩
  have hrow : ∀ q ∈ rs, q.zs.length ≤ 1048576 := fun q hq => by have := (ROW _ (List.mem_map_of_mem hq)).1; omega
  have MI := missing_iff (r := r) (n := (vals rs).length) (K := 5) (I := i) (J := j)
  rw [vals_len] at MI
  obtain ⟨b, hb⟩ : ∃ b, mvCode r (vals rs) 5 i j [] = b := ⟨_, rfl⟩
  have hcode := hb
  unfold mvCode at hcode
  rw [vals_len] at hcode
  have GETI : ∀ i : Nat, (vals rs).getD i [] = (rs.getD i nilRw).zs := fun i => vals_getD rs i
  rw [hb]
  have hmiss : ¬ missing r rs.length 5 i j = true := fun h2 => by rcases MI.1 h2 with h3 | h3 | h3 <;> omega
  have hpo : possible (vals rs) 5 i j = decide (Wd.occ j (rs.getD i nilRw).zs = 1) := by unfold possible; rw [if_neg (by omega), if_neg (by omega), if_pos rfl, Int.toNat_natCast, GETI]
  have hno : ¬ ((0 ≤ (i : Int) ∧ (i : Int) < rs.length) ∧ (1 ≤ (j : Int) ∧ (j : Int) ≤ r)) → b = 4 := fun h1 => absurd (by omega) h1
  have h5 : ((0 ≤ (i : Int) ∧ (i : Int) < rs.length) ∧ (1 ≤ (j : Int) ∧ (j : Int) ≤ r)) → Wd.occ j (rs.getD (i : Int).toNat nilRw).zs ≠ 1 → b = 5 := fun h1 h2 => by
    rw [Int.toNat_natCast] at h2
    rw [← hcode, if_neg hmiss, if_neg (by omega), if_pos (by rw [hpo]; simpa using h2)]
  have h0 : ((0 ≤ (i : Int) ∧ (i : Int) < rs.length) ∧ (1 ≤ (j : Int) ∧ (j : Int) ≤ r)) → Wd.occ j (rs.getD (i : Int).toNat nilRw).zs = 1 → b = 0 := fun h1 h2 => by
    rw [Int.toNat_natCast] at h2
    rw [← hcode, if_neg hmiss, if_neg (by omega), if_neg (by rw [hpo, h2]; simp)]
  have hC := fun W' (hb' : Below w.heap.size w W') => tz_check_rem i j r A c rs b W' (h.into hb') hrow r0 r24 hno h5 h0
  by_cases hb0 : b = 0
  · have hoc : Wd.occ j (rs.getD i nilRw).zs = 1 := Decidable.byContradiction fun h1 => by rw [h5 (by omega) (by rw [Int.toNat_natCast]; exact h1)] at hb0; omega
    have eg : mvGen r 5 = r - 1 := by unfold mvGen; rw [if_pos rfl]
    have ec : mvChg r (vals rs) 5 i j [] = ((vals rs).eraseIdx i).map fun z => (Wd.sub j (Wd.solve j (rs.getD i nilRw).zs) z).map (Wd.ren j) := by unfold mvChg; rw [if_neg (by omega), if_neg (by omega), if_neg (by omega), if_neg (by omega), if_pos rfl, Int.toNat_natCast, GETI]
    have hsl := Wd.solve_len (g := j) (l := (rs.getD i nilRw).zs)
    have hrl := (ROW _ (vals_mem hi)).1
    rw [eg, ec]
    refine after_rem i j r (r - 1) b A c rs _ w hC (fun _ W' hb' => chg_rem i j r A c rs W' (h.into hb') hp hi (by omega) (by omega) (by rw [hoc]; decide)) (fun z hz' => ?_) (by have := List.length_eraseIdx_le (vals rs) i; rw [vals_len] at this; simp; omega)
    obtain ⟨y, hy, rfl⟩ := List.mem_map.1 hz'
    have hyr := ROW y (List.mem_of_mem_eraseIdx hy)
    refine ⟨?_, Wd.ren_sm (by omega) (Wd.sub_sm (Wd.solve_sm (ROW _ (vals_mem hi)).2) hyr.2)⟩
    have h3 := Wd.sub_len j (Wd.solve j (rs.getD i nilRw).zs) y
    have h4 : y.length * ((Wd.solve j (rs.getD i nilRw).zs).length + 1) ≤ 120 * 121 := Nat.mul_le_mul hyr.1 (by omega)
    rw [List.length_map]
    omega
  · rw [fin_bad hb0]
    exact after_rem i j r 0 b A c rs [] w hC (fun h0 => absurd h0 hb0) (by simp) (by simp)
/-- A relator without letters is dropped, by the program. -/
theorem drop_impl (i : Nat) (h : RdS w w.heap.size A rs) (hp : Wd.isP r (vals rs) = true) (hi : i < rs.length) (he : (rs.getD i nilRw).zs = []) :
    Calls Try.prog 41 #[.agg #[.int .i64 r, .slice A rs.length c], .iface 81 (.agg #[.int .i64 i])] w (ResP w r ((vals rs).eraseIdx i) 0) := by
  obtain ⟨r0, r24, r48, hz⟩ := Wd.isP_iff.1 hp
  rw [vals_len] at r48
  have OKR : ∀ z ∈ vals rs, Okz z := fun z hz' => by
    have h1 := (Wd.isR_iff.1 (hz _ hz')).1
    have h2 := (Wd.isW_fit h1).1
    exact ⟨by omega, Wd.isW_sm h1 (by omega)⟩
  have e : fin 0 r ((vals rs).eraseIdx i) = (r, (vals rs).eraseIdx i, 0) := by
    have e4 : ((vals rs).eraseIdx i).map Wd.rd = (vals rs).eraseIdx i := map_same (Wd.rd_rows (Wd.isP_erase hp i))
    unfold fin
    rw [if_neg (by omega), e4, if_pos (Wd.isP_erase hp i)]
  have := after_drop i r r 0 A c rs ((vals rs).eraseIdx i) w
    (fun W' hb' => tz_check_drop i r A c rs 0 W' (h.into hb') (fun h1 => absurd (by omega) h1) (fun _ h2 => absurd (by rw [Int.toNat_natCast]; exact he) h2) (fun _ _ => rfl))
    (fun _ W' hb' => chg_drop i r A c rs W' (h.into hb') hp hi) (fun z hz' => OKR z (List.mem_of_mem_eraseIdx hz')) (by have := List.length_eraseIdx_le (vals rs) i; rw [vals_len] at this; omega)
  rw [e] at this
  exact this

set_option maxHeartbeats 1000000 in
theorem nolett_ (B : Option Addr) (n cb : Nat) (W : World) : Calls Try.prog 55 #[.slice B n cb] W fun e w' => e = .returned (.bool (decide (n = 0))) ∧ W = w' := by
  by_cases h : n = 0
  · subst h
    go_enter Try.func55, Try.ntmps55
    go_wp2
    go_ret
    exact ⟨rfl, rfl⟩
  · have t0 : ((n : Int) == 0) = false := by simp; omega
    have t1 : decide (n = 0) = false := by simpa using h
    rw [t1]
    clear h t1
    go_enter Try.func55, Try.ntmps55
    go_wp2
    go_ret
    exact ⟨rfl, rfl⟩

set_option maxHeartbeats 2000000 in
/-- The place of the first relator without letters, or -1. -/
theorem idx_empty (h : RdS w w.heap.size A rs) (hn : rs.length ≤ 1048576) :
    Calls Try.prog 54 #[.slice A rs.length c, .func (.func 55) #[] #[]] w fun e w' => (((∀ k, k < rs.length → (rs.getD k nilRw).zs ≠ []) ∧ e = .returned (.int .i64 (-1))) ∨ ∃ k : Nat, k < rs.length ∧ (rs.getD k nilRw).zs = [] ∧ (∀ i, i < k → (rs.getD i nilRw).zs ≠ []) ∧ e = .returned (.int .i64 k)) ∧ w = w' := by
  have H := Lib.hid h
  obtain ⟨n, hrn⟩ : ∃ n, rs.length = n := ⟨_, rfl⟩
  have HN := Lib.hid hrn
  rw [hrn] at hn ⊢
  clear h hrn
  go_enter Try.func54, Try.ntmps54
  go_wp2
  go_loopw [8] (fun x W => ∃ k : Nat, k ≤ n ∧ x = .int .i64 k ∧ (∀ i, i < k → (rs.getD i nilRw).zs ≠ []) ∧ w = W) (fun x _ => n - (intOf x).toNat)
  case atStart => exact ⟨0, Nat.zero_le _, rfl, fun i hi => by omega, rfl⟩
  case round =>
    obtain ⟨k, hk, rfl, hno, rfl⟩ := hrel
    have NO := Lib.hid hno
    clear hno
    by_cases hlt : k < n
    · obtain ⟨b, off, Ak, ck, zk, rfl, hb, hrk, hck, hkc, hkm, hki⟩ := H.out.at_ (j := k) (by rw [HN.out]; exact hlt)
      have ZK := Lib.hid hrk
      clear hrk hki hkc hkm
      by_cases hz : zk.length = 0
      · have E := Lib.hid (show (rs.getD k nilRw).zs = [] from by rw [ZK.out]; exact List.length_eq_zero_iff.1 hz)
        have HZ := Lib.hid (show decide (zk.length = 0) = true from by simpa using hz)
        clear hz
        go_wp2_with fail
        refine (nolett_ Ak zk.length ck _).mono ?_
        rintro e w1 ⟨rfl, rfl⟩
        rw [HZ.out]
        go_wp2
        go_ret
        exact ⟨.inr ⟨k, hlt, E.out, NO.out, rfl⟩, rfl⟩
      · have E := Lib.hid (show (rs.getD k nilRw).zs ≠ [] from by rw [ZK.out]; exact fun h0 => hz (by dsimp only at h0; rw [h0]; rfl))
        have HZ := Lib.hid (show decide (zk.length = 0) = false from by simpa using hz)
        clear hz
        go_wp2_with fail
        refine (nolett_ Ak zk.length ck _).mono ?_
        rintro e w1 ⟨rfl, rfl⟩
        rw [HZ.out]
        go_wp2
        go_roundw
        case rel => exact ⟨k + 1, by omega, by go_num, (fun i hi => by by_cases e : i = k; exact e ▸ E.out; exact NO.out i (by omega)), by first | trivial | rfl⟩
        case measure => simp [intOf]; omega
    · obtain rfl : k = n := by omega
      go_wp2
      go_ret
      exact ⟨.inl ⟨NO.out, rfl⟩, rfl⟩
end

/-- What a step hands back: the presentation behind it in own memory, the move, and true; or false. -/
def ResSt (w : World) (o : Option ((Int × List (List Int)) × (Int × Int × Int))) (e : Ending) (w' : World) : Prop :=
  (∀ p m, o = some (p, m) → ∃ A c rs, e = .returned (.tuple #[.agg #[.int .i64 p.1, .slice A rs.length c], .agg #[.int .i64 m.1, .int .i64 m.2.1, .int .i64 m.2.2, .slice none 0 0], .bool true]) ∧ OwnS w' w.heap.size w'.heap.size A c rs ∧ vals rs = p.2) ∧
  (o = none → e = .returned (.tuple #[.agg #[.int .i64 0, .slice none 0 0], .agg #[.int .i64 0, .int .i64 0, .int .i64 0, .slice none 0 0], .bool false])) ∧ Below w.heap.size w w'

theorem six_own {W : World} {lo hi c : Nat} {A : Option Addr} {rs : List Rw} (h : OwnS W lo hi A c rs) {b1 b2 : Nat} (h1 : b1 < lo) (h2 : b2 < lo) (x0 x1 y0 y1 y2 y3 : Value) :
    OwnS (((((((W.setCell ⟨b1, 0, none⟩ x0).setCell ⟨b1, 1, none⟩ x1).setCell ⟨b2, 0, none⟩ y0).setCell ⟨b2, 1, none⟩ y1).setCell ⟨b2, 2, none⟩ y2).setCell ⟨b2, 3, none⟩ y3)) lo hi A c rs :=
  (((((h.far (p := ⟨b1, 0, none⟩) (.inl h1) _).far (p := ⟨b1, 1, none⟩) (.inl h1) _).far (p := ⟨b2, 0, none⟩) (.inl h2) _).far (p := ⟨b2, 1, none⟩) (.inl h2) _).far (p := ⟨b2, 2, none⟩) (.inl h2) _).far (p := ⟨b2, 3, none⟩) (.inl h2) _
theorem six_below {w W : World} (h : Below w.heap.size w W) {b1 b2 : Nat} (h1 : w.heap.size ≤ b1) (h2 : w.heap.size ≤ b2) (x0 x1 y0 y1 y2 y3 : Value) :
    Below w.heap.size w (((((((W.setCell ⟨b1, 0, none⟩ x0).setCell ⟨b1, 1, none⟩ x1).setCell ⟨b2, 0, none⟩ y0).setCell ⟨b2, 1, none⟩ y1).setCell ⟨b2, 2, none⟩ y2).setCell ⟨b2, 3, none⟩ y3)) :=
  (((((h.setCell h1 _).setCell h1 _).setCell h2 _).setCell h2 _).setCell h2 _).setCell h2 _
theorem six_size (W : World) (b1 b2 : Nat) (x0 x1 y0 y1 y2 y3 : Value) : (((((((W.setCell ⟨b1, 0, none⟩ x0).setCell ⟨b1, 1, none⟩ x1).setCell ⟨b2, 0, none⟩ y0).setCell ⟨b2, 1, none⟩ y1).setCell ⟨b2, 2, none⟩ y2).setCell ⟨b2, 3, none⟩ y3)).heap.size = W.heap.size := by simp [World.setCell]
/-- What a step hands back, out of both boxes of its results. -/
theorem ResSt.yes {w W : World} {o : Option ((Int × List (List Int)) × (Int × Int × Int))} {r2 K I J : Int} {z2 : List (List Int)} {A : Option Addr} {c lo b1 b2 : Nat} {rs : List Rw} (ho : o = some ((r2, z2), (K, I, J))) (h : OwnS W lo W.heap.size A c rs) (hv : vals rs = z2) (hb : Below w.heap.size w W)
    (h1 : w.heap.size ≤ b1) (h2 : w.heap.size ≤ b2) (h3 : b1 < lo) (h4 : b2 < lo) (x0 x1 y0 y1 y2 y3 : Value) :
    ResSt w o (.returned (.tuple #[.agg #[.int .i64 r2, .slice A rs.length c], .agg #[.int .i64 K, .int .i64 I, .int .i64 J, .slice none 0 0], .bool true])) (((((((W.setCell ⟨b1, 0, none⟩ x0).setCell ⟨b1, 1, none⟩ x1).setCell ⟨b2, 0, none⟩ y0).setCell ⟨b2, 1, none⟩ y1).setCell ⟨b2, 2, none⟩ y2).setCell ⟨b2, 3, none⟩ y3)) := by
  have h5 := six_own h h3 h4 x0 x1 y0 y1 y2 y3
  have h6 := six_size W b1 b2 x0 x1 y0 y1 y2 y3
  have h7 := six_below hb h1 h2 x0 x1 y0 y1 y2 y3
  generalize ((((((W.setCell ⟨b1, 0, none⟩ x0).setCell ⟨b1, 1, none⟩ x1).setCell ⟨b2, 0, none⟩ y0).setCell ⟨b2, 1, none⟩ y1).setCell ⟨b2, 2, none⟩ y2).setCell ⟨b2, 3, none⟩ y3) = W6 at h5 h6 h7 ⊢
  refine ⟨fun p m hpm => ?_, (fun h0 => by rw [ho] at h0; cases h0), h7⟩
  rw [ho] at hpm
  cases hpm
  exact ⟨A, c, rs, rfl, OwnS.wide h5 (by omega) (by omega), hv⟩
theorem ResSt.drew_ {w W : World} {o : Option ((Int × List (List Int)) × (Int × Int × Int))} {e : Ending} (h : ResSt w o e W) : ResSt w o e W.drew :=
  ⟨fun p m hpm => by obtain ⟨A, c, rs, e1, e2, e3⟩ := h.1 p m hpm; exact ⟨A, c, rs, e1, e2.below (show Below W.heap.size W W.drew from (Below.refl _ _).drew) (Nat.le_refl _), e3⟩, h.2.1, h.2.2.drew⟩
theorem ResSt.no {w W : World} {o : Option ((Int × List (List Int)) × (Int × Int × Int))} {b1 b2 : Nat} (ho : o = none) (hb : Below w.heap.size w W) (h1 : w.heap.size ≤ b1) (h2 : w.heap.size ≤ b2) (x0 x1 y0 y1 y2 y3 : Value) :
    ResSt w o (.returned (.tuple #[.agg #[.int .i64 0, .slice none 0 0], .agg #[.int .i64 0, .int .i64 0, .int .i64 0, .slice none 0 0], .bool false])) (((((((W.setCell ⟨b1, 0, none⟩ x0).setCell ⟨b1, 1, none⟩ x1).setCell ⟨b2, 0, none⟩ y0).setCell ⟨b2, 1, none⟩ y1).setCell ⟨b2, 2, none⟩ y2).setCell ⟨b2, 3, none⟩ y3)) :=
  ⟨(fun p m hpm => by rw [ho] at hpm; cases hpm), fun _ => rfl, six_below hb h1 h2 x0 x1 y0 y1 y2 y3⟩

set_option maxRecDepth 100000 in
set_option maxHeartbeats 16000000 in
theorem simplified_impl (r : Int) (A : Option Addr) (c : Nat) (rs : List Rw) (w : World) (h : RdS w w.heap.size A rs) (hp : Wd.isP r (vals rs) = true) :
    Calls Try.prog 30 #[.agg #[.int .i64 r, .slice A rs.length c]] w (ResSt w (simpStep r (vals rs))) := by
  obtain ⟨r0, r24, r48, hz⟩ := Wd.isP_iff.1 hp
  rw [vals_len] at r48
  have hrow : ∀ q ∈ rs, q.zs.length ≤ 1048576 := fun q hq => by
    have := (Wd.isW_fit (Wd.isR_iff.1 (hz _ (List.mem_map_of_mem hq))).1).1
    omega
  have IX := Lib.hid (fun (W : World) (hb : Below w.heap.size w W) => idx_empty A c rs W (h.into hb) (by omega))
  have DI := Lib.hid (fun (i : Nat) (hi : i < rs.length) (he : (rs.getD i nilRw).zs = []) (W : World) (hb : Below w.heap.size w W) => drop_impl r A c rs W i (h.into hb) hp hi he)
  have RI := Lib.hid (fun (i j : Nat) (hi : i < rs.length) (hj1 : 1 ≤ j) (hj : (j : Int) ≤ r) (W : World) (hb : Below w.heap.size w W) => rem_impl r A c rs W i j (h.into hb) hp hi hj1 hj)
  have GETI := Lib.hid (show ∀ i : Nat, (vals rs).getD i [] = (rs.getD i nilRw).zs from fun i => vals_getD rs i)
  have SD := Lib.hid (fun (i : Nat) (hi : i < rs.length) (hlt : ∀ k, k < i → (rs.getD k nilRw).zs ≠ []) (he : (rs.getD i nilRw).zs = []) => simpStep_drop (r := r) (zss := vals rs) (i := i) (by rw [vals_len]; exact hi) (fun k hk => by rw [GETI.out]; exact hlt k hk) (by rw [GETI.out]; exact he))
  have SR := Lib.hid (fun (i j : Int) (hne : ∀ k, k < rs.length → (rs.getD k nilRw).zs ≠ []) => simpStep_rem (r := r) (zss := vals rs) (i := i) (j := j) r0 (fun k hk => by rw [GETI.out]; rw [vals_len] at hk; exact hne k hk))
  have SN := Lib.hid (fun (hne : ∀ k, k < rs.length → (rs.getD k nilRw).zs ≠ []) => simpStep_none (r := r) (zss := vals rs) r0 (fun k hk => by rw [GETI.out]; rw [vals_len] at hk; exact hne k hk))
  rw [vals_len] at SR SN
  obtain ⟨n, hrn⟩ : ∃ n, rs.length = n := ⟨_, rfl⟩
  obtain ⟨o, ho⟩ : ∃ o, simpStep r (vals rs) = o := ⟨_, rfl⟩
  rw [ho] at SD SR SN ⊢
  rw [hrn] at IX DI RI SD SR SN r48 ⊢
  obtain ⟨ap, hap⟩ : ∃ ap : Int → Int → Int × List (List Int) × Int, ∀ i j, applied r (vals rs) 5 i j [] = ap i j := ⟨_, fun _ _ => rfl⟩
  simp only [hap] at RI SR SN
  clear ho hap h hp hz hrow hrn GETI
  have X00 := Lib.hid (BoxG.new w 26 (.int .i64 r) (.slice A n c))
  obtain ⟨V, hV⟩ : ∃ V, V = (((w.alloc (Obj.cells #[.int .i64 r, .slice A n c] 26)).alloc (Obj.cells #[.int .i64 0, .slice none 0 0] 26)).alloc (Obj.cells #[.int .i64 0, .int .i64 0, .int .i64 0, .slice none 0 0] 36)) := ⟨_, rfl⟩
  have sV : w.heap.size + 1 + 1 < V.heap.size := by rw [hV]; simp
  have X0 := Lib.hid (show BoxG V w.heap.size (.int .i64 r) (.slice A n c) from by rw [hV]; exact ((X00.out.below (al1 _ _) (by simp)).below (al1 _ _) (by simp; omega)))
  have Z0 := Lib.hid (show BoxG V (w.heap.size + 1) (.int .i64 0) (.slice none 0 0) from by rw [hV]; simpa using (BoxG.new (w.alloc (Obj.cells #[.int .i64 r, .slice A n c] 26)) 26 (.int .i64 0) (.slice none 0 0)).below (al1 _ _) (by simp))
  have G0 := Lib.hid (show Free V (w.heap.size + 1) from by rw [hV]; simpa using (Free.new (w.alloc (Obj.cells #[.int .i64 r, .slice A n c] 26)) 26 #[.int .i64 0, .slice none 0 0]).below (al1 _ _) (by simp))
  have T0 := Lib.hid (show BoxT V (w.heap.size + 1 + 1) (.int .i64 0) (.int .i64 0) (.int .i64 0) (.slice none 0 0) from by rw [hV]; simpa using BoxT.new ((w.alloc (Obj.cells #[.int .i64 r, .slice A n c] 26)).alloc (Obj.cells #[.int .i64 0, .slice none 0 0] 26)) 36 (.int .i64 0) (.int .i64 0) (.int .i64 0) (.slice none 0 0))
  have H0 := Lib.hid (show Free V (w.heap.size + 1 + 1) from by rw [hV]; simpa using Free.new ((w.alloc (Obj.cells #[.int .i64 r, .slice A n c] 26)).alloc (Obj.cells #[.int .i64 0, .slice none 0 0] 26)) 36 #[.int .i64 0, .int .i64 0, .int .i64 0, .slice none 0 0])
  have DV := Lib.hid (show Below w.heap.size w V from by rw [hV]; exact al3 _ _ _ _)
  go_enter Try.func30, Try.ntmps30
  go_upto_region 1 with fail
  rw [← hV]
  clear hV
  have v0 : w.heap.size < V.heap.size := by omega
  have v1 : w.heap.size + 1 < V.heap.size := by omega
  obtain ⟨x0, x1⟩ := X0.out
  go_wp2_with fail
  refine (IX.out _ DV.out).mono ?_
  rintro e w1 ⟨hcase, rfl⟩
  rcases hcase with ⟨hall, rfl⟩ | ⟨k, hk, hek, hlt, rfl⟩
  case inr =>
    have S1 := Lib.hid (SD.out k hk hlt hek)
    have CA := Lib.hid (DI.out k hk hek)
    clear hlt hek IX DI RI SD SR SN
    have t0 : (0 : Int) ≤ (k : Int) := by omega
    go_wp2_with fail
    refine (CA.out _ (DV.out.alloc (by omega) _)).mono ?_
    rintro e w2 ⟨A5, c5, rs5, rfl, ho5, hv5, hb5⟩
    have z2 : V.heap.size < w2.heap.size := by have := hb5.size; simp at this; omega
    have BX := Lib.hid ((hb5.cell (p := ⟨V.heap.size, 0, none⟩) (by simp)).trans (Wd.alloc_first V V.heap.size (.int .i64 (k : Int)) 81 rfl))
    have B2 := Lib.hid (on1 _ hb5)
    have O5 := Lib.hid (OwnS.wide (lo' := V.heap.size) (hi' := w2.heap.size) ho5 (by simp) (Nat.le_refl _))
    have V5 := Lib.hid hv5
    clear ho5 hv5 hb5 x0 x1 CA
    go_upto_region 5 with fail
    obtain ⟨W, hW⟩ : ∃ W, W = w2.alloc (Obj.cells #[.int .i64 r, .slice A5 rs5.length c5] 26) := ⟨_, rfl⟩
    rw [← hW]
    have BW := Lib.hid (show Below w2.heap.size w2 W from by rw [hW]; exact al1 _ _)
    have P7 := Lib.hid (show BoxG W w2.heap.size (.int .i64 r) (.slice A5 rs5.length c5) from by rw [hW]; exact BoxG.new w2 _ _ _)
    have sW : W.heap.size = w2.heap.size + 1 := by rw [hW]; simp
    clear hW
    have DW := Lib.hid ((DV.out.trans (B2.out.mono (by omega))).trans (BW.out.mono (by omega)))
    obtain ⟨p0, p1⟩ := P7.out
    have b81 := (BW.out.cell (p := ⟨V.heap.size, 0, none⟩) (by dsimp only; omega)).trans BX.out
    obtain ⟨s0, s1⟩ := (Z0.out.below B2.out (by omega)).below BW.out (by omega)
    obtain ⟨u0, u1, u2, u3⟩ := (T0.out.below B2.out (by omega)).below BW.out (by omega)
    have f0 := (G0.out.below B2.out (by omega)).below BW.out (by omega)
    have f1 := (H0.out.below B2.out (by omega)).below BW.out (by omega)
    unfold Free at f0 f1
    have n0 : ¬ w.heap.size + 1 = w2.heap.size := by omega
    have n1 : ¬ w2.heap.size = w.heap.size + 1 := by omega
    have n2 : ¬ w.heap.size + 1 + 1 = w2.heap.size := by omega
    have n3 : ¬ w2.heap.size = w.heap.size + 1 + 1 := by omega
    have n4 : ¬ w.heap.size + 1 = V.heap.size := by omega
    have n5 : ¬ V.heap.size = w.heap.size + 1 := by omega
    have n6 : ¬ w.heap.size + 1 + 1 = V.heap.size := by omega
    have n7 : ¬ V.heap.size = w.heap.size + 1 + 1 := by omega
    have n8 : ¬ w.heap.size + 1 + 1 = w.heap.size + 1 := by omega
    have n9 : ¬ w.heap.size + 1 = w.heap.size + 1 + 1 := by omega
    go_region
    all_goals
      go_wp2
      refine bodyPost_ret (v := .tuple #[.agg #[.int .i64 r, .slice A5 rs5.length c5], .agg #[.int .i64 4, .int .i64 k, .int .i64 0, .slice none 0 0], .bool true]) (by simp [results, Try.results30, s0, s1, u0, u1, u2, u3, go_sem]) rfl ?_
      exact (ResSt.yes S1.out (OwnS.wide (O5.out.below BW.out (Nat.le_refl _)) (Nat.le_refl _) (by omega)) V5.out DW.out (by omega) (by omega) (by omega) (by omega) _ _ _ _ _ _).drew_
  case inl =>
    have SR2 := Lib.hid (fun (i j : Int) => SR.out i j hall)
    have SN2 := Lib.hid (SN.out hall)
    clear hall SR SN SD DI IX
    have hRn : (0 : Int) ≤ r := r0
    go_wp2
    clear x0 x1
    go_loopw [36] (fun x W => ∃ i : Nat, i ≤ n ∧ x = .int .i64 i ∧ (∀ i' : Int, 0 ≤ i' → i' < i → ∀ j' : Int, 1 ≤ j' → j' ≤ r → (ap i' j').2.2 ≠ 0) ∧ Below V.heap.size V W) (fun x _ => n - (intOf x).toNat)
    case atStart => exact ⟨0, Nat.zero_le _, rfl, fun i' h1 h2 => by omega, Below.refl _ _⟩
    case round =>
      obtain ⟨i, hi, rfl, hno, hbel⟩ := hrel
      have NO := Lib.hid hno
      have DB := Lib.hid hbel
      have zV : V.heap.size ≤ wr.heap.size := hbel.size
      clear hno hbel
      by_cases hlt : i < n
      case neg =>
        have hin : i = n := by omega
        have S1 := Lib.hid (SN2.out (fun i' h1 h2 j' h3 h4 => NO.out i' h1 (by omega) j' h3 h4))
        subst hin
        obtain ⟨s0, s1⟩ := Z0.out.below DB.out (by omega)
        obtain ⟨u0, u1, u2, u3⟩ := T0.out.below DB.out (by omega)
        have f0 := G0.out.below DB.out (by omega)
        have f1 := H0.out.below DB.out (by omega)
        unfold Free at f0 f1
        go_wp2
        refine bodyPost_ret (v := .tuple #[.agg #[.int .i64 0, .slice none 0 0], .agg #[.int .i64 0, .int .i64 0, .int .i64 0, .slice none 0 0], .bool false]) (by simp [results, Try.results30, s0, s1, u0, u1, u2, u3, go_sem]) rfl ?_
        exact ResSt.no S1.out (DV.out.trans (DB.out.mono (by omega))) (by omega) (by omega) _ _ _ _ _ _
      · go_wp2
        go_loopw [10] (fun y W => ∃ j : Nat, 1 ≤ j ∧ (j : Int) ≤ r + 1 ∧ y = .int .i64 j ∧ (∀ j' : Int, 1 ≤ j' → j' < j → (ap i j').2.2 ≠ 0) ∧ Below V.heap.size V W) (fun y _ => (r + 1).toNat - (intOf y).toNat)
        case atStart => exact ⟨1, Nat.le_refl _, by omega, rfl, fun j' h1 h2 => by omega, DB.out⟩
        case round =>
          obtain ⟨j, hj1, hj2, rfl, hno2, hbel⟩ := hrel
          have NO2 := Lib.hid hno2
          have DC := Lib.hid hbel
          have zW : V.heap.size ≤ wr.heap.size := hbel.size
          clear hno2 hbel
          obtain ⟨x0, x1⟩ := X0.out.below DC.out (by omega)
          by_cases hle : (j : Int) ≤ r
          case neg =>
            have NX := Lib.hid (show ∀ i' : Int, 0 ≤ i' → i' < (i + 1 : Nat) → ∀ j' : Int, 1 ≤ j' → j' ≤ r → (ap i' j').2.2 ≠ 0 from fun i' h1 h2 j' h3 h4 => by
              by_cases e : i' = i
              · rw [e]; exact NO2.out j' h3 (by omega)
              · exact NO.out i' h1 (by omega) j' h3 h4)
            go_wp2
            go_roundw
            case rel => exact ⟨i + 1, by omega, by go_num, NX.out, DC.out⟩
            case measure => simp [intOf]; omega
          · have CA := Lib.hid (RI.out i j hlt hj1 hle)
            obtain ⟨q, hq⟩ : ∃ q, ap i j = q := ⟨_, rfl⟩
            have SQ := Lib.hid (fun (h0 : q.2.2 = 0) => SR2.out i j (by omega) (by omega) (by omega) hle (fun i' h1 h2 j' h3 h4 => NO.out i' h1 h2 j' h3 h4) (fun j' h1 h2 => NO2.out j' h1 h2) (by rw [hq]; exact h0))
            have QQ := Lib.hid hq
            rw [hq] at CA SQ
            clear hq
            go_wp2_with fail
            refine (CA.out _ (DV.out.trans (DC.out.mono (by omega)))).mono ?_
            rintro e w2 ⟨A5, c5, rs5, rfl, ho5, hv5, hb5⟩
            have B2 := Lib.hid (DC.out.trans (hb5.mono zW))
            have z2 : wr.heap.size ≤ w2.heap.size := hb5.size
            have O5 := Lib.hid ho5
            have V5 := Lib.hid hv5
            clear ho5 hv5 hb5 x0 x1 CA
            by_cases hc : q.2.2 = 0
            case neg =>
              have t1 : (q.2.2 == 0) = false := by simpa using hc
              have NX := Lib.hid (show ∀ j' : Int, 1 ≤ j' → j' < (j + 1 : Nat) → (ap i j').2.2 ≠ 0 from fun j' h1 h2 => by
                by_cases e : j' = j
                · rw [e, QQ.out]; exact hc
                · exact NO2.out j' h1 (by omega))
              clear hc
              go_wp2
              go_roundw
              case rel => exact ⟨j + 1, by omega, by omega, by go_num, NX.out, B2.out.alloc (by omega) _⟩
              case measure => simp [intOf]; omega
            · have t1 : (q.2.2 == 0) = true := by simpa using hc
              have S1 := Lib.hid (SQ.out hc)
              clear hc
              go_upto_region 14 with fail
              obtain ⟨W, hW⟩ : ∃ W, W = w2.alloc (Obj.cells #[.int .i64 q.1, .slice A5 rs5.length c5] 26) := ⟨_, rfl⟩
              rw [← hW]
              have BW := Lib.hid (show Below w2.heap.size w2 W from by rw [hW]; exact al1 _ _)
              have P7 := Lib.hid (show BoxG W w2.heap.size (.int .i64 q.1) (.slice A5 rs5.length c5) from by rw [hW]; exact BoxG.new w2 _ _ _)
              have sW : W.heap.size = w2.heap.size + 1 := by rw [hW]; simp
              clear hW
              have DW := Lib.hid ((DV.out.trans (B2.out.mono (by omega))).trans (BW.out.mono (by omega)))
              obtain ⟨p0, p1⟩ := P7.out
              obtain ⟨s0, s1⟩ := (Z0.out.below B2.out (by omega)).below BW.out (by omega)
              obtain ⟨u0, u1, u2, u3⟩ := (T0.out.below B2.out (by omega)).below BW.out (by omega)
              have f0 := (G0.out.below B2.out (by omega)).below BW.out (by omega)
              have f1 := (H0.out.below B2.out (by omega)).below BW.out (by omega)
              unfold Free at f0 f1
              have n0 : ¬ w.heap.size + 1 = w2.heap.size := by omega
              have n1 : ¬ w2.heap.size = w.heap.size + 1 := by omega
              have n2 : ¬ w.heap.size + 1 + 1 = w2.heap.size := by omega
              have n3 : ¬ w2.heap.size = w.heap.size + 1 + 1 := by omega
              have n8 : ¬ w.heap.size + 1 + 1 = w.heap.size + 1 := by omega
              have n9 : ¬ w.heap.size + 1 = w.heap.size + 1 + 1 := by omega
              go_wp2
              refine bodyPost_ret (v := .tuple #[.agg #[.int .i64 q.1, .slice A5 rs5.length c5], .agg #[.int .i64 5, .int .i64 i, .int .i64 j, .slice none 0 0], .bool true]) (by simp [results, Try.results30, s0, s1, u0, u1, u2, u3, go_sem]) rfl ?_
              exact ResSt.yes (z2 := q.2.1) S1.out (OwnS.wide (O5.out.below BW.out (Nat.le_refl _)) (Nat.le_refl _) (by omega)) V5.out DW.out (by omega) (by omega) (by omega) (by omega) _ _ _ _ _ _

end Go.Proofs.Ytjommpdblbbkdaa

namespace Go.Proofs.Ytjommpdblbbkdaa
open Go.RowKit

/-- What the specification's step hands back: the move, the presentation behind it in own memory, and true; or nothing, the presentation as it was, and false. -/
def ResSs (w : World) (v0 : Value) (o : Option ((Int × List (List Int)) × (Int × Int × Int))) (e : Ending) (w' : World) : Prop :=
  (∀ p m, o = some (p, m) → ∃ A c rs, e = .returned (.tuple #[.agg #[.int .i64 m.1, .int .i64 m.2.1, .int .i64 m.2.2, .slice none 0 0], .agg #[.int .i64 p.1, .slice A rs.length c], .bool true]) ∧ OwnS w' w.heap.size w'.heap.size A c rs ∧ vals rs = p.2) ∧
  (o = none → e = .returned (.tuple #[.agg #[.int .i64 0, .int .i64 0, .int .i64 0, .slice none 0 0], v0, .bool false])) ∧ Below w.heap.size w w'
theorem sixs_own {W : World} {lo hi c : Nat} {A : Option Addr} {rs : List Rw} (h : OwnS W lo hi A c rs) {b1 b2 : Nat} (h1 : b1 < lo) (h2 : b2 < lo) (x0 x1 y0 y1 y2 y3 : Value) :
    OwnS ((((((W.setCell ⟨b1, 0, none⟩ y0).setCell ⟨b1, 1, none⟩ y1).setCell ⟨b1, 2, none⟩ y2).setCell ⟨b1, 3, none⟩ y3).setCell ⟨b2, 0, none⟩ x0).setCell ⟨b2, 1, none⟩ x1) lo hi A c rs :=
  (((((h.far (p := ⟨b1, 0, none⟩) (.inl h1) _).far (p := ⟨b1, 1, none⟩) (.inl h1) _).far (p := ⟨b1, 2, none⟩) (.inl h1) _).far (p := ⟨b1, 3, none⟩) (.inl h1) _).far (p := ⟨b2, 0, none⟩) (.inl h2) _).far (p := ⟨b2, 1, none⟩) (.inl h2) _
theorem sixs_below {w W : World} (h : Below w.heap.size w W) {b1 b2 : Nat} (h1 : w.heap.size ≤ b1) (h2 : w.heap.size ≤ b2) (x0 x1 y0 y1 y2 y3 : Value) :
    Below w.heap.size w ((((((W.setCell ⟨b1, 0, none⟩ y0).setCell ⟨b1, 1, none⟩ y1).setCell ⟨b1, 2, none⟩ y2).setCell ⟨b1, 3, none⟩ y3).setCell ⟨b2, 0, none⟩ x0).setCell ⟨b2, 1, none⟩ x1) :=
  (((((h.setCell h1 _).setCell h1 _).setCell h1 _).setCell h1 _).setCell h2 _).setCell h2 _
theorem sixs_size (W : World) (b1 b2 : Nat) (x0 x1 y0 y1 y2 y3 : Value) : ((((((W.setCell ⟨b1, 0, none⟩ y0).setCell ⟨b1, 1, none⟩ y1).setCell ⟨b1, 2, none⟩ y2).setCell ⟨b1, 3, none⟩ y3).setCell ⟨b2, 0, none⟩ x0).setCell ⟨b2, 1, none⟩ x1).heap.size = W.heap.size := by simp [World.setCell]
theorem ResSs.yes {w W : World} {v0 : Value} {o : Option ((Int × List (List Int)) × (Int × Int × Int))} {r2 K I J : Int} {z2 : List (List Int)} {A : Option Addr} {c lo b1 b2 : Nat} {rs : List Rw} (ho : o = some ((r2, z2), (K, I, J))) (h : OwnS W lo W.heap.size A c rs) (hv : vals rs = z2) (hb : Below w.heap.size w W)
    (h1 : w.heap.size ≤ b1) (h2 : w.heap.size ≤ b2) (h3 : b1 < lo) (h4 : b2 < lo) (x0 x1 y0 y1 y2 y3 : Value) :
    ResSs w v0 o (.returned (.tuple #[.agg #[.int .i64 K, .int .i64 I, .int .i64 J, .slice none 0 0], .agg #[.int .i64 r2, .slice A rs.length c], .bool true])) ((((((W.setCell ⟨b1, 0, none⟩ y0).setCell ⟨b1, 1, none⟩ y1).setCell ⟨b1, 2, none⟩ y2).setCell ⟨b1, 3, none⟩ y3).setCell ⟨b2, 0, none⟩ x0).setCell ⟨b2, 1, none⟩ x1).drew := by
  have h5 := sixs_own h h3 h4 x0 x1 y0 y1 y2 y3
  have h6 := sixs_size W b1 b2 x0 x1 y0 y1 y2 y3
  have h7 := sixs_below hb h1 h2 x0 x1 y0 y1 y2 y3
  generalize ((((((W.setCell ⟨b1, 0, none⟩ y0).setCell ⟨b1, 1, none⟩ y1).setCell ⟨b1, 2, none⟩ y2).setCell ⟨b1, 3, none⟩ y3).setCell ⟨b2, 0, none⟩ x0).setCell ⟨b2, 1, none⟩ x1) = W6 at h5 h6 h7 ⊢
  refine ⟨fun p m hpm => ?_, (fun h0 => by rw [ho] at h0; cases h0), h7.drew⟩
  rw [ho] at hpm
  cases hpm
  have h8 : OwnS W6 w.heap.size W6.heap.size A c rs := OwnS.wide h5 (by omega) (by omega)
  exact ⟨A, c, rs, rfl, h8.below (show Below W6.heap.size W6 W6.drew from (Below.refl _ _).drew) (Nat.le_refl _), hv⟩
theorem ResSs.no {w W : World} {v0 : Value} {o : Option ((Int × List (List Int)) × (Int × Int × Int))} {b1 b2 : Nat} (ho : o = none) (hb : Below w.heap.size w W) (h1 : w.heap.size ≤ b1) (h2 : w.heap.size ≤ b2) (x0 x1 y0 y1 y2 y3 : Value) :
    ResSs w v0 o (.returned (.tuple #[.agg #[.int .i64 0, .int .i64 0, .int .i64 0, .slice none 0 0], v0, .bool false])) ((((((W.setCell ⟨b1, 0, none⟩ y0).setCell ⟨b1, 1, none⟩ y1).setCell ⟨b1, 2, none⟩ y2).setCell ⟨b1, 3, none⟩ y3).setCell ⟨b2, 0, none⟩ x0).setCell ⟨b2, 1, none⟩ x1).drew :=
  ⟨(fun p m hpm => by rw [ho] at hpm; cases hpm), fun _ => rfl, (sixs_below hb h1 h2 x0 x1 y0 y1 y2 y3).drew⟩

theorem applied_spec (K I J r : Int) (A : Option Addr) (c : Nat) (rs : List Rw) (w : World) (h : RdS w w.heap.size A rs) (hn : rs.length ≤ 1048576) (hrow : ∀ q ∈ rs, q.zs.length ≤ 1048576) :
    Calls Try.prog 10 #[.agg #[.int .i64 r, .slice A rs.length c], .agg #[.int .i64 K, .int .i64 I, .int .i64 J, .slice none 0 0]] w (ResP w (applied r (vals rs) K I J []).1 (applied r (vals rs) K I J []).2.1 (applied r (vals rs) K I J []).2.2) :=
  apply_spec K I J r A none c 0 0 rs [] w h (Wd.ints_nil _) hn hrow (by omega)

set_option maxRecDepth 100000 in
set_option maxHeartbeats 16000000 in
theorem step_spec (r : Int) (A : Option Addr) (c : Nat) (rs : List Rw) (w : World) (h : RdS w w.heap.size A rs) (hp : Wd.isP r (vals rs) = true) :
    Calls Try.prog 48 #[.agg #[.int .i64 r, .slice A rs.length c]] w (ResSs w (.agg #[.int .i64 r, .slice A rs.length c]) (simpStep r (vals rs))) := by
  obtain ⟨r0, r24, r48, hz⟩ := Wd.isP_iff.1 hp
  rw [vals_len] at r48
  have hrow : ∀ q ∈ rs, q.zs.length ≤ 1048576 := fun q hq => by
    have := (Wd.isW_fit (Wd.isR_iff.1 (hz _ (List.mem_map_of_mem hq))).1).1
    omega
  have AP := Lib.hid (fun (K I J : Int) (W : World) (hb : Below w.heap.size w W) => applied_spec K I J r A c rs W (h.into hb) (by omega) hrow)
  have GETI := Lib.hid (show ∀ i : Nat, (vals rs).getD i [] = (rs.getD i nilRw).zs from fun i => vals_getD rs i)
  have DY := Lib.hid (fun (i : Nat) (hi : i < rs.length) (he : (rs.getD i nilRw).zs = []) => applied_drop_ok (r := r) (zss := vals rs) (i := i) (J := 0) hp (by rw [vals_len]; exact hi) (by rw [GETI.out]; exact he))
  have DN := Lib.hid (fun (i : Nat) (hi : i < rs.length) (he : (rs.getD i nilRw).zs ≠ []) => applied_drop_no (r := r) (zss := vals rs) (i := i) (J := 0) hp (by rw [vals_len]; exact hi) (by rw [GETI.out]; exact he))
  have SD := Lib.hid (fun (i : Nat) (hi : i < rs.length) (hlt : ∀ k, k < i → (rs.getD k nilRw).zs ≠ []) (he : (rs.getD i nilRw).zs = []) => simpStep_drop (r := r) (zss := vals rs) (i := i) (by rw [vals_len]; exact hi) (fun k hk => by rw [GETI.out]; exact hlt k hk) (by rw [GETI.out]; exact he))
  have SR := Lib.hid (fun (i j : Int) (hne : ∀ k, k < rs.length → (rs.getD k nilRw).zs ≠ []) => simpStep_rem (r := r) (zss := vals rs) (i := i) (j := j) r0 (fun k hk => by rw [GETI.out]; rw [vals_len] at hk; exact hne k hk))
  have SN := Lib.hid (fun (hne : ∀ k, k < rs.length → (rs.getD k nilRw).zs ≠ []) => simpStep_none (r := r) (zss := vals rs) r0 (fun k hk => by rw [GETI.out]; rw [vals_len] at hk; exact hne k hk))
  rw [vals_len] at SR SN
  obtain ⟨n, hrn⟩ : ∃ n, rs.length = n := ⟨_, rfl⟩
  obtain ⟨o, ho⟩ : ∃ o, simpStep r (vals rs) = o := ⟨_, rfl⟩
  rw [ho] at SD SR SN ⊢
  rw [hrn] at AP DY DN SD SR SN r48 ⊢
  obtain ⟨ap, hap⟩ : ∃ ap : Int → Int → Int → Int × List (List Int) × Int, ∀ K i j, applied r (vals rs) K i j [] = ap K i j := ⟨_, fun _ _ _ => rfl⟩
  simp only [hap] at AP DY DN SR SN
  clear ho hap h hp hz hrow hrn GETI
  obtain ⟨V, hV⟩ : ∃ V, V = (((w.alloc (Obj.cells #[.int .i64 r, .slice A n c] 26)).alloc (Obj.cells #[.int .i64 0, .int .i64 0, .int .i64 0, .slice none 0 0] 36)).alloc (Obj.cells #[.int .i64 0, .slice none 0 0] 26)) := ⟨_, rfl⟩
  have sV : w.heap.size + 1 + 1 < V.heap.size := by rw [hV]; simp
  have X0 := Lib.hid (show BoxG V w.heap.size (.int .i64 r) (.slice A n c) from by rw [hV]; exact (((BoxG.new w _ _ _).below (al1 _ _) (by simp)).below (al1 _ _) (by simp; omega)))
  have T0 := Lib.hid (show BoxT V (w.heap.size + 1) (.int .i64 0) (.int .i64 0) (.int .i64 0) (.slice none 0 0) from by rw [hV]; simpa using (BoxT.new (w.alloc (Obj.cells #[.int .i64 r, .slice A n c] 26)) 36 (.int .i64 0) (.int .i64 0) (.int .i64 0) (.slice none 0 0)).below (al1 _ _) (by simp))
  have H0 := Lib.hid (show Free V (w.heap.size + 1) from by rw [hV]; simpa using (Free.new (w.alloc (Obj.cells #[.int .i64 r, .slice A n c] 26)) 36 #[.int .i64 0, .int .i64 0, .int .i64 0, .slice none 0 0]).below (al1 _ _) (by simp))
  have Z0 := Lib.hid (show BoxG V (w.heap.size + 1 + 1) (.int .i64 0) (.slice none 0 0) from by rw [hV]; simpa using BoxG.new ((w.alloc (Obj.cells #[.int .i64 r, .slice A n c] 26)).alloc (Obj.cells #[.int .i64 0, .int .i64 0, .int .i64 0, .slice none 0 0] 36)) 26 (.int .i64 0) (.slice none 0 0))
  have G0 := Lib.hid (show Free V (w.heap.size + 1 + 1) from by rw [hV]; simpa using Free.new ((w.alloc (Obj.cells #[.int .i64 r, .slice A n c] 26)).alloc (Obj.cells #[.int .i64 0, .int .i64 0, .int .i64 0, .slice none 0 0] 36)) 26 #[.int .i64 0, .slice none 0 0])
  have DV := Lib.hid (show Below w.heap.size w V from by rw [hV]; exact al3 _ _ _ _)

  go_enter Try.func48, Try.ntmps48
  go_upto_region 1 with fail
  rw [← hV]
  clear hV
  have v0 : w.heap.size < V.heap.size := by omega
  have v1 : w.heap.size + 1 < V.heap.size := by omega
  go_wp2
  go_loopw [5] (fun x W => ∃ i : Nat, i ≤ n ∧ x = .int .i64 i ∧ (∀ k, k < i → (rs.getD k nilRw).zs ≠ []) ∧ Below V.heap.size V W) (fun x _ => n - (intOf x).toNat)
  case atStart => exact ⟨0, Nat.zero_le _, rfl, fun i' h1 => by omega, Below.refl _ _⟩
  case round =>
    obtain ⟨i, hi, rfl, hno, hbel⟩ := hrel
    have NE := Lib.hid hno
    have DB := Lib.hid hbel
    have zV : V.heap.size ≤ wr.heap.size := hbel.size
    clear hno hbel
    obtain ⟨x0, x1⟩ := X0.out.below DB.out (by omega)
    by_cases hlt : i < n
    · by_cases he : (rs.getD i nilRw).zs = []
      · have S1 := Lib.hid (SD.out i hlt NE.out he)
        have CA := Lib.hid (AP.out 4 i 0)
        have Q1 := DY.out i hlt he
        rw [Q1] at CA
        clear Q1 he
        have l0 : w.heap.size < wr.heap.size := by omega
        go_wp2_with fail
        refine (CA.out _ ((DV.out.trans (DB.out.mono (by omega))).alloc (by omega) _)).mono ?_
        rintro e w2 ⟨A5, c5, rs5, rfl, ho5, hv5, hb5⟩
        have z2 : wr.heap.size < w2.heap.size := by have := hb5.size; simp at this; omega
        have BM := Lib.hid ((BoxT.new wr 36 (.int .i64 4) (.int .i64 i) (.int .i64 0) (.slice none 0 0)).below hb5 (by simp))
        have B2 := Lib.hid (DB.out.trans ((on1 _ hb5).mono zV))
        have O5 := Lib.hid (OwnS.wide (lo' := wr.heap.size) (hi' := w2.heap.size) ho5 (by simp) (Nat.le_refl _))
        have V5 := Lib.hid hv5
        clear ho5 hv5 hb5 x0 x1
        go_upto_region 7 with fail
        obtain ⟨W, hW⟩ : ∃ W, W = w2.alloc (Obj.cells #[.int .i64 r, .slice A5 rs5.length c5] 26) := ⟨_, rfl⟩
        rw [← hW]
        have BW := Lib.hid (show Below w2.heap.size w2 W from by rw [hW]; exact al1 _ _)
        have P7 := Lib.hid (show BoxG W w2.heap.size (.int .i64 r) (.slice A5 rs5.length c5) from by rw [hW]; exact BoxG.new w2 _ _ _)
        have sW : W.heap.size = w2.heap.size + 1 := by rw [hW]; simp
        clear hW
        have DW := Lib.hid ((DV.out.trans (B2.out.mono (by omega))).trans (BW.out.mono (by omega)))
        obtain ⟨p0, p1⟩ := P7.out
        obtain ⟨m0, m1, m2, m3⟩ := BM.out.below BW.out (by omega)
        obtain ⟨s0, s1⟩ := (Z0.out.below B2.out (by omega)).below BW.out (by omega)
        obtain ⟨u0, u1, u2, u3⟩ := (T0.out.below B2.out (by omega)).below BW.out (by omega)
        have f0 := (G0.out.below B2.out (by omega)).below BW.out (by omega)
        have f1 := (H0.out.below B2.out (by omega)).below BW.out (by omega)
        unfold Free at f0 f1
        have n0 : ¬ w.heap.size + 1 = w2.heap.size := by omega
        have n1 : ¬ w2.heap.size = w.heap.size + 1 := by omega
        have n2 : ¬ w.heap.size + 1 + 1 = w2.heap.size := by omega
        have n3 : ¬ w2.heap.size = w.heap.size + 1 + 1 := by omega
        have n4 : ¬ w.heap.size + 1 = wr.heap.size := by omega
        have n5 : ¬ wr.heap.size = w.heap.size + 1 := by omega
        have n6 : ¬ w.heap.size + 1 + 1 = wr.heap.size := by omega
        have n7 : ¬ wr.heap.size = w.heap.size + 1 + 1 := by omega
        have n8 : ¬ w.heap.size + 1 + 1 = w.heap.size + 1 := by omega
        have n9 : ¬ w.heap.size + 1 = w.heap.size + 1 + 1 := by omega
        go_region
        all_goals
          go_wp2
          refine bodyPost_ret (v := .tuple #[.agg #[.int .i64 4, .int .i64 i, .int .i64 0, .slice none 0 0], .agg #[.int .i64 r, .slice A5 rs5.length c5], .bool true]) (by simp [results, Try.results48, s0, s1, u0, u1, u2, u3, go_sem]) rfl ?_
          exact ResSs.yes (z2 := (vals rs).eraseIdx i) S1.out (OwnS.wide (O5.out.below BW.out (Nat.le_refl _)) (Nat.le_refl _) (by omega)) V5.out DW.out (by omega) (by omega) (by omega) (by omega) _ _ _ _ _ _

      · have CA := Lib.hid (AP.out 4 i 0)
        have Q1 := DN.out i hlt he
        rw [Q1] at CA
        clear Q1
        have NX := Lib.hid (show ∀ k, k < i + 1 → (rs.getD k nilRw).zs ≠ [] from fun k hk => by
          by_cases e : k = i
          · rw [e]; exact he
          · exact NE.out k (by omega))
        clear he
        have l0 : w.heap.size < wr.heap.size := by omega
        go_wp2_with fail
        refine (CA.out _ ((DV.out.trans (DB.out.mono (by omega))).alloc (by omega) _)).mono ?_
        rintro e w2 ⟨A5, c5, rs5, rfl, ho5, hv5, hb5⟩
        have z2 : wr.heap.size < w2.heap.size := by have := hb5.size; simp at this; omega
        have BM := Lib.hid ((BoxT.new wr 36 (.int .i64 4) (.int .i64 i) (.int .i64 0) (.slice none 0 0)).below hb5 (by simp))
        have B2 := Lib.hid (DB.out.trans ((on1 _ hb5).mono zV))
        have O5 := Lib.hid (OwnS.wide (lo' := wr.heap.size) (hi' := w2.heap.size) ho5 (by simp) (Nat.le_refl _))
        have V5 := Lib.hid hv5
        clear ho5 hv5 hb5 x0 x1
        go_wp2
        go_roundw
        case rel => exact ⟨i + 1, by omega, by go_num, NX.out, B2.out.alloc (by omega) _⟩
        case measure => simp [intOf]; omega
    have hin : i = n := by omega
    have SR2 := Lib.hid (fun (a b : Int) => SR.out a b (by rw [← hin]; exact NE.out))
    have SN2 := Lib.hid (SN.out (by rw [← hin]; exact NE.out))
    clear hin NE SR SN SD DY DN
    go_wp2
    clear x0 x1 hlt hi
    go_loopw [9] (fun x W => ∃ i : Nat, i ≤ n ∧ x = .int .i64 i ∧ (∀ i' : Int, 0 ≤ i' → i' < i → ∀ j' : Int, 1 ≤ j' → j' ≤ r → (ap 5 i' j').2.2 ≠ 0) ∧ Below V.heap.size V W) (fun x _ => n - (intOf x).toNat)
    case atStart => exact ⟨0, Nat.zero_le _, rfl, fun i' h1 h2 => by omega, DB.out⟩
    case round =>
      obtain ⟨i, hi, rfl, hno, hbel⟩ := hrel
      have NO := Lib.hid hno
      have DB := Lib.hid hbel
      have zV : V.heap.size ≤ wr.heap.size := hbel.size
      clear hno hbel
      obtain ⟨x0, x1⟩ := X0.out.below DB.out (by omega)
      by_cases hlt : i < n
      case neg =>
        have hin : i = n := by omega
        have S1 := Lib.hid (SN2.out (fun i' h1 h2 j' h3 h4 => NO.out i' h1 (by omega) j' h3 h4))
        subst hin
        obtain ⟨s0, s1⟩ := Z0.out.below DB.out (by omega)
        obtain ⟨u0, u1, u2, u3⟩ := T0.out.below DB.out (by omega)
        have f0 := G0.out.below DB.out (by omega)
        have f1 := H0.out.below DB.out (by omega)
        unfold Free at f0 f1
        have n8 : ¬ w.heap.size + 1 + 1 = w.heap.size + 1 := by omega
        have n9 : ¬ w.heap.size + 1 = w.heap.size + 1 + 1 := by omega
        have na : ¬ w.heap.size = w.heap.size + 1 := by omega
        have nb : ¬ w.heap.size = w.heap.size + 1 + 1 := by omega
        have nc : ¬ w.heap.size + 1 = w.heap.size := by omega
        have nd : ¬ w.heap.size + 1 + 1 = w.heap.size := by omega
        go_upto_region 18 with fail
        go_region
        all_goals
          go_wp2
          refine bodyPost_ret (v := .tuple #[.agg #[.int .i64 0, .int .i64 0, .int .i64 0, .slice none 0 0], .agg #[.int .i64 r, .slice A i c], .bool false]) (by simp [results, Try.results48, s0, s1, u0, u1, u2, u3, go_sem]) rfl ?_
          exact ResSs.no S1.out (DV.out.trans (DB.out.mono (by omega))) (by omega) (by omega) _ _ _ _ _ _
      · go_wp2
        clear x0 x1
        go_loopw [10] (fun y W => ∃ j : Nat, 1 ≤ j ∧ (j : Int) ≤ r + 1 ∧ y = .int .i64 j ∧ (∀ j' : Int, 1 ≤ j' → j' < j → (ap 5 i j').2.2 ≠ 0) ∧ Below V.heap.size V W) (fun y _ => (r + 1).toNat - (intOf y).toNat)
        case atStart => exact ⟨1, Nat.le_refl _, by omega, rfl, fun j' h1 h2 => by omega, DB.out⟩
        case round =>
          obtain ⟨j, hj1, hj2, rfl, hno2, hbel⟩ := hrel
          have NO2 := Lib.hid hno2
          have DB := Lib.hid hbel
          have zV : V.heap.size ≤ wr.heap.size := hbel.size
          clear hno2 hbel
          obtain ⟨x0, x1⟩ := X0.out.below DB.out (by omega)
          by_cases hle : (j : Int) ≤ r
          case neg =>
            have NX := Lib.hid (show ∀ i' : Int, 0 ≤ i' → i' < (i + 1 : Nat) → ∀ j' : Int, 1 ≤ j' → j' ≤ r → (ap 5 i' j').2.2 ≠ 0 from fun i' h1 h2 j' h3 h4 => by
              by_cases e : i' = i
              · rw [e]; exact NO2.out j' h3 (by omega)
              · exact NO.out i' h1 (by omega) j' h3 h4)
            go_wp2
            go_roundw
            case rel => exact ⟨i + 1, by omega, by go_num, NX.out, DB.out⟩
            case measure => simp [intOf]; omega
          · have CA := Lib.hid (AP.out 5 i j)
            obtain ⟨q, hq⟩ : ∃ q, ap 5 i j = q := ⟨_, rfl⟩
            have SQ := Lib.hid (fun (h0 : q.2.2 = 0) => SR2.out i j (by omega) (by omega) (by omega) hle (fun i' h1 h2 j' h3 h4 => NO.out i' h1 h2 j' h3 h4) (fun j' h1 h2 => NO2.out j' h1 h2) (by rw [hq]; exact h0))
            have QQ := Lib.hid hq
            rw [hq] at CA SQ
            clear hq
            have l0 : w.heap.size < wr.heap.size := by omega
            go_wp2_with fail
            refine (CA.out _ ((DV.out.trans (DB.out.mono (by omega))).alloc (by omega) _)).mono ?_
            rintro e w2 ⟨A5, c5, rs5, rfl, ho5, hv5, hb5⟩
            have z2 : wr.heap.size < w2.heap.size := by have := hb5.size; simp at this; omega
            have BM := Lib.hid ((BoxT.new wr 36 (.int .i64 5) (.int .i64 i) (.int .i64 j) (.slice none 0 0)).below hb5 (by simp))
            have B2 := Lib.hid (DB.out.trans ((on1 _ hb5).mono zV))
            have O5 := Lib.hid (OwnS.wide (lo' := wr.heap.size) (hi' := w2.heap.size) ho5 (by simp) (Nat.le_refl _))
            have V5 := Lib.hid hv5
            clear ho5 hv5 hb5 x0 x1
            by_cases hc : q.2.2 = 0
            case neg =>
              have t1 : (q.2.2 == 0) = false := by simpa using hc
              have NX := Lib.hid (show ∀ j' : Int, 1 ≤ j' → j' < (j + 1 : Nat) → (ap 5 i j').2.2 ≠ 0 from fun j' h1 h2 => by
                by_cases e : j' = j
                · rw [e, QQ.out]; exact hc
                · exact NO2.out j' h1 (by omega))
              clear hc
              go_wp2
              go_roundw
              case rel => exact ⟨j + 1, by omega, by omega, by go_num, NX.out, B2.out.alloc (by omega) _⟩
              case measure => simp [intOf]; omega
            · have t1 : (q.2.2 == 0) = true := by simpa using hc
              have S1 := Lib.hid (SQ.out hc)
              clear hc
              go_upto_region 17 with fail
              obtain ⟨W, hW⟩ : ∃ W, W = w2.alloc (Obj.cells #[.int .i64 q.1, .slice A5 rs5.length c5] 26) := ⟨_, rfl⟩
              rw [← hW]
              have BW := Lib.hid (show Below w2.heap.size w2 W from by rw [hW]; exact al1 _ _)
              have P7 := Lib.hid (show BoxG W w2.heap.size (.int .i64 q.1) (.slice A5 rs5.length c5) from by rw [hW]; exact BoxG.new w2 _ _ _)
              have sW : W.heap.size = w2.heap.size + 1 := by rw [hW]; simp
              clear hW
              have DW := Lib.hid ((DV.out.trans (B2.out.mono (by omega))).trans (BW.out.mono (by omega)))
              obtain ⟨p0, p1⟩ := P7.out
              obtain ⟨m0, m1, m2, m3⟩ := BM.out.below BW.out (by omega)
              obtain ⟨s0, s1⟩ := (Z0.out.below B2.out (by omega)).below BW.out (by omega)
              obtain ⟨u0, u1, u2, u3⟩ := (T0.out.below B2.out (by omega)).below BW.out (by omega)
              have f0 := (G0.out.below B2.out (by omega)).below BW.out (by omega)
              have f1 := (H0.out.below B2.out (by omega)).below BW.out (by omega)
              unfold Free at f0 f1
              have n0 : ¬ w.heap.size + 1 = w2.heap.size := by omega
              have n1 : ¬ w2.heap.size = w.heap.size + 1 := by omega
              have n2 : ¬ w.heap.size + 1 + 1 = w2.heap.size := by omega
              have n3 : ¬ w2.heap.size = w.heap.size + 1 + 1 := by omega
              have n4 : ¬ w.heap.size + 1 = wr.heap.size := by omega
              have n5 : ¬ wr.heap.size = w.heap.size + 1 := by omega
              have n6 : ¬ w.heap.size + 1 + 1 = wr.heap.size := by omega
              have n7 : ¬ wr.heap.size = w.heap.size + 1 + 1 := by omega
              have n8 : ¬ w.heap.size + 1 + 1 = w.heap.size + 1 := by omega
              have n9 : ¬ w.heap.size + 1 = w.heap.size + 1 + 1 := by omega
              go_region
              all_goals
                go_wp2
                refine bodyPost_ret (v := .tuple #[.agg #[.int .i64 5, .int .i64 i, .int .i64 j, .slice none 0 0], .agg #[.int .i64 q.1, .slice A5 rs5.length c5], .bool true]) (by simp [results, Try.results48, s0, s1, u0, u1, u2, u3, go_sem]) rfl ?_
                exact ResSs.yes (z2 := q.2.1) S1.out (OwnS.wide (O5.out.below BW.out (Nat.le_refl _)) (Nat.le_refl _) (by omega)) V5.out DW.out (by omega) (by omega) (by omega) (by omega) _ _ _ _ _ _


end Go.Proofs.Ytjommpdblbbkdaa

namespace Go.Proofs.Ytjommpdblbbkdaa
open Go.RowKit

def mvv (m : Int × Int × Int) : List Value := [.int .i64 m.1, .int .i64 m.2.1, .int .i64 m.2.2, .slice none 0 0]
/-- The cells of a list of moves. -/
def mvc : List (Int × Int × Int) → List Value
  | [] => []
  | m :: ms => mvv m ++ mvc ms
theorem mvc_len (ms : List (Int × Int × Int)) : (mvc ms).length = ms.length * 4 := by
  induction ms with
  | nil => rfl
  | cons m ms ih => simp [mvc, mvv, ih]; omega
theorem mvc_app (a b : List (Int × Int × Int)) : mvc (a ++ b) = mvc a ++ mvc b := by
  induction a with
  | nil => rfl
  | cons m a ih => simp [mvc, ih]
theorem mvc_at {ms : List (Int × Int × Int)} {j k : Nat} (hj : j < ms.length) (hk : k < 4) : (mvc ms)[j * 4 + k]? = (mvv (ms.getD j (0, 0, 0)))[k]? := by
  induction ms generalizing j with
  | nil => simp at hj
  | cons m ms ih =>
    cases j with
    | zero =>
      rw [mvc, Nat.zero_mul, Nat.zero_add, List.getElem?_append_left (by simp [mvv]; omega)]
      rfl
    | succ j =>
      rw [mvc, List.getElem?_append_right (by simp [mvv]; omega)]
      have e : (j + 1) * 4 + k - (mvv m).length = j * 4 + k := by simp [mvv]; omega
      rw [e, ih (by simpa using hj)]
      rfl
theorem mvc_set3 {ms : List (Int × Int × Int)} {j : Nat} (hj : j < ms.length) (x y z : Int) : (((mvc ms).set (j * 4) (.int .i64 x)).set (j * 4 + 1) (.int .i64 y)).set (j * 4 + 2) (.int .i64 z) = mvc (ms.set j (x, y, z)) := by
  induction ms generalizing j with
  | nil => simp at hj
  | cons m ms ih =>
    cases j with
    | zero => simp [mvc, mvv]
    | succ j =>
      have e0 : (j + 1) * 4 = j * 4 + 4 := by omega
      have := ih (j := j) (by simpa using hj)
      rw [List.set_cons_succ, mvc, mvc, ← this, e0]
      simp [mvv]

/-- A list of moves in memory of the call's own. -/
structure OwnT (w : World) (lo hi : Nat) (A : Option Addr) (c : Nat) (ms : List (Int × Int × Int)) : Prop where
  row : w.ownsRow lo 36 4 (.slice A ms.length c) ms.length (mvc ms)
  top : ∀ a, A = some a → a.block < hi
/-- A list of moves that reads. -/
def RdT (w : World) (B : Nat) (A : Option Addr) (ms : List (Int × Int × Int)) : Prop :=
  0 < ms.length → ∃ b off, A = some ⟨b, off, none⟩ ∧ b < B ∧ ∀ j, j < ms.length → w.cell? ⟨b, off + j * 4, none⟩ = some (.int .i64 (ms.getD j (0, 0, 0)).1) ∧ w.cell? ⟨b, off + j * 4 + 1, none⟩ = some (.int .i64 (ms.getD j (0, 0, 0)).2.1) ∧ w.cell? ⟨b, off + j * 4 + 2, none⟩ = some (.int .i64 (ms.getD j (0, 0, 0)).2.2) ∧ w.cell? ⟨b, off + j * 4 + 3, none⟩ = some (.slice none 0 0)
section
variable {w w' : World} {lo hi lo' hi' B c : Nat} {A : Option Addr} {ms : List (Int × Int × Int)}
theorem OwnT.nil (w : World) (lo hi : Nat) : OwnT w lo hi none 0 [] := ⟨World.ownsRow_nil _ _ _ _, fun _ h => by cases h⟩
theorem OwnT.empty (w : World) : OwnT (w.alloc (Obj.cells #[] 36)) w.heap.size (w.heap.size + 1) (some ⟨w.heap.size, 0, none⟩) 0 [] :=
  ⟨⟨rfl, .inr ⟨w.heap.size, 0, #[], rfl, Nat.le_refl _, heap_alloc_new w _, Nat.le_refl _, Nat.zero_le _, rfl, rfl⟩⟩, fun a ha => by cases ha; exact Nat.lt_succ_self _⟩
theorem OwnT.keep (h : OwnT w lo hi A c ms) (hk : ∀ k, lo ≤ k → k < hi → w'.heap[k]? = w.heap[k]?) : OwnT w' lo hi A c ms := by
  refine ⟨⟨h.row.1, ?_⟩, h.top⟩
  rcases h.row.2 with h0 | ⟨g, cap, cur, hv, hb, hg, r⟩
  · exact .inl h0
  · refine .inr ⟨g, cap, cur, hv, hb, ?_, r⟩
    injection hv with h1 h2 h3
    rw [hk g hb (h.top _ h1)]
    exact hg
theorem OwnT.below (h : OwnT w lo hi A c ms) (hb : Below B w w') (hB : hi ≤ B) : OwnT w' lo hi A c ms := h.keep fun k _ h2 => hb.block k (by omega)
theorem OwnT.kept (h : OwnT w lo hi A c ms) (hb : Kept lo' hi' w w') (hw : hi ≤ w.heap.size) (hd : hi ≤ lo' ∨ hi' ≤ lo) : OwnT w' lo hi A c ms := h.keep fun k h1 h2 => hb.block k (by omega) (by omega)
theorem OwnT.wide (h : OwnT w lo hi A c ms) (h1 : lo' ≤ lo) (h2 : hi ≤ hi') : OwnT w lo' hi' A c ms :=
  ⟨⟨h.row.1, h.row.2.elim .inl fun ⟨g, cap, cur, hv, hb, r⟩ => .inr ⟨g, cap, cur, hv, by omega, r⟩⟩, fun a ha => by have := h.top a ha; omega⟩
theorem OwnT.far (h : OwnT w lo hi A c ms) {p : Addr} (hp : p.block < lo ∨ hi ≤ p.block) (u : Value) : OwnT (w.setCell p u) lo hi A c ms := h.keep fun k h1 h2 => Below.heap_setCell w p u k (by omega)
theorem OwnT.cap (h : OwnT w lo hi A c ms) : ms.length ≤ c ∧ c ≤ maxLen := by
  rcases h.row.2 with ⟨h0, h1⟩ | ⟨g', cap, cur, hv, hb, hg, h1, h2, h3, h4⟩
  · injection h0 with _ e2 e3
    subst e3
    exact ⟨by omega, Nat.zero_le _⟩
  · injection hv with e1 e2 e3
    subst e3
    exact ⟨h1, h2⟩
theorem OwnT.at_ (h : OwnT w lo hi A c ms) (h0 : 0 < ms.length) : ∃ g, A = some ⟨g, 0, none⟩ ∧ lo ≤ g ∧ g < hi ∧ ∀ j k, j < ms.length → k < 4 → w.cell? ⟨g, j * 4 + k, none⟩ = (mvv (ms.getD j (0, 0, 0)))[k]? ∧ w.frozen? ⟨g, j * 4 + k, none⟩ = false := by
  obtain ⟨g, cap, hv, hb, _⟩ := World.ownsRow.form h.row h0
  injection hv with h1 h2 h3
  subst h1
  have hr := h.row
  refine ⟨g, rfl, hb, h.top _ rfl, fun j k hj hk => ⟨?_, World.ownsRow.frozenAt (by exact hr) _⟩⟩
  rw [World.ownsRow.cellAt (by exact hr) (j * 4 + k) (by first | omega | (rw [mvc_len]; omega)), mvc_at hj hk]
theorem OwnT.rd (h : OwnT w lo hi A c ms) : RdT w hi A ms := fun h0 => by
  obtain ⟨g, e, _, h2, h3⟩ := h.at_ h0
  refine ⟨g, 0, e, h2, fun j hj => ?_⟩
  rw [Nat.zero_add]
  exact ⟨(h3 j 0 hj (by omega)).1, (h3 j 1 hj (by omega)).1, (h3 j 2 hj (by omega)).1, (h3 j 3 hj (by omega)).1⟩
/-- A move's three numbers are written. -/
theorem OwnT.set3 {g : Nat} (h : OwnT w lo hi (some ⟨g, 0, none⟩) c ms) {j : Nat} (hj : j < ms.length) (x y z : Int) :
    OwnT (((w.setCell ⟨g, j * 4, none⟩ (.int .i64 x)).setCell ⟨g, j * 4 + 1, none⟩ (.int .i64 y)).setCell ⟨g, j * 4 + 2, none⟩ (.int .i64 z)) lo hi (some ⟨g, 0, none⟩) c (ms.set j (x, y, z)) := by
  have h1 := (World.ownsRow.stored (by exact h.row) (j * 4) (.int .i64 x)).1
  have h2 := (World.ownsRow.stored (by exact h1) (j * 4 + 1) (.int .i64 y)).1
  have h3 := (World.ownsRow.stored (by exact h2) (j * 4 + 2) (.int .i64 z)).1
  rw [mvc_set3 hj] at h3
  exact ⟨by rw [List.length_set]; exact h3, h.top⟩
theorem RdT.below (h : RdT w B A ms) (hb : Below B w w') : RdT w' B A ms := fun h0 => by
  obtain ⟨b, off, e, h1, h2⟩ := h h0
  refine ⟨b, off, e, h1, fun j hj => ?_⟩
  obtain ⟨a0, a1, a2, a3⟩ := h2 j hj
  exact ⟨(hb.cell h1).trans a0, (hb.cell h1).trans a1, (hb.cell h1).trans a2, (hb.cell h1).trans a3⟩
theorem RdT.more {B' : Nat} (h : RdT w B A ms) (hb : B ≤ B') : RdT w B' A ms := fun h0 => by
  obtain ⟨b, off, e, h1, h2⟩ := h h0
  exact ⟨b, off, e, by omega, h2⟩
end

theorem infoT : (Try.prog.info? 36).map (fun i => (i.zero, i.size, i.bytes)) = some (some (.agg #[.int .i64 0, .int .i64 0, .int .i64 0, .slice none 0 0]), 4, 48) := by kernel_rfl

/-- A move is appended to a list of the call's own. -/
theorem push_move {w : World} {ops : Array Oper} {rest : List Oper} {o : Oper} {a : Act} {Q : Exit → Act → World → Prop} (hgd : o.guard = none) (s x : Operand) (ho : o.op = .call { callee := .builtin .append, args := #[s, x], argTypes := #[28, 28] })
    (lo hi c n g : Nat) (A : Option Addr) (ms : List (Int × Int × Int)) (m : Int × Int × Int) (hs : a.eval s = .slice A n c) (hn : ms.length = n) (hown : OwnT w lo hi A c ms) (hx : a.eval x = .slice (some ⟨g, 0, none⟩) 1 1) (hc : ∀ k, k < 4 → w.cell? ⟨g, k, none⟩ = (mvv m)[k]?) (hlo : lo ≤ w.heap.size) (hlen : n ≤ 1048576)
    (h : ∀ g' c' w', OwnT w' lo w'.heap.size (some ⟨g', 0, none⟩) c' (ms ++ [m]) → Kept lo hi w w' → (A = some ⟨g', 0, none⟩ ∨ g' = w.heap.size) → w.heap.size ≤ w'.heap.size → lo ≤ g' → g' < w'.heap.size → wpList Try.prog ops Q rest (a.put o.dst (.slice (some ⟨g', 0, none⟩) (n + 1) c')) w') : wpList Try.prog ops Q (o :: rest) a w := by
  obtain ⟨ti, hi0, hz0, hz1, hz2⟩ := info_parts infoT
  subst hn
  refine wpList_append_lies w hgd s x 28 ho lo 36 ti _ 4 48 Try.underlying28 hi0 hz0 hz1 hz2 rfl (by decide) (.slice A ms.length c) ms.length (mvc ms) hs hown.row ⟨g, 0, none⟩ 1 1 (mvv m) hx rfl
    (by
      intro j u hj
      have hj4 : j < 4 := by
        rcases Nat.lt_or_ge j 4 with h | h
        · exact h
        · rw [List.getElem?_eq_none (by simpa [mvv] using h)] at hj; cases hj
      rw [show (⟨g, 0, none⟩ : Addr).add j = ⟨g, j, none⟩ from by unfold Addr.add; split <;> simp_all, hc j hj4]
      exact hj)
    (by intro u hu; simp [mvv] at hu; rcases hu with rfl | rfl | rfl | rfl <;> rfl) (by omega) (by unfold maxLen; omega) (by omega) hlo _ rfl ?_
  intro g' cap w' h1 hg hat hlt
  have hob : ∀ k, (Value.slice A ms.length c).ownBlock = some k → lo ≤ k ∧ k < hi := fun k hk => by
    cases A with
    | none => simp [Value.ownBlock] at hk
    | some p =>
      have h2 := hown.top p rfl
      have h4 := (World.ownsRow.lt hown.row k hk).1
      simp [Value.ownBlock] at hk
      subst hk
      exact ⟨h4, h2⟩
  have hk : Kept lo hi w w' := Wd.kept_grown hg fun k hk => hob k hk
  refine h g' cap w' ⟨?_, fun a ha => by cases ha; exact hlt⟩ hk ?_ hg.size ?_ hlt
  · rw [List.length_append, mvc_app]
    exact h1
  · rcases hat with hat | hat
    · cases A with
      | none => simp [Value.ownBlock] at hat
      | some p =>
        have hf := World.ownsRow.lt hown.row g' hat
        rcases hown.row.2 with ⟨h0, _⟩ | ⟨g2, cap2, cur2, hv, _⟩
        · cases h0
        · injection hv with e1
          injection e1 with e1
          subst e1
          simp [Value.ownBlock] at hat
          subst hat
          exact .inl rfl
    · exact .inr hat
  · rcases hat with hat | hat
    · exact (hob g' hat).1
    · omega
/-- Its block alone. -/
theorem OwnT.tight {w : World} {lo hi g c : Nat} {ms : List (Int × Int × Int)} (h : OwnT w lo hi (some ⟨g, 0, none⟩) c ms) : OwnT w g (g + 1) (some ⟨g, 0, none⟩) c ms := by
  refine ⟨⟨h.row.1, ?_⟩, fun a ha => by cases ha; exact Nat.lt_succ_self _⟩
  rcases h.row.2 with ⟨h0, _⟩ | ⟨g2, cap, cur, hv, hb, hg, r⟩
  · cases h0
  · have e : g = g2 := by injection hv with e1; injection e1 with e1; injection e1
    exact .inr ⟨g2, cap, cur, hv, by omega, hg, r⟩

end Go.Proofs.Ytjommpdblbbkdaa

namespace Go.Proofs.Ytjommpdblbbkdaa
open Go.RowKit

/-- All of a simplification: the presentation, the moves and the code. -/
def simpAll (r : Int) (z : List (List Int)) : Int × List (List Int) × List (Int × Int × Int) × Int :=
  if Wd.isP r z = true then ((simpRun 200 r z).1.1, (simpRun 200 r z).1.2, (simpRun 200 r z).2, 0) else (0, [], [], 1)
/-- A presentation, a list of moves and a code, each in memory of its own. -/
def ResPT (w : World) (q : Int × List (List Int) × List (Int × Int × Int) × Int) (e : Ending) (w' : World) : Prop :=
  ∃ A c rs At ct lo hi lo2 hi2, e = .returned (.tuple #[.agg #[.int .i64 q.1, .slice A rs.length c], .slice At q.2.2.1.length ct, .int .i64 q.2.2.2]) ∧ OwnS w' lo hi A c rs ∧ vals rs = q.2.1 ∧ OwnT w' lo2 hi2 At ct q.2.2.1 ∧ (hi2 ≤ lo ∨ hi ≤ lo2) ∧ w.heap.size ≤ lo ∧ w.heap.size ≤ lo2 ∧ hi ≤ w'.heap.size ∧ hi2 ≤ w'.heap.size ∧ Below w.heap.size w w'
theorem ResPT.fin {w W : World} {q : Int × List (List Int) × List (Int × Int × Int) × Int} {A At : Option Addr} {c ct lo hi lo2 hi2 b : Nat} {rs : List Rw} (ho : OwnS W lo hi A c rs) (hv : vals rs = q.2.1) (ht : OwnT W lo2 hi2 At ct q.2.2.1) (hd : hi2 ≤ lo ∨ hi ≤ lo2) (h1 : w.heap.size ≤ lo) (h2 : w.heap.size ≤ lo2) (h3 : hi ≤ W.heap.size) (h4 : hi2 ≤ W.heap.size) (hb : Below w.heap.size w W)
    (hw : w.heap.size ≤ b) (h5 : b < lo ∨ hi ≤ b) (h6 : b < lo2 ∨ hi2 ≤ b) (x y : Value) :
    ResPT w q (.returned (.tuple #[.agg #[.int .i64 q.1, .slice A rs.length c], .slice At q.2.2.1.length ct, .int .i64 q.2.2.2])) ((W.setCell ⟨b, 0, none⟩ x).setCell ⟨b, 1, none⟩ y) :=
  ⟨A, c, rs, At, ct, lo, hi, lo2, hi2, rfl, (ho.far (p := ⟨b, 0, none⟩) h5 _).far (p := ⟨b, 1, none⟩) h5 _, hv, (ht.far (p := ⟨b, 0, none⟩) h6 _).far (p := ⟨b, 1, none⟩) h6 _, hd, h1, h2, by simpa [World.setCell] using h3, by simpa [World.setCell] using h4, (hb.setCell hw _).setCell hw _⟩
/-- The state of a simplification: the presentation in a box, the moves so far. -/
def SimSt (w : World) (sb : Nat) (N : Nat) (F : (Int × List (List Int)) × List (Int × Int × Int)) (k : Nat) (y : Value) (W : World) : Prop :=
  ∃ (r' : Int) (A : Option Addr) (c : Nat) (rs : List Rw) (At : Option Addr) (ct gm lo hi : Nat) (ms : List (Int × Int × Int)), y = .slice At ms.length ct ∧ ms.length = k ∧ k ≤ N ∧ BoxG W sb (.int .i64 r') (.slice A rs.length c) ∧ Free W sb ∧ OwnS W lo hi A c rs ∧ Wd.isP r' (vals rs) = true ∧ OwnT W gm (gm + 1) At ct ms ∧ (gm + 1 ≤ lo ∨ hi ≤ gm) ∧ w.heap.size + 1 + 1 ≤ lo ∧ hi ≤ W.heap.size ∧ w.heap.size ≤ gm ∧ gm < W.heap.size ∧ gm ≠ w.heap.size + 1 ∧ gm ≠ sb ∧ (sb < lo ∨ hi ≤ sb) ∧ F = ((simpRun (N - k) r' (vals rs)).1, ms ++ (simpRun (N - k) r' (vals rs)).2) ∧ Below w.heap.size w W ∧ Below (w.heap.size + 1 + 1) W W

set_option maxRecDepth 100000 in
set_option maxHeartbeats 16000000 in
theorem simplify_impl (r : Int) (A : Option Addr) (c : Nat) (rs : List Rw) (w : World) (h : RdS w w.heap.size A rs) (hn : rs.length ≤ 1048576) (hrow : ∀ q ∈ rs, q.zs.length ≤ 1048576) :
    Calls Try.prog 8 #[.agg #[.int .i64 r, .slice A rs.length c]] w (ResPT w (simpAll r (vals rs))) := by
  have IP := Lib.hid (fun (W : World) (hb : Below w.heap.size w W) => isPres_impl r A c rs W (h.into hb) hn hrow)
  have CL := Lib.hid (fun (W : World) (hb : Below w.heap.size w W) => cloneP_any r A c rs W (h.into hb) hn hrow)
  have HN := Lib.hid (show vals rs = vals rs from rfl)
  obtain ⟨n, hrn⟩ : ∃ n, rs.length = n := ⟨_, rfl⟩
  obtain ⟨z, hzv⟩ : ∃ z, vals rs = z := ⟨_, rfl⟩
  rw [hrn] at IP CL ⊢
  rw [hzv] at IP CL ⊢
  clear h hn hrow hrn hzv HN
  obtain ⟨V, hV⟩ : ∃ V, V = ((w.alloc (Obj.cells #[.int .i64 r, .slice A n c] 26)).alloc (Obj.cells #[.int .i64 0, .slice none 0 0] 26)) := ⟨_, rfl⟩
  have sV : w.heap.size + 1 < V.heap.size := by rw [hV]; simp
  have X0 := Lib.hid (show BoxG V w.heap.size (.int .i64 r) (.slice A n c) from by rw [hV]; exact (BoxG.new w _ _ _).below (al1 _ _) (by simp))
  have Z0 := Lib.hid (show BoxG V (w.heap.size + 1) (.int .i64 0) (.slice none 0 0) from by rw [hV]; simpa using BoxG.new (w.alloc (Obj.cells #[.int .i64 r, .slice A n c] 26)) 26 (.int .i64 0) (.slice none 0 0))
  have G0 := Lib.hid (show Free V (w.heap.size + 1) from by rw [hV]; simpa using Free.new (w.alloc (Obj.cells #[.int .i64 r, .slice A n c] 26)) 26 #[.int .i64 0, .slice none 0 0])
  have DV := Lib.hid (show Below w.heap.size w V from by rw [hV]; exact al2 _ _ _)
  rcases hp : Wd.isP r z with _ | _
  · rw [hp] at IP
    have EQ := Lib.hid (show simpAll r z = (0, [], [], 1) from by unfold simpAll; rw [if_neg (by simp [hp])])
    clear hp
    go_enter Try.func8, Try.ntmps8
    go_upto_region 1 with fail
    rw [← hV]
    clear hV
    obtain ⟨x0, x1⟩ := X0.out
    go_wp2_with fail
    refine (IP.out _ DV.out).mono ?_
    rintro e w1 ⟨rfl, hb1⟩
    have B1 := Lib.hid hb1
    have z1 : V.heap.size ≤ w1.heap.size := hb1.size
    obtain ⟨s0, s1⟩ := Z0.out.below hb1 (by omega)
    have f0 := G0.out.below hb1 (by omega)
    unfold Free at f0
    clear hb1
    go_wp2
    refine bodyPost_ret (v := .tuple #[.agg #[.int .i64 0, .slice none 0 0], .slice none 0 0, .int .i64 1]) (by simp [results, Try.results8, s0, s1, go_sem]) rfl ?_
    rw [EQ.out]
    exact ResPT.fin (q := (0, [], [], 1)) (OwnS.nil _ w1.heap.size w1.heap.size) rfl (OwnT.nil _ w1.heap.size w1.heap.size) (.inl (Nat.le_refl _)) (by omega) (by omega) (Nat.le_refl _) (Nat.le_refl _) (DV.out.trans (B1.out.mono (by omega))) (by omega) (.inl (by omega)) (.inl (by omega)) _ _
  rw [hp] at IP
  have EQ := Lib.hid (show simpAll r z = ((simpRun 200 r z).1.1, (simpRun 200 r z).1.2, (simpRun 200 r z).2, 0) from by unfold simpAll; rw [if_pos hp])
  obtain ⟨F, hF⟩ : ∃ F, simpRun 200 r z = F := ⟨_, rfl⟩
  rw [hF] at EQ
  have HP := Lib.hid hp
  have HF := Lib.hid hF
  clear hp hF
  rw [EQ.out]
  go_enter Try.func8, Try.ntmps8
  go_upto_region 1 with fail
  rw [← hV]
  clear hV
  obtain ⟨x0, x1⟩ := X0.out
  go_wp2_with fail
  refine (IP.out _ DV.out).mono ?_
  rintro e w1 ⟨rfl, hb1⟩
  have B1 := Lib.hid hb1
  have z1 : V.heap.size ≤ w1.heap.size := hb1.size
  clear x0 x1
  obtain ⟨x0, x1⟩ := X0.out.below hb1 (by omega)
  clear hb1
  go_wp2_with fail
  refine (CL.out _ (DV.out.trans (B1.out.mono (by omega)))).mono ?_
  rintro e w3 ⟨A3, c3, rs3, rfl, ho3, hv3, hb3⟩
  have z3 : w1.heap.size ≤ w3.heap.size := hb3.size
  have O3 := Lib.hid ho3
  have V3 := Lib.hid hv3
  have B3 := Lib.hid (B1.out.trans (hb3.mono z1))
  clear ho3 hv3 hb3 x0 x1
  go_upto_region 4 with fail
  obtain ⟨W, hW⟩ : ∃ W, W = w3.alloc (Obj.cells #[.int .i64 r, .slice A3 rs3.length c3] 26) := ⟨_, rfl⟩
  rw [← hW]
  have BW := Lib.hid (show Below w3.heap.size w3 W from by rw [hW]; exact al1 _ _)
  have P5 := Lib.hid (show BoxG W w3.heap.size (.int .i64 r) (.slice A3 rs3.length c3) from by rw [hW]; exact BoxG.new w3 _ _ _)
  have F5 := Lib.hid (show Free W w3.heap.size from by rw [hW]; exact Free.new w3 _ _)
  have sW : W.heap.size = w3.heap.size + 1 := by rw [hW]; simp
  clear hW
  have ZW := Lib.hid ((Z0.out.below B3.out (by omega)).below BW.out (by omega))
  have GW := Lib.hid ((G0.out.below B3.out (by omega)).below BW.out (by omega))
  have DW := Lib.hid ((DV.out.trans (B3.out.mono (by omega))).trans (BW.out.mono (by omega)))
  have START := Lib.hid (show SimSt w w3.heap.size 200 F 0 (.slice none 0 0) W from ⟨r, A3, c3, rs3, none, 0, w.heap.size, w1.heap.size, w3.heap.size, [], rfl, rfl, Nat.zero_le _, P5.out, F5.out, O3.out.below BW.out (Nat.le_refl _), by rw [V3.out]; exact HP.out, OwnT.nil _ _ _, .inl (by omega), by omega, by omega, Nat.le_refl _, by omega, by omega, by omega, .inr (Nat.le_refl _), by rw [V3.out, Nat.sub_zero, HF.out]; rfl, DW.out, Below.refl _ _⟩)
  obtain ⟨sb, hsb⟩ : ∃ sb, w3.heap.size = sb := ⟨_, rfl⟩
  rw [hsb] at START
  have l0 : w.heap.size + 1 + 1 ≤ sb := by omega
  have l1 : sb < W.heap.size := by omega
  rw [hsb]
  clear hsb P5 F5 O3 V3 HP HF B3 BW B1 X0 DW
  go_wp2
  go_loopw [16, 6] (fun x y U => ∃ k : Nat, x = .int .i64 k ∧ SimSt w sb 200 F k y U ∧ BoxG U (w.heap.size + 1) (.int .i64 0) (.slice none 0 0) ∧ Free U (w.heap.size + 1) ∧ sb < U.heap.size) (fun x _ _ => 200 - (intOf x).toNat)
  case atStart => exact ⟨0, rfl, START.out, ZW.out, GW.out, l1⟩
  case round =>
    obtain ⟨k, rfl, ⟨r', A4, c4, rs4, At, ct, gm, lo, hi, ms, rfl, hmk, hk, hbx, hfr, ho, hp4, hot, hd, hlo, hhi, hgm, hgw, hg1, hgs, hsd, hF, hbel, _⟩, hz0, hg0, hsz⟩ := hrel
    have BX := Lib.hid hbx
    have FX := Lib.hid hfr
    have O4 := Lib.hid ho
    have P4 := Lib.hid hp4
    have T4 := Lib.hid hot
    have HF := Lib.hid hF
    have D4 := Lib.hid hbel
    have ZR := Lib.hid hz0
    have GR := Lib.hid hg0
    have MK := Lib.hid hmk
    clear hbx hfr ho hp4 hot hF hbel hz0 hg0 hmk
    obtain ⟨s0, s1⟩ := ZR.out
    obtain ⟨b0, b1⟩ := BX.out
    have f0 := GR.out
    unfold Free at f0
    by_cases hlt : k < 200
    case neg =>
      have FE := Lib.hid (show F = ((r', vals rs4), ms) from by rw [HF.out, show 200 - k = 0 by omega]; simp [simpRun])
      go_wp2
      refine bodyPost_ret (v := .tuple #[.agg #[.int .i64 r', .slice A4 rs4.length c4], .slice At ms.length ct, .int .i64 0]) (by simp [results, Try.results8, s0, s1, go_sem]) rfl ?_
      rw [FE.out]
      exact ResPT.fin (q := (r', vals rs4, ms, 0)) O4.out rfl T4.out hd (by omega) hgm hhi (by omega) D4.out (by omega) (.inl (by omega)) (by omega) _ _
    · go_wp2_with fail
      refine (simplified_impl r' A4 c4 rs4 _ (O4.out.rd.more hhi) P4.out).mono ?_
      rintro e w5 ⟨hy, hno, hb5⟩
      have z5 : wr.heap.size ≤ w5.heap.size := hb5.size
      have B5 := Lib.hid hb5
      rcases hst : simpStep r' (vals rs4) with _ | ⟨⟨r6, z6⟩, K, I, J⟩
      · have E5 := hno hst
        subst E5
        have FE := Lib.hid (show F = ((r', vals rs4), ms) from by rw [HF.out, simpRun_stop hst]; simp)
        clear hy hno hst hb5
        clear s0 s1 b0 b1 f0
        go_upto_region 12 with fail
        obtain ⟨U, hU⟩ : ∃ U, U = (w5.alloc (Obj.cells #[.int .i64 0, .slice none 0 0] 26)).alloc (Obj.cells #[.int .i64 0, .int .i64 0, .int .i64 0, .slice none 0 0] 36) := ⟨_, rfl⟩
        rw [← hU]
        have BB := Lib.hid (show Below wr.heap.size wr U from by rw [hU]; exact B5.out.trans ((al2 _ _ _).mono z5))
        have sB := BB.out.size
        clear hU
        obtain ⟨s0, s1⟩ := ZR.out.below BB.out (by omega)
        obtain ⟨b0, b1⟩ := BX.out.below BB.out (by omega)
        have f0 := GR.out.below BB.out (by omega)
        unfold Free at f0
        go_wp2
        refine bodyPost_ret (v := .tuple #[.agg #[.int .i64 r', .slice A4 rs4.length c4], .slice At ms.length ct, .int .i64 0]) (by simp [results, Try.results8, s0, s1, go_sem]) rfl ?_
        rw [FE.out]
        exact ResPT.fin (q := (r', vals rs4, ms, 0)) (O4.out.below BB.out hhi) rfl (T4.out.below BB.out (by omega)) hd (by omega) hgm (by omega) (by omega) (D4.out.trans (BB.out.mono (by have := D4.out.size; omega))) (by omega) (.inl (by omega)) (by omega) _ _
      · obtain ⟨A6, c6, rs6, rfl, ho6, hv6⟩ := hy _ _ hst
        have O6 := Lib.hid ho6
        have V6 := Lib.hid hv6
        have P6 := Lib.hid (simpStep_some P4.out hst).2.1
        have FG := Lib.hid (show F = ((simpRun (200 - (k + 1)) r6 z6).1, (ms ++ [(K, I, J)]) ++ (simpRun (200 - (k + 1)) r6 z6).2) from by
          rw [HF.out, show 200 - k = (200 - (k + 1)) + 1 by omega, simpRun_go hst]
          simp)
        clear hy hno hst hb5 ho6 hv6 HF
        clear s0 s1 b0 b1 f0
        go_upto_region 9 with fail
        obtain ⟨U, hU⟩ : ∃ U, U = (w5.alloc (Obj.cells #[.int .i64 r6, .slice A6 rs6.length c6] 26)).alloc (Obj.cells #[.int .i64 K, .int .i64 I, .int .i64 J, .slice none 0 0] 36) := ⟨_, rfl⟩
        rw [← hU]
        have BU := Lib.hid (show Below w5.heap.size w5 U from by rw [hU]; exact al2 _ _ _)
        have P7 := Lib.hid (show BoxG U w5.heap.size (.int .i64 r6) (.slice A6 rs6.length c6) from by rw [hU]; exact (BoxG.new w5 _ _ _).below (al1 _ _) (by simp))
        have T8 := Lib.hid (show BoxT U (w5.heap.size + 1) (.int .i64 K) (.int .i64 I) (.int .i64 J) (.slice none 0 0) from by rw [hU]; simpa using BoxT.new (w5.alloc (Obj.cells #[.int .i64 r6, .slice A6 rs6.length c6] 26)) 36 (.int .i64 K) (.int .i64 I) (.int .i64 J) (.slice none 0 0))
        obtain ⟨sU1, sU2⟩ : U.heap.size ≤ w5.heap.size + 1 + 1 ∧ w5.heap.size + 1 + 1 ≤ U.heap.size := by rw [hU]; simp
        clear hU
        have BB := Lib.hid (B5.out.trans (BU.out.mono z5))
        obtain ⟨b0, b1⟩ := BX.out.below BB.out (by omega)
        obtain ⟨p0, p1⟩ := P7.out
        have fs := FX.out.below BB.out (by omega)
        unfold Free at fs
        have e5 : ¬ sb = w5.heap.size := by omega
        have e6 : ¬ w5.heap.size = sb := by omega
        go_upto_region 10 with fail
        obtain ⟨Y, hY⟩ : ∃ Y, Y = (U.setCell ⟨sb, 0, none⟩ (.int .i64 r6)).setCell ⟨sb, 1, none⟩ (.slice A6 rs6.length c6) := ⟨_, rfl⟩
        rw [← hY]
        have KY := Lib.hid (show Kept sb (sb + 1) U Y from by rw [hY]; exact ((Kept.refl _ _ _).set_ (p := ⟨sb, 0, none⟩) (Nat.le_refl _) (Nat.lt_succ_self _) _).set_ (p := ⟨sb, 1, none⟩) (Nat.le_refl _) (Nat.lt_succ_self _) _)
        obtain ⟨sY1, sY2⟩ : Y.heap.size ≤ U.heap.size ∧ U.heap.size ≤ Y.heap.size := by rw [hY]; simp [World.setCell]
        have SY := Lib.hid (show BoxG Y sb (.int .i64 r6) (.slice A6 rs6.length c6) from by rw [hY]; exact ((BX.out.below BB.out (by omega)).set0_).set1_)
        have FY := Lib.hid (show Free Y sb from by rw [hY]; exact ((FX.out.below BB.out (by omega)).setA _ _).setA _ _)
        have DY := Lib.hid (show Below w.heap.size U Y from by rw [hY]; exact ((Below.refl _ _).setCell (by dsimp only; omega) _).setCell (by dsimp only; omega) _)
        clear hY
        have O7 := Lib.hid ((O6.out.below BU.out (Nat.le_refl _)).kept KY.out (by omega) (.inr (by omega)))
        have T7 := Lib.hid ((T4.out.below BB.out (by omega)).kept KY.out (by omega) (by omega))
        have T9 := Lib.hid (T8.out.kept KY.out (by omega) (by omega))
        have Z7 := Lib.hid ((ZR.out.below BB.out (by omega)).kept KY.out (by omega) (by omega))
        have G7 := Lib.hid ((GR.out.below BB.out (by omega)).kept KY.out (by omega) (by omega))
        have D7 := Lib.hid ((D4.out.trans (BB.out.mono (by have := D4.out.size; omega))).trans DY.out)
        have sd := D4.out.size
        clear b0 b1 p0 p1 fs
        obtain ⟨m0, m1, m2, m3⟩ := T9.out
        go_wp2_with (at_builtin; refine push_move rfl _ _ rfl gm (gm + 1) ct ms.length Y.heap.size At ms (K, I, J) rfl rfl (by exact T7.out.below (al1 Y _) (by omega)) rfl (by intro q hq; have h4 : q = 0 ∨ q = 1 ∨ q = 2 ∨ q = 3 := (by omega); rcases h4 with rfl | rfl | rfl | rfl <;> simp [mvv, go_sem]) (by simp; omega) (by rw [MK.out]; omega) ?_; intro g' c' w7 hT hK hor hsz hg1' hg2')
        have TT := Lib.hid hT
        have KT := Lib.hid hK
        have sK := hK.size
        simp only [World.size_alloc] at sK hsz hor
        have gg : g' = gm ∨ g' = Y.heap.size + 1 := by
          rcases hor with h1 | h1
          · have := T4.out.top _ h1
            dsimp only at this
            omega
          · exact .inr h1
        clear hT hK hor m0 m1 m2 m3
        have B7 := Lib.hid (al1 Y (Obj.cells #[.int .i64 K, .int .i64 I, .int .i64 J, .slice none 0 0] 36))
        have AL := Lib.hid (show (Y.alloc (Obj.cells #[.int .i64 K, .int .i64 I, .int .i64 J, .slice none 0 0] 36)).heap.size = Y.heap.size + 1 from by simp)
        go_wp2
        go_roundw
        case rel =>
          refine ⟨k + 1, by go_num, ⟨r6, A6, c6, rs6, some ⟨g', 0, none⟩, c', g', wr.heap.size, w5.heap.size, ms ++ [(K, I, J)], by rw [List.length_append]; rfl, by rw [List.length_append, MK.out]; rfl, by omega, (SY.out.below B7.out (by omega)).kept KT.out (by rw [AL.out]; omega) (by omega), (FY.out.below B7.out (by omega)).kept KT.out (by rw [AL.out]; omega) (by omega), (O7.out.below B7.out (by omega)).kept KT.out (by rw [AL.out]; omega) (.inr (by omega)), by rw [V6.out]; exact P6.out, TT.out.tight, by omega, by omega, by omega, by omega, hg2', by omega, by omega, by omega, by rw [V6.out]; exact FG.out, ?_, Below.refl _ _⟩, (Z7.out.below B7.out (by omega)).kept KT.out (by rw [AL.out]; omega) (by omega), (G7.out.below B7.out (by omega)).kept KT.out (by rw [AL.out]; omega) (by omega), by omega⟩
          exact (D7.out.trans (B7.out.mono (by omega))).trans (KT.out.below (B := w.heap.size) hgm (by rw [AL.out]; omega))
        case measure => simp [intOf]; omega

end Go.Proofs.Ytjommpdblbbkdaa

namespace Go.Proofs.Ytjommpdblbbkdaa
open Go.RowKit

def lenV : Value → Nat
  | .slice _ n _ => n
  | _ => 0

set_option maxRecDepth 100000 in
set_option maxHeartbeats 16000000 in
theorem simplify_spec (r : Int) (A : Option Addr) (c : Nat) (rs : List Rw) (w : World) (h : RdS w w.heap.size A rs) (hn : rs.length ≤ 1048576) (hrow : ∀ q ∈ rs, q.zs.length ≤ 1048576) :
    Calls Try.prog 22 #[.agg #[.int .i64 r, .slice A rs.length c]] w (ResPT w (simpAll r (vals rs))) := by
  have IP := Lib.hid (fun (W : World) (hb : Below w.heap.size w W) => isPres_spec r A c rs W (h.into hb) hn hrow)
  have CP := Lib.hid (fun (W : World) (hb : Below w.heap.size w W) => copy_spec (-1) A rs.length c rs W (h.into hb) rfl hn hrow)
  rw [exc_none (by decide)] at CP
  obtain ⟨n, hrn⟩ : ∃ n, rs.length = n := ⟨_, rfl⟩
  obtain ⟨z, hzv⟩ : ∃ z, vals rs = z := ⟨_, rfl⟩
  rw [hrn] at IP CP ⊢
  rw [hzv] at IP CP ⊢
  clear h hn hrow hrn hzv
  obtain ⟨V, hV⟩ : ∃ V, V = ((w.alloc (Obj.cells #[.int .i64 r, .slice A n c] 26)).alloc (Obj.cells #[.int .i64 0, .slice none 0 0] 26)) := ⟨_, rfl⟩
  have sV : w.heap.size + 1 < V.heap.size := by rw [hV]; simp
  have X0 := Lib.hid (show BoxG V w.heap.size (.int .i64 r) (.slice A n c) from by rw [hV]; exact (BoxG.new w _ _ _).below (al1 _ _) (by simp))
  have Z0 := Lib.hid (show BoxG V (w.heap.size + 1) (.int .i64 0) (.slice none 0 0) from by rw [hV]; simpa using BoxG.new (w.alloc (Obj.cells #[.int .i64 r, .slice A n c] 26)) 26 (.int .i64 0) (.slice none 0 0))
  have G0 := Lib.hid (show Free V (w.heap.size + 1) from by rw [hV]; simpa using Free.new (w.alloc (Obj.cells #[.int .i64 r, .slice A n c] 26)) 26 #[.int .i64 0, .slice none 0 0])
  have DV := Lib.hid (show Below w.heap.size w V from by rw [hV]; exact al2 _ _ _)
  rcases hp : Wd.isP r z with _ | _
  · rw [hp] at IP
    have EQ := Lib.hid (show simpAll r z = (0, [], [], 1) from by unfold simpAll; rw [if_neg (by simp [hp])])
    clear hp
    go_enter Try.func22, Try.ntmps22
    go_upto_region 1 with fail
    rw [← hV]
    clear hV
    have v0 : w.heap.size < V.heap.size := by omega
    obtain ⟨x0, x1⟩ := X0.out
    go_wp2_with fail
    refine (IP.out _ (DV.out.alloc (by omega) _)).mono ?_
    rintro e w1 ⟨rfl, hb1⟩
    have B1 := Lib.hid (on1 _ hb1)
    have T1 := Lib.hid ((OwnT.empty V).below hb1 (by simp))
    have z1 : V.heap.size < w1.heap.size := by have := hb1.size; simp at this; omega
    obtain ⟨s0, s1⟩ := Z0.out.below B1.out (by omega)
    have f0 := G0.out.below B1.out (by omega)
    unfold Free at f0
    clear hb1 x0 x1
    go_wp2
    refine bodyPost_ret (v := .tuple #[.agg #[.int .i64 0, .slice none 0 0], .slice (some ⟨V.heap.size, 0, none⟩) 0 0, .int .i64 1]) (by simp [results, Try.results22, s0, s1, go_sem]) rfl ?_
    rw [EQ.out]
    exact ResPT.fin (q := (0, [], [], 1)) (OwnS.nil _ w1.heap.size w1.heap.size) rfl T1.out (.inl (by omega)) (by omega) (by omega) (Nat.le_refl _) (by omega) (DV.out.trans (B1.out.mono (by omega))) (by omega) (.inl (by omega)) (.inl (by omega)) _ _
  rw [hp] at IP
  have EQ := Lib.hid (show simpAll r z = ((simpRun 200 r z).1.1, (simpRun 200 r z).1.2, (simpRun 200 r z).2, 0) from by unfold simpAll; rw [if_pos hp])
  obtain ⟨F, hF⟩ : ∃ F, simpRun 200 r z = F := ⟨_, rfl⟩
  rw [hF] at EQ
  have HP := Lib.hid hp
  have HF := Lib.hid hF
  clear hp hF
  rw [EQ.out]
  go_enter Try.func22, Try.ntmps22
  go_upto_region 1 with fail
  rw [← hV]
  clear hV
  have v0 : w.heap.size < V.heap.size := by omega
  obtain ⟨x0, x1⟩ := X0.out
  go_wp2_with fail
  refine (IP.out _ (DV.out.alloc (by omega) _)).mono ?_
  rintro e w1 ⟨rfl, hb1⟩
  have B1 := Lib.hid (on1 _ hb1)
  have T1 := Lib.hid ((OwnT.empty V).below hb1 (by simp))
  have z1 : V.heap.size < w1.heap.size := by have := hb1.size; simp at this; omega
  clear hb1 x0 x1
  have X1 := Lib.hid (X0.out.below B1.out (by omega))
  have D1 := Lib.hid (DV.out.trans (B1.out.mono (by omega)))
  have c0 : ¬ w.heap.size = w1.heap.size := by omega
  have c1 : ¬ w1.heap.size = w.heap.size := by omega
  have c2 : w.heap.size < w1.heap.size := by omega
  go_upto_region 4 with fail
  go_cut [6] (fun p W => CutM w1 r z p W)
  case first =>
    obtain ⟨x0, x1⟩ := X1.out
    go_region_held3 (fun W => (W.cell? ⟨w.heap.size, 0, none⟩ = some (.int .i64 r)) ∧ (W.cell? ⟨w.heap.size, 1, none⟩ = some (.slice A n c))) (go_keep)
      (first
        | (go_at_call 47; (refine (CP.out _ ?_).mono ?_; (first | exact D1.out.drew | exact (D1.out.trans ((al1 _ _).mono D1.out.size)).drew)); rintro e w6 ⟨A6, c6, rs6, rfl, ho6, hv6, hb6'⟩; have hb6 := undrew hb6'; have B6 := Lib.hid hb6; have O6 := Lib.hid ho6; have V6 := Lib.hid hv6; have z6 := hb6.size; have hx : w.heap.size < w6.heap.size := (by (try simp at z6); omega); first | (obtain ⟨e0, e1⟩ := X1.out.below hb6 (by omega)) | (obtain ⟨e0, e1⟩ := (X1.out.below (al1 _ _) (by omega)).below hb6 (by simp; omega)); (try (have bz := (BoxG.new w1 26 (.int .i64 0) (.slice none 0 0)).below hb6 (by simp); have BZ := Lib.hid bz; obtain ⟨b0, b1⟩ := bz; have bf := (Free.new w1 26 #[.int .i64 0, .slice none 0 0]).below hb6 (by simp); have BF := Lib.hid bf; unfold Free at bf)); clear hb6 hb6' ho6 hv6))
    all_goals
      go_wp2_with fail
      go_meet
      first
        | exact CutM.late (by simpa using O6.out) V6.out B6.out
        | exact CutM.early (by simpa using O6.out) V6.out B6.out BZ.out BF.out
  obtain ⟨sb, A3, c3, rs3, lo3, hi3, rfl, hx3, hf3, ho3, hl3, hh3, hp3, hq3, hd3, hb3, hv3⟩ := hcut
  obtain ⟨W, rfl⟩ : ∃ W : World, W = wc := ⟨_, rfl⟩
  have B3 := Lib.hid (B1.out.trans (hb3.mono (by omega)))
  have ZW := Lib.hid (Z0.out.below B3.out (by omega))
  have GW := Lib.hid (G0.out.below B3.out (by omega))
  have DW := Lib.hid (DV.out.trans (B3.out.mono (by omega)))
  have START := Lib.hid (show SimSt w sb 200 F 0 (.slice (some ⟨V.heap.size, 0, none⟩) 0 0) W from ⟨r, A3, c3, rs3, some ⟨V.heap.size, 0, none⟩, 0, V.heap.size, lo3, hi3, [], rfl, rfl, Nat.zero_le _, hx3, hf3, ho3, by rw [hv3]; exact HP.out, T1.out.below hb3 (by omega), .inl (by omega), by omega, hh3, by omega, by omega, by omega, by omega, hd3, by rw [hv3, Nat.sub_zero, HF.out]; rfl, DW.out, Below.refl _ _⟩)
  have l0 : w.heap.size + 1 + 1 ≤ sb := by omega
  have l1 : sb < W.heap.size := hq3
  clear hx3 hf3 ho3 hb3 hv3 HP HF B3 B1 X0 X1 D1 DW T1
  go_wp2
  go_loopw [5] (fun y U => ∃ k : Nat, SimSt w sb 200 F k y U ∧ BoxG U (w.heap.size + 1) (.int .i64 0) (.slice none 0 0) ∧ Free U (w.heap.size + 1) ∧ sb < U.heap.size) (fun y _ => 200 - lenV y)
  case atStart => exact ⟨0, START.out, ZW.out, GW.out, l1⟩
  case round =>
    obtain ⟨k, ⟨r', A4, c4, rs4, At, ct, gm, lo, hi, ms, rfl, hmk, hk, hbx, hfr, ho, hp4, hot, hd, hlo, hhi, hgm, hgw, hg1, hgs, hsd, hF, hbel, _⟩, hz0, hg0, hsz⟩ := hrel
    have BX := Lib.hid hbx
    have FX := Lib.hid hfr
    have O4 := Lib.hid ho
    have P4 := Lib.hid hp4
    have T4 := Lib.hid hot
    have HF := Lib.hid hF
    have D4 := Lib.hid hbel
    have ZR := Lib.hid hz0
    have GR := Lib.hid hg0
    have MK := Lib.hid hmk
    have hlk : ms.length ≤ 200 := by omega
    clear hbx hfr ho hp4 hot hF hbel hz0 hg0
    obtain ⟨s0, s1⟩ := ZR.out
    obtain ⟨b0, b1⟩ := BX.out
    have f0 := GR.out
    unfold Free at f0
    by_cases hlt : ms.length < 200
    case neg =>
      have FE := Lib.hid (show F = ((r', vals rs4), ms) from by rw [HF.out, show 200 - k = 0 by omega]; simp [simpRun])
      have tl : ¬ (ms.length : Int) < 200 := by omega
      clear hmk
      go_wp2
      refine bodyPost_ret (v := .tuple #[.agg #[.int .i64 r', .slice A4 rs4.length c4], .slice At ms.length ct, .int .i64 0]) (by simp [results, Try.results22, s0, s1, go_sem]) rfl ?_
      rw [FE.out]
      exact ResPT.fin (q := (r', vals rs4, ms, 0)) O4.out rfl T4.out hd (by omega) hgm hhi (by omega) D4.out (by omega) (.inl (by omega)) (by omega) _ _
    · have hk2 : k < 200 := by omega
      have tl : (ms.length : Int) < 200 := by omega
      clear hmk
      go_wp2_with fail
      refine (step_spec r' A4 c4 rs4 _ (O4.out.rd.more hhi) P4.out).mono ?_
      rintro e w5 ⟨hy, hno, hb5⟩
      have z5 : wr.heap.size ≤ w5.heap.size := hb5.size
      have B5 := Lib.hid hb5
      rcases hst : simpStep r' (vals rs4) with _ | ⟨⟨r6, z6⟩, K, I, J⟩
      · have E5 := hno hst
        subst E5
        have FE := Lib.hid (show F = ((r', vals rs4), ms) from by rw [HF.out, simpRun_stop hst]; simp)
        clear hy hno hst hb5
        clear s0 s1 b0 b1 f0
        go_upto_region 10 with fail
        obtain ⟨U, hU⟩ : ∃ U, U = (w5.alloc (Obj.cells #[.int .i64 0, .int .i64 0, .int .i64 0, .slice none 0 0] 36)).alloc (Obj.cells #[.int .i64 r', .slice A4 rs4.length c4] 26) := ⟨_, rfl⟩
        rw [← hU]
        have BB := Lib.hid (show Below wr.heap.size wr U from by rw [hU]; exact B5.out.trans ((al2 _ _ _).mono z5))
        have sB := BB.out.size
        clear hU
        obtain ⟨s0, s1⟩ := ZR.out.below BB.out (by omega)
        obtain ⟨b0, b1⟩ := BX.out.below BB.out (by omega)
        have f0 := GR.out.below BB.out (by omega)
        unfold Free at f0
        go_wp2
        refine bodyPost_ret (v := .tuple #[.agg #[.int .i64 r', .slice A4 rs4.length c4], .slice At ms.length ct, .int .i64 0]) (by simp [results, Try.results22, s0, s1, go_sem]) rfl ?_
        rw [FE.out]
        exact ResPT.fin (q := (r', vals rs4, ms, 0)) (O4.out.below BB.out hhi) rfl (T4.out.below BB.out (by omega)) hd (by omega) hgm (by omega) (by omega) (D4.out.trans (BB.out.mono (by have := D4.out.size; omega))) (by omega) (.inl (by omega)) (by omega) _ _
      · obtain ⟨A6, c6, rs6, rfl, ho6, hv6⟩ := hy _ _ hst
        have O6 := Lib.hid ho6
        have V6 := Lib.hid hv6
        have P6 := Lib.hid (simpStep_some P4.out hst).2.1
        have FG := Lib.hid (show F = ((simpRun (200 - (k + 1)) r6 z6).1, (ms ++ [(K, I, J)]) ++ (simpRun (200 - (k + 1)) r6 z6).2) from by
          rw [HF.out, show 200 - k = (200 - (k + 1)) + 1 by omega, simpRun_go hst]
          simp)
        clear hy hno hst hb5 ho6 hv6 HF
        clear s0 s1 b0 b1 f0
        go_upto_region 8 with fail
        obtain ⟨U, hU⟩ : ∃ U, U = (w5.alloc (Obj.cells #[.int .i64 K, .int .i64 I, .int .i64 J, .slice none 0 0] 36)).alloc (Obj.cells #[.int .i64 r6, .slice A6 rs6.length c6] 26) := ⟨_, rfl⟩
        rw [← hU]
        have BU := Lib.hid (show Below w5.heap.size w5 U from by rw [hU]; exact al2 _ _ _)
        have P7 := Lib.hid (show BoxG U (w5.heap.size + 1) (.int .i64 r6) (.slice A6 rs6.length c6) from by rw [hU]; simpa using BoxG.new (w5.alloc (Obj.cells #[.int .i64 K, .int .i64 I, .int .i64 J, .slice none 0 0] 36)) 26 (.int .i64 r6) (.slice A6 rs6.length c6))
        have T8 := Lib.hid (show BoxT U w5.heap.size (.int .i64 K) (.int .i64 I) (.int .i64 J) (.slice none 0 0) from by rw [hU]; exact (BoxT.new w5 _ _ _ _ _).below (al1 _ _) (by simp))
        obtain ⟨sU1, sU2⟩ : U.heap.size ≤ w5.heap.size + 1 + 1 ∧ w5.heap.size + 1 + 1 ≤ U.heap.size := by rw [hU]; simp
        clear hU
        have BB := Lib.hid (B5.out.trans (BU.out.mono z5))
        have sd := D4.out.size
        obtain ⟨m0, m1, m2, m3⟩ := T8.out
        have n0 : w5.heap.size < U.heap.size := by omega
        go_upto_region 9 with (at_builtin; refine push_move rfl _ _ rfl gm (gm + 1) ct ms.length U.heap.size At ms (K, I, J) rfl rfl (by exact (T4.out.below BB.out (by omega)).below (al1 U _) (by omega)) rfl (by intro q hq; have h4 : q = 0 ∨ q = 1 ∨ q = 2 ∨ q = 3 := (by omega); rcases h4 with rfl | rfl | rfl | rfl <;> simp [mvv, go_sem]) (by simp; omega) (by omega) ?_; intro g' c' w7 hT hK hor hsz hg1' hg2')
        have TT := Lib.hid hT
        have KT := Lib.hid hK
        have sK := hK.size
        simp only [World.size_alloc] at sK hsz hor
        have gg : g' = gm ∨ g' = U.heap.size + 1 := by
          rcases hor with h1 | h1
          · have := T4.out.top _ h1
            dsimp only at this
            omega
          · exact .inr h1
        clear hT hK hor m0 m1 m2 m3
        have B7 := Lib.hid (al1 U (Obj.cells #[.int .i64 K, .int .i64 I, .int .i64 J, .slice none 0 0] 36))
        have AL := Lib.hid (show (U.alloc (Obj.cells #[.int .i64 K, .int .i64 I, .int .i64 J, .slice none 0 0] 36)).heap.size = U.heap.size + 1 from by simp)
        have P9 := Lib.hid ((P7.out.below B7.out (by omega)).kept KT.out (by rw [AL.out]; omega) (by omega))
        have S9 := Lib.hid (((BX.out.below BB.out (by omega)).below B7.out (by omega)).kept KT.out (by rw [AL.out]; omega) (by omega))
        have F9 := Lib.hid (((FX.out.below BB.out (by omega)).below B7.out (by omega)).kept KT.out (by rw [AL.out]; omega) (by omega))
        have O9 := Lib.hid (((O6.out.below BU.out (Nat.le_refl _)).below B7.out (by omega)).kept KT.out (by rw [AL.out]; omega) (.inr (by omega)))
        have Z9 := Lib.hid (((ZR.out.below BB.out (by omega)).below B7.out (by omega)).kept KT.out (by rw [AL.out]; omega) (by omega))
        have G9 := Lib.hid (((GR.out.below BB.out (by omega)).below B7.out (by omega)).kept KT.out (by rw [AL.out]; omega) (by omega))
        have D9 := Lib.hid (((D4.out.trans (BB.out.mono (by omega))).trans (B7.out.mono (by omega))).trans (KT.out.below (B := w.heap.size) hgm (by rw [AL.out]; omega)))
        obtain ⟨p0, p1⟩ := P9.out
        obtain ⟨b0, b1⟩ := S9.out
        have fs := F9.out
        unfold Free at fs
        have e5 : ¬ sb = w5.heap.size + 1 := by omega
        have e6 : ¬ w5.heap.size + 1 = sb := by omega
        have KY := Lib.hid (show Kept sb (sb + 1) w7 ((w7.setCell ⟨sb, 0, none⟩ (.int .i64 r6)).setCell ⟨sb, 1, none⟩ (.slice A6 rs6.length c6)) from ((Kept.refl _ _ _).set_ (p := ⟨sb, 0, none⟩) (Nat.le_refl _) (Nat.lt_succ_self _) _).set_ (p := ⟨sb, 1, none⟩) (Nat.le_refl _) (Nat.lt_succ_self _) _)
        have SZ := Lib.hid (show ((w7.setCell ⟨sb, 0, none⟩ (.int .i64 r6)).setCell ⟨sb, 1, none⟩ (.slice A6 rs6.length c6)).heap.size = w7.heap.size from by simp [World.setCell])
        go_wp2
        go_roundw
        case rel =>
          refine ⟨k + 1, ⟨r6, A6, c6, rs6, some ⟨g', 0, none⟩, c', g', wr.heap.size, w5.heap.size, ms ++ [(K, I, J)], by rw [List.length_append]; rfl, by rw [List.length_append, MK.out]; rfl, by omega, (S9.out.set0_).set1_, (F9.out.setA _ _).setA _ _, O9.out.kept KY.out (by omega) (.inr (by omega)), by rw [V6.out]; exact P6.out, TT.out.tight.kept KY.out (by omega) (by omega), by omega, by omega, by rw [SZ.out]; omega, by omega, by rw [SZ.out]; exact hg2', by omega, by omega, by omega, by rw [V6.out]; exact FG.out, ?_, Below.refl _ _⟩, Z9.out.kept KY.out (by omega) (by omega), G9.out.kept KY.out (by omega) (by omega), by rw [SZ.out]; omega⟩
          exact (D9.out.setCell (by dsimp only; omega) _).setCell (by dsimp only; omega) _
        case measure => simp [lenV]; omega

end Go.Proofs.Ytjommpdblbbkdaa

namespace Go.Proofs.Ytjommpdblbbkdaa
open Go.RowKit

/-- A presentation that was drawn, in new memory, and the source behind it. -/
def DrP (w : World) (g : Nat) (A : Option Addr) (n c : Nat) (e : Ending) (w' : World) : Prop :=
  ∃ r P cp rs a x, e = .returned (.agg #[.int .i64 r, .slice P rs.length cp]) ∧ OwnS w' w.heap.size w'.heap.size P cp rs ∧ 0 ≤ r ∧ r ≤ 3 ∧ rs.length ≤ 3 ∧ (∀ q ∈ rs, q.zs.length ≤ 6) ∧ Src w' g A n c a x ∧ Kept g (g + 1) w w'
/-- The state in which a presentation is drawn. -/
def DrpS (w : World) (g : Nat) (A : Option Addr) (n c : Nat) (cb : Nat) (r : Int) (k : Int) (W : World) : Prop :=
  ∃ P cp rs a x, 0 ≤ k ∧ (rs.length : Int) + k ≤ 3 ∧ BoxG W cb (.int .i64 r) (.slice P rs.length cp) ∧ Free W cb ∧ OwnS W (cb + 1) W.heap.size P cp rs ∧ (∀ q ∈ rs, q.zs.length ≤ 6) ∧ Src W g A n c a x ∧ Kept g (g + 1) w W ∧ cb < W.heap.size ∧ BoxG W w.heap.size (.int .i64 0) (.slice none 0 0) ∧ Free W w.heap.size
theorem Kept.undrew {g : Nat} {w w' : World} (h : Kept g (g + 1) w.drew w') : Kept g (g + 1) w w' := ⟨h.os, h.tape, h.output, h.size, h.block⟩

set_option maxRecDepth 100000 in
set_option maxHeartbeats 16000000 in
theorem drawValid_spec (g : Nat) (A : Option Addr) (n c : Nat) (bs : List Int) (a x : Int) (w : World) (h : Bys w g A n bs) (hn : n ≤ 1048576) (hs : Src w g A n c a x) :
    Calls Try.prog 50 #[.pointer (some ⟨g, 0, none⟩)] w (DrP w g A n c) := by
  have gl := hs.lt
  have BY := Lib.hid (fun (W : World) (hk : Kept g (g + 1) w W) => h.kept hk (Nat.le_refl _) (by omega))
  obtain ⟨V, hV⟩ : ∃ V, V = w.alloc (Obj.cells #[.int .i64 0, .slice none 0 0] 26) := ⟨_, rfl⟩
  have S0 := Lib.hid (show Src V g A n c a x from by rw [hV]; exact hs.below (al1 _ _) gl)
  have K0 := Lib.hid (show Kept g (g + 1) w V from by rw [hV]; exact Kept.of_below (al1 _ _) g (g + 1))
  have Z0 := Lib.hid (show BoxG V w.heap.size (.int .i64 0) (.slice none 0 0) from by rw [hV]; exact BoxG.new w _ _ _)
  have G0 := Lib.hid (show Free V w.heap.size from by rw [hV]; exact Free.new w _ _)
  have sV : w.heap.size < V.heap.size := by rw [hV]; simp
  clear h hs
  go_enter Try.func50, Try.ntmps50
  go_upto_region 1 with fail
  rw [← hV]
  clear hV
  go_wp2_with fail
  refine (next_spec g A n c bs 4 a x _ (BY.out _ K0.out) hn S0.out (by omega) (by omega)).mono ?_
  rintro e w1 ⟨v, a1, x1, rfl, v0, v1, _, hs1, hk1⟩
  have hv3 : v ≤ 3 := by have := v1 (by omega); omega
  have z1 : V.heap.size ≤ w1.heap.size := hk1.size
  have S1 := Lib.hid hs1
  have K1 := Lib.hid (K0.out.trans hk1)
  have Z1 := Lib.hid (Z0.out.kept hk1 (by omega) (by omega))
  have G1 := Lib.hid (G0.out.kept hk1 (by omega) (by omega))
  clear hs1 hk1 v1
  go_upto_region 2 with fail
  obtain ⟨W1, hW1⟩ : ∃ W1, W1 = w1.alloc (Obj.cells #[.int .i64 v, .slice none 0 0] 26) := ⟨_, rfl⟩
  rw [← hW1]
  have AW := Lib.hid (show Below w1.heap.size w1 W1 from by rw [hW1]; exact al1 _ _)
  have C1 := Lib.hid (show BoxG W1 w1.heap.size (.int .i64 v) (.slice none 0 0) from by rw [hW1]; exact BoxG.new w1 _ _ _)
  have F1 := Lib.hid (show Free W1 w1.heap.size from by rw [hW1]; exact Free.new w1 _ _)
  obtain ⟨sW1, sW2⟩ : W1.heap.size ≤ w1.heap.size + 1 ∧ w1.heap.size + 1 ≤ W1.heap.size := by rw [hW1]; simp
  clear hW1
  have S2 := Lib.hid (S1.out.below AW.out (by omega))
  have K2 := Lib.hid (show Kept g (g + 1) w W1 from K1.out.trans (Kept.of_below AW.out g (g + 1)))
  go_wp2_with fail
  refine (next_spec g A n c bs 4 a1 x1 _ (BY.out _ K2.out) hn S2.out (by omega) (by omega)).mono ?_
  rintro e w2 ⟨k0, a2, x2, rfl, k1, k2, _, hs2, hk2⟩
  have hk3 : k0 ≤ 3 := by have := k2 (by omega); omega
  have z2 : W1.heap.size ≤ w2.heap.size := hk2.size
  have START := Lib.hid (show DrpS w g A n c w1.heap.size v k0 w2 from ⟨none, 0, [], a2, x2, k1, by simp; omega, C1.out.kept hk2 (by omega) (by omega), F1.out.kept hk2 (by omega) (by omega), OwnS.nil _ _ _, (fun q hq => by simp at hq), hs2, K2.out.trans hk2, by omega, (Z1.out.below AW.out (by omega)).kept hk2 (by omega) (by omega), (G1.out.below AW.out (by omega)).kept hk2 (by omega) (by omega)⟩)
  obtain ⟨cb, hcb⟩ : ∃ cb, w1.heap.size = cb := ⟨_, rfl⟩
  rw [hcb] at START ⊢
  have cl : w.heap.size < cb := by omega
  clear hs2 hk2 k2 hcb S1 K1 Z1 G1 AW C1 F1 S2 K2 S0 K0 Z0 G0
  go_wp2
  go_loopw [4] (fun i W => ∃ k : Int, i = .int .i64 k ∧ DrpS w g A n c cb v k W) (fun i _ => (intOf i).toNat)
  case atStart => exact ⟨k0, rfl, START.out⟩
  case round =>
    obtain ⟨k, rfl, P, cp, rs, a3, x3, hk0, hkl, hbx, hfr, ho, hrow, hs3, hkp, hcl, hz0, hg0⟩ := hrel
    have BX := Lib.hid hbx
    have FX := Lib.hid hfr
    have O := Lib.hid ho
    have RW := Lib.hid hrow
    have S := Lib.hid hs3
    have KP := Lib.hid hkp
    have ZR := Lib.hid hz0
    have GR := Lib.hid hg0
    have zw : w.heap.size ≤ wr.heap.size := hkp.size
    clear hbx hfr ho hrow hs3 hkp hz0 hg0
    obtain ⟨b0, b1⟩ := BX.out
    by_cases hlt : 0 < k
    case neg =>
      obtain ⟨s0, s1⟩ := ZR.out
      have f0 := GR.out
      unfold Free at f0
      go_wp2
      refine bodyPost_ret (v := .agg #[.int .i64 v, .slice P rs.length cp]) (by simp [results, Try.results50, s0, s1, go_sem]) rfl ?_
      refine ⟨v, P, cp, rs, a3, x3, rfl, ?_, v0, hv3, by omega, RW.out, S.out.kept (((Kept.refl w.heap.size (w.heap.size + 1) wr).set_ (p := ⟨w.heap.size, 0, none⟩) (Nat.le_refl _) (Nat.lt_succ_self _) _).set_ (p := ⟨w.heap.size, 1, none⟩) (Nat.le_refl _) (Nat.lt_succ_self _) _) (by omega) (by omega), ?_⟩
      · exact ((O.out.far (p := ⟨w.heap.size, 0, none⟩) (.inl (by dsimp only; omega)) _).far (p := ⟨w.heap.size, 1, none⟩) (.inl (by dsimp only; omega)) _).wide (by omega) (by simp [World.setCell])
      · exact ⟨KP.out.os, KP.out.tape, KP.out.output, by simpa [World.setCell] using KP.out.size, fun b hb hne => ((Below.heap_setCell _ _ _ b (by dsimp only; omega)).trans (Below.heap_setCell _ _ _ b (by dsimp only; omega))).trans (KP.out.block b hb hne)⟩
    · have fx := FX.out
      unfold Free at fx
      have g1 : ¬ g = cb := by omega
      have g2 : ¬ cb = g := by omega
      have wk : IntKind.i64.wrap (k - 1) = k - 1 := IntWalk.i64_in _ (by omega)
      have DWS := Lib.hid (drawWord_spec g A n c bs a3 x3 v 6 wr.drew (BY.out _ (KP.out.drewN 1)) hn ⟨⟨S.out.1.1, S.out.1.2.1, S.out.1.2.2⟩, S.out.2.1, S.out.2.2⟩ (by omega) (by omega) (by omega) (by omega))
      go_upto_region 5 with fail
      go_region_law
        (first
          | (go_simp; go_at_call 62; (refine DWS.out.mono ?_); rintro e w5 ⟨R, t, m, zs, a5, x5, rfl, ho5, hm5, hbd5, hs5, hk5'⟩; have hk5 := Kept.undrew hk5'; have K5 := Lib.hid hk5; have z5 : wr.heap.size ≤ w5.heap.size := hk5.size; have O5 := Lib.hid ho5; have S5 := Lib.hid hs5; have M6 : m ≤ 6 := (by omega); have y5 : cb < w5.heap.size := (by omega); have SM := Lib.hid (show Wd.Sm zs from fun y hy => by have := hbd5 y hy; omega); obtain ⟨e0, e1⟩ := BX.out.kept hk5 (by omega) (by omega); clear ho5 hs5 hbd5 hk5 hk5' hm5)
          | (go_simp; go_at_call 58; (refine (reduced_spec R m t zs _ O5.out.ints (by omega) SM.out).mono ?_); rintro e w6 ⟨R6, t6, rfl, hc6, hm6, hb6⟩; have B6 := Lib.hid hb6; have z6 : w5.heap.size ≤ w6.heap.size := hb6.size; have M7 := Lib.hid (show Rw.In ⟨R6, t6, Wd.rd zs⟩ w6 w5.heap.size w6.heap.size from ⟨hc6.1, hc6.2, hm6⟩); have y6 : cb < w6.heap.size := (by omega); obtain ⟨e2, e3⟩ := (BX.out.kept K5.out (by omega) (by omega)).below hb6 (by omega); clear hc6 hm6 hb6)
          | (refine step_push_row (by rfl) _ _ (by rfl) (cb + 1) wr.heap.size w5.heap.size cp rs.length w6.heap.size P rs ⟨R6, t6, Wd.rd zs⟩ (by rfl) rfl (by exact ((O.out.kept K5.out (by omega) (.inr (by omega))).below B6.out (by omega)).below (al1 w6 _) (by omega)) (by rfl) (by exact Wd.alloc_first _ _ _ _ rfl) (by exact (M7.out.below (al1 w6 _) (Nat.le_refl _)).wide (Nat.le_refl _) (by simp)) (by omega) (by omega) (by simp; omega) (by simp; omega) (by omega) ?_; intro A8 c8 w8 h5 h6; have O8 := Lib.hid h5; have K8 := Lib.hid h6; have s8 := h6.size; simp only [World.size_alloc] at s8; obtain ⟨e4, e5⟩ := (((BX.out.kept K5.out (by omega) (by omega)).below B6.out (by omega)).below (al1 w6 (Obj.cells #[.slice R6 (Wd.rd zs).length t6] 34)) (by omega)).kept h6 (by simp; omega) (by omega); have y8 : cb < w8.heap.size := (by omega); have f8 := (((FX.out.kept K5.out (by omega) (by omega)).below B6.out (by omega)).below (al1 w6 (Obj.cells #[.slice R6 (Wd.rd zs).length t6] 34)) (by omega)).kept h6 (by simp; omega) (by omega); unfold Free at f8; clear h5 h6))
      all_goals
        have hl8 : (rs ++ [(⟨R6, t6, Wd.rd zs⟩ : Rw)]).length = rs.length + 1 := by rw [List.length_append]; rfl
        have AL := al1 w6 (Obj.cells #[.slice R6 (Wd.rd zs).length t6] 34)
        have S8 := Lib.hid ((((S5.out.below B6.out (by omega)).below AL (by omega)).kept K8.out (by simp; omega) (by omega)))
        have Z8 := Lib.hid ((((ZR.out.kept K5.out (by omega) (by omega)).below B6.out (by omega)).below AL (by omega)).kept K8.out (by simp; omega) (by omega))
        have G8 := Lib.hid ((((GR.out.kept K5.out (by omega) (by omega)).below B6.out (by omega)).below AL (by omega)).kept K8.out (by simp; omega) (by omega))
        have C8 := Lib.hid ((((BX.out.kept K5.out (by omega) (by omega)).below B6.out (by omega)).below AL (by omega)).kept K8.out (by simp; omega) (by omega))
        have F8 := Lib.hid ((((FX.out.kept K5.out (by omega) (by omega)).below B6.out (by omega)).below AL (by omega)).kept K8.out (by simp; omega) (by omega))
        have K9 := Lib.hid (show Kept g (g + 1) w w8 from Wd.kept_new (((KP.out.trans K5.out).trans (Kept.of_below B6.out g (g + 1))).trans (Kept.of_below AL g (g + 1))) K8.out (by omega))
        have KZ := Lib.hid (show Kept cb (cb + 1) w8 (w8.setCell ⟨cb, 1, none⟩ (.slice A8 (rs.length + 1) c8)) from (Kept.refl _ _ _).set_ (p := ⟨cb, 1, none⟩) (Nat.le_refl _) (Nat.lt_succ_self _) _)
        have SZ := Lib.hid (show (w8.setCell ⟨cb, 1, none⟩ (.slice A8 (rs.length + 1) c8)).heap.size = w8.heap.size from by simp [World.setCell])
        have ROW := Lib.hid (show ∀ q ∈ rs ++ [(⟨R6, t6, Wd.rd zs⟩ : Rw)], q.zs.length ≤ 6 from fun q hq => by
          rcases List.mem_append.1 hq with hq | hq
          · exact RW.out q hq
          · simp at hq; subst hq
            have h1 := Wd.rd_len zs
            have h2 := O5.out.len
            dsimp only
            omega)
        clear e0 e1 e2 e3 e4 e5 b0 b1
        go_wp2
        go_roundw
        case rel =>
          refine ⟨k - 1, by go_num, A8, c8, rs ++ [⟨R6, t6, Wd.rd zs⟩], a5, x5, by omega, by rw [hl8]; omega, ?_, F8.out.setA _ _, ?_, ROW.out, S8.out.kept KZ.out (by omega) (by omega), ?_, by rw [SZ.out]; omega, Z8.out.kept KZ.out (by omega) (by omega), G8.out.kept KZ.out (by omega) (by omega)⟩
          · rw [hl8]; exact C8.out.set1_
          · exact (O8.out.far (p := ⟨cb, 1, none⟩) (.inl (Nat.lt_succ_self _)) _).wide (Nat.le_refl _) (by rw [SZ.out]; exact Nat.le_refl _)
          · exact Wd.kept_new K9.out KZ.out (by omega)
        case measure => simp [intOf]; omega

end Go.Proofs.Ytjommpdblbbkdaa

namespace Go.Proofs.Ytjommpdblbbkdaa
open Go.RowKit

/-- A presentation that was drawn, in new memory; only the source has changed besides. -/
def DrQ (w : World) (g : Nat) (e : Ending) (w' : World) : Prop :=
  ∃ r P cp rs, e = .returned (.agg #[.int .i64 r, .slice P rs.length cp]) ∧ OwnS w' w.heap.size w'.heap.size P cp rs ∧ -1 ≤ r ∧ r ≤ 25 ∧ rs.length ≤ 4 ∧ (∀ q ∈ rs, q.zs.length ≤ 6) ∧ Kept g (g + 1) w w'
theorem DrQ.fin {w W : World} {g lo hi cp : Nat} {r : Int} {P : Option Addr} {rs : List Rw} (ho : OwnS W lo hi P cp rs) (hlo : w.heap.size < lo) (hhi : hi ≤ W.heap.size) (r0 : -1 ≤ r) (r1 : r ≤ 25) (hl : rs.length ≤ 4) (hr : ∀ q ∈ rs, q.zs.length ≤ 6) (hk : Kept g (g + 1) w W) (x y : Value) :
    DrQ w g (.returned (.agg #[.int .i64 r, .slice P rs.length cp])) ((W.setCell ⟨w.heap.size, 0, none⟩ x).setCell ⟨w.heap.size, 1, none⟩ y) := by
  refine ⟨r, P, cp, rs, rfl, ?_, r0, r1, hl, hr, ?_⟩
  · exact ((ho.far (p := ⟨w.heap.size, 0, none⟩) (.inl hlo) _).far (p := ⟨w.heap.size, 1, none⟩) (.inl hlo) _).wide (by omega) (by simpa [World.setCell] using hhi)
  · exact ⟨hk.os, hk.tape, hk.output, by simpa [World.setCell] using hk.size, fun b hb hne => ((Below.heap_setCell _ _ _ b (by dsimp only; omega)).trans (Below.heap_setCell _ _ _ b (by dsimp only; omega))).trans (hk.block b hb hne)⟩

/-- A row is appended; what lies between stays apart. -/
theorem push_row2 {w : World} {ops : Array Oper} {rest : List Oper} {o : Oper} {a : Act} {Q : Exit → Act → World → Prop} (hgd : o.guard = none) (s x : Operand) (ho : o.op = .call { callee := .builtin .append, args := #[s, x], argTypes := #[24, 24] })
    (lo hi lo2 c n g : Nat) (A : Option Addr) (rs : List Rw) (r : Rw) (hs : a.eval s = .slice A n c) (hn : rs.length = n) (hown : OwnS w lo hi A c rs) (hx : a.eval x = .slice (some ⟨g, 0, none⟩) 1 1) (hc : w.cell? ⟨g, 0, none⟩ = some r.sv) (hr : r.In w lo2 w.heap.size) (h12 : hi ≤ lo2) (hlo2 : lo ≤ lo2) (hlo : lo ≤ w.heap.size) (hhi : hi ≤ w.heap.size) (hlen : n ≤ 1048576)
    (h : ∀ A' c' w', OwnS w' lo w'.heap.size A' c' (rs ++ [r]) → Kept lo hi w w' → (∀ b0, hi ≤ b0 → b0 < lo2 → b0 < w.heap.size → (∀ a, A' = some a → a.block ≠ b0) ∧ ∀ q ∈ rs ++ [r], q.Off b0) → wpList Try.prog ops Q rest (a.put o.dst (.slice A' (n + 1) c')) w') : wpList Try.prog ops Q (o :: rest) a w := by
  obtain ⟨ti, hi0, hz0, hz1, hz2⟩ := info_parts infoS
  subst hn
  refine wpList_append_lies w hgd s x 24 ho lo 34 ti _ 1 24 Try.underlying24 hi0 hz0 hz1 hz2 rfl (by decide) (.slice A rs.length c) rs.length (rs.map Rw.sv) hs hown.row ⟨g, 0, none⟩ 1 1 [r.sv] hx rfl
    (by intro j u hj; cases j with | zero => (simp at hj; subst hj; simpa [Addr.add] using hc) | succ j => simp at hj) (by intro u hu; simp at hu; subst hu; rfl) (by omega) (by unfold maxLen; omega) (by omega) hlo _ rfl ?_
  intro g' cap w' h1 hg hat hlt
  obtain ⟨q1, q2⟩ := hown.pushed hr h12 hlo2 hhi h1 hg hat hlt
  refine h _ _ _ q1 q2 (fun b0 h3 h4 h5 => ⟨fun a' ha' => ?_, fun q hq => ?_⟩)
  · cases ha'
    dsimp only
    rcases hat with hat | hat
    · cases A with
      | none => simp [Value.ownBlock] at hat
      | some p =>
        have h6 := hown.top p rfl
        simp [Value.ownBlock] at hat
        omega
    · omega
  · rcases List.mem_append.1 hq with hq | hq
    · exact (hown.mine q hq).off (.inr h3)
    · simp at hq; subst hq
      exact hr.off (.inl h4)

set_option maxRecDepth 100000 in
set_option maxHeartbeats 16000000 in
theorem drawP_spec (g : Nat) (A : Option Addr) (n c : Nat) (bs : List Int) (a x : Int) (w : World) (h : Bys w g A n bs) (hn : n ≤ 1048576) (hs : Src w g A n c a x) :
    Calls Try.prog 26 #[.pointer (some ⟨g, 0, none⟩)] w (DrQ w g) := by
  have gl := hs.lt
  have BY := Lib.hid (fun (W : World) (hk : Kept g (g + 1) w W) => h.kept hk (Nat.le_refl _) (by omega))
  obtain ⟨V, hV⟩ : ∃ V, V = w.alloc (Obj.cells #[.int .i64 0, .slice none 0 0] 26) := ⟨_, rfl⟩
  have S0 := Lib.hid (show Src V g A n c a x from by rw [hV]; exact hs.below (al1 _ _) gl)
  have K0 := Lib.hid (show Kept g (g + 1) w V from by rw [hV]; exact Kept.of_below (al1 _ _) g (g + 1))
  have Z0 := Lib.hid (show BoxG V w.heap.size (.int .i64 0) (.slice none 0 0) from by rw [hV]; exact BoxG.new w _ _ _)
  have G0 := Lib.hid (show Free V w.heap.size from by rw [hV]; exact Free.new w _ _)
  have sV : w.heap.size < V.heap.size := by rw [hV]; simp
  clear h hs
  go_enter Try.func26, Try.ntmps26
  go_upto_region 1 with fail
  rw [← hV]
  clear hV
  go_wp2_with fail
  refine (drawValid_spec g A n c bs a x _ (BY.out _ K0.out) hn S0.out).mono ?_
  rintro e w1 ⟨r, P, cp, rs, a1, x1, rfl, ho1, r0, r3, hl3, hrow, hs1, hk1⟩
  have z1 : V.heap.size ≤ w1.heap.size := hk1.size
  have S1 := Lib.hid hs1
  have O1 := Lib.hid ho1
  have RW := Lib.hid hrow
  have K1 := Lib.hid (K0.out.trans hk1)
  have Z1 := Lib.hid (Z0.out.kept hk1 (by omega) (by omega))
  have G1 := Lib.hid (G0.out.kept hk1 (by omega) (by omega))
  clear hs1 hk1 ho1 hrow
  go_upto_region 2 with fail
  obtain ⟨W1, hW1⟩ : ∃ W1, W1 = w1.alloc (Obj.cells #[.int .i64 r, .slice P rs.length cp] 26) := ⟨_, rfl⟩
  rw [← hW1]
  have AW := Lib.hid (show Below w1.heap.size w1 W1 from by rw [hW1]; exact al1 _ _)
  have C1 := Lib.hid (show BoxG W1 w1.heap.size (.int .i64 r) (.slice P rs.length cp) from by rw [hW1]; exact BoxG.new w1 _ _ _)
  have F1 := Lib.hid (show Free W1 w1.heap.size from by rw [hW1]; exact Free.new w1 _ _)
  obtain ⟨sW1, sW2⟩ : W1.heap.size ≤ w1.heap.size + 1 ∧ w1.heap.size + 1 ≤ W1.heap.size := by rw [hW1]; simp
  clear hW1
  have S2 := Lib.hid (S1.out.below AW.out (by omega))
  have K2 := Lib.hid (show Kept g (g + 1) w W1 from K1.out.trans (Kept.of_below AW.out g (g + 1)))
  go_wp2_with fail
  refine (next_spec g A n c bs 24 a1 x1 _ (BY.out _ K2.out) hn S2.out (by omega) (by omega)).mono ?_
  rintro e w2 ⟨v, a2, x2, rfl, v0, v1, _, hs2, hk2⟩
  have z2 : W1.heap.size ≤ w2.heap.size := hk2.size
  have BX := Lib.hid (C1.out.kept hk2 (by omega) (by omega))
  have FX := Lib.hid (F1.out.kept hk2 (by omega) (by omega))
  have O := Lib.hid ((O1.out.below AW.out (Nat.le_refl _)).kept hk2 (by omega) (.inr (by omega)))
  have S := Lib.hid hs2
  have KP := Lib.hid (K2.out.trans hk2)
  have ZR := Lib.hid ((Z1.out.below AW.out (by omega)).kept hk2 (by omega) (by omega))
  have GR := Lib.hid ((G1.out.below AW.out (by omega)).kept hk2 (by omega) (by omega))
  clear hs2 hk2 v1 S1 O1 K1 Z1 G1 AW C1 F1 S2 K2 S0 K0 Z0 G0
  obtain ⟨b0, b1⟩ := BX.out
  have fx := FX.out
  unfold Free at fx
  obtain ⟨cb, hcb⟩ : ∃ cb, w1.heap.size = cb := ⟨_, rfl⟩
  have cl : cb < w2.heap.size := by omega
  have cl2 : V.heap.size ≤ cb := by omega
  have OC := Lib.hid (show OwnS w2 V.heap.size cb P cp rs from by rw [← hcb]; exact O.out)
  rw [hcb] at b0 b1 fx BX FX ⊢
  clear O hcb
  have m1 : ¬ w.heap.size = cb := by omega
  have m2 : ¬ cb = w.heap.size := by omega
  have hrs : rs.length ≤ 4 := by omega
  by_cases e0 : v = 0
  · subst e0
    clear b0 b1 fx
    have BL := Lib.hid (Blk.new w2 [-1, 24, 25])
    go_wp2_with fail
    refine (next_spec g A n c bs 3 a2 x2 _ (BY.out _ (KP.out.alloc _)) hn (S.out.below (al1 w2 _) S.out.lt) (by omega) (by omega)).mono ?_
    rintro e w4 ⟨i, a4, x4, rfl, i0, i1, _, hs4, hk4⟩
    have i3 : i < 3 := i1 (by omega)
    have z4 := hk4.size
    simp only [World.size_alloc] at z4
    have AL := Lib.hid (al1 w2 (Obj.cells #[.int .i64 (-1), .int .i64 24, .int .i64 25] 2))
    have BW := Lib.hid (show Blk w4 w2.heap.size [-1, 24, 25] from (hk4.block w2.heap.size (by simp) (by omega)).trans BL.out)
    have B4 := Lib.hid ((BX.out.below AL.out (by omega)).kept hk4 (by simp; omega) (by omega))
    have F4 := Lib.hid ((FX.out.below AL.out (by omega)).kept hk4 (by simp; omega) (by omega))
    have O4 := Lib.hid ((OC.out.below AL.out (by omega)).kept hk4 (by simp; omega) (.inr (by omega)))
    have K4 := Lib.hid (show Kept g (g + 1) w w4 from (KP.out.alloc _).trans hk4)
    obtain ⟨s0, s1⟩ := (ZR.out.below AL.out (by omega)).kept hk4 (by simp; omega) (by omega)
    have f0 := (GR.out.below AL.out (by omega)).kept hk4 (by simp; omega) (by omega)
    obtain ⟨b0, b1⟩ := B4.out
    have fx := F4.out
    unfold Free at f0 fx
    have q0 : w4.cell? ⟨w2.heap.size, 0, none⟩ = some (.int .i64 (-1)) := BW.out.cell (i := 0) (by simp)
    have q1 : w4.cell? ⟨w2.heap.size, 1, none⟩ = some (.int .i64 24) := BW.out.cell (i := 1) (by simp)
    have q2 : w4.cell? ⟨w2.heap.size, 2, none⟩ = some (.int .i64 25) := BW.out.cell (i := 2) (by simp)
    have KC := Lib.hid (fun (u : Value) => (show Kept g (g + 1) w (w4.setCell ⟨cb, 0, none⟩ u) from Wd.kept_new K4.out ((Kept.refl cb (cb + 1) w4).set_ (p := ⟨cb, 0, none⟩) (Nat.le_refl _) (Nat.lt_succ_self _) u) (by omega)))
    have SZ := Lib.hid (fun (u : Value) => (show cb ≤ (w4.setCell ⟨cb, 0, none⟩ u).heap.size from by simp [World.setCell]; omega))
    clear hs4 hk4 i1
    have hi3 : i = 0 ∨ i = 1 ∨ i = 2 := by omega
    rcases hi3 with rfl | rfl | rfl
    · go_wp2
      refine bodyPost_ret (v := .agg #[.int .i64 (-1), .slice P rs.length cp]) (by simp [results, Try.results26, s0, s1, go_sem]) rfl ?_
      exact DrQ.fin (O4.out.far (p := ⟨cb, 0, none⟩) (.inr (Nat.le_refl _)) _) sV (SZ.out _) (by omega) (by omega) hrs RW.out (KC.out _) _ _
    · go_wp2
      refine bodyPost_ret (v := .agg #[.int .i64 24, .slice P rs.length cp]) (by simp [results, Try.results26, s0, s1, go_sem]) rfl ?_
      exact DrQ.fin (O4.out.far (p := ⟨cb, 0, none⟩) (.inr (Nat.le_refl _)) _) sV (SZ.out _) (by omega) (by omega) hrs RW.out (KC.out _) _ _
    · go_wp2
      refine bodyPost_ret (v := .agg #[.int .i64 25, .slice P rs.length cp]) (by simp [results, Try.results26, s0, s1, go_sem]) rfl ?_
      exact DrQ.fin (O4.out.far (p := ⟨cb, 0, none⟩) (.inr (Nat.le_refl _)) _) sV (SZ.out _) (by omega) (by omega) hrs RW.out (KC.out _) _ _
  · have t0 : (v == 0) = false := by simpa using e0
    by_cases e1 : v = 1
    · subst e1
      clear b0 b1 fx
      have W1r : IntKind.i64.wrap (r + 1) = r + 1 := IntWalk.i64_in _ (by omega)
      have AL := Lib.hid (al2 w2 (Obj.cells #[.int .i64 (r + 1)] 2) (Obj.cells #[.slice (some ⟨w2.heap.size, 0, none⟩) 1 1] 34))
      have BL := Lib.hid ((Blk.new w2 [r + 1]).alloc (Obj.cells #[.slice (some ⟨w2.heap.size, 0, none⟩) 1 1] 34))
      have RI := Lib.hid (show Rw.In ⟨some ⟨w2.heap.size, 0, none⟩, 1, [r + 1]⟩ ((w2.alloc (Obj.cells #[.int .i64 (r + 1)] 2)).alloc (Obj.cells #[.slice (some ⟨w2.heap.size, 0, none⟩) 1 1] 34)) w2.heap.size (w2.heap.size + 1 + 1) from ⟨Nat.le_refl _, by unfold maxLen; dsimp only; omega, Mine.of_blk BL.out (Nat.le_refl _) (by omega) rfl⟩)
      obtain ⟨b0, b1⟩ := BX.out
      go_wp2_with (at_builtin; refine push_row2 rfl _ _ rfl V.heap.size cb w2.heap.size cp rs.length (w2.heap.size + 1) P rs ⟨some ⟨w2.heap.size, 0, none⟩, 1, [r + 1]⟩ rfl rfl (by exact OC.out.below AL.out (by omega)) rfl (by exact Wd.alloc_first (w2.alloc _) _ _ _ (by simp)) (by have h9 := RI.out; simpa using h9) (by omega) (by omega) (by simp; omega) (by simp; omega) (by omega) ?_; intro A8 c8 w8 h5 h6 h7; have O8 := Lib.hid h5; have K8 := Lib.hid h6; have s8 := h6.size; have OB := Lib.hid (h7 cb (Nat.le_refl _) (by omega) (by simp; omega)); simp only [World.size_alloc] at s8; have BX8 := Lib.hid ((BX.out.below AL.out (by omega)).kept h6 (by simp; omega) (by omega)); have FX8 := Lib.hid ((FX.out.below AL.out (by omega)).kept h6 (by simp; omega) (by omega)); have ZR8 := Lib.hid ((ZR.out.below AL.out (by omega)).kept h6 (by simp; omega) (by omega)); have GR8 := Lib.hid ((GR.out.below AL.out (by omega)).kept h6 (by simp; omega) (by omega)); obtain ⟨c0, c1⟩ := BX8.out; obtain ⟨s0, s1⟩ := ZR8.out; have f0 := GR8.out; have fx := FX8.out; unfold Free at f0 fx; have y8 : cb < w8.heap.size := (by omega); clear h5 h6 h7)
      have hl8 : (rs ++ [(⟨some ⟨w2.heap.size, 0, none⟩, 1, [r + 1]⟩ : Rw)]).length = rs.length + 1 := by rw [List.length_append]; rfl
      have ROW := Lib.hid (show ∀ q ∈ rs ++ [(⟨some ⟨w2.heap.size, 0, none⟩, 1, [r + 1]⟩ : Rw)], q.zs.length ≤ 6 from fun q hq => by
        rcases List.mem_append.1 hq with hq | hq
        · exact RW.out q hq
        · simp at hq; subst hq
          simp)
      have K9 := Lib.hid (show Kept g (g + 1) w w8 from Wd.kept_new (KP.out.trans (Kept.of_below AL.out g (g + 1))) K8.out (by omega))
      have KC := Lib.hid (fun (u : Value) => (show Kept g (g + 1) w (w8.setCell ⟨cb, 1, none⟩ u) from Wd.kept_new K9.out ((Kept.refl cb (cb + 1) w8).set_ (p := ⟨cb, 1, none⟩) (Nat.le_refl _) (Nat.lt_succ_self _) u) (by omega)))
      refine bodyPost_ret (v := .agg #[.int .i64 r, .slice A8 (rs.length + 1) c8]) (by simp [results, Try.results26, s0, s1, go_sem]) rfl ?_
      rw [← hl8]
      exact DrQ.fin (O8.out.far_off (p := ⟨cb, 1, none⟩) OB.out.1 OB.out.2 _) sV (by simp [World.setCell]) (by omega) (by omega) (by rw [hl8]; omega) ROW.out (KC.out _) _ _
    · have t1 : (v == 1) = false := by simpa using e1
      by_cases e2 : v = 2
      · subst e2
        clear b0 b1 fx
        have W1r : IntKind.i64.wrap (r + 1) = r + 1 := IntWalk.i64_in _ (by omega)
        have AL := Lib.hid (al2 w2 (Obj.cells #[.int .i64 1, .int .i64 (-1)] 2) (Obj.cells #[.slice (some ⟨w2.heap.size, 0, none⟩) 2 2] 34))
        have BL := Lib.hid ((Blk.new w2 [1, -1]).alloc (Obj.cells #[.slice (some ⟨w2.heap.size, 0, none⟩) 2 2] 34))
        have RI := Lib.hid (show Rw.In ⟨some ⟨w2.heap.size, 0, none⟩, 2, [1, -1]⟩ ((w2.alloc (Obj.cells #[.int .i64 1, .int .i64 (-1)] 2)).alloc (Obj.cells #[.slice (some ⟨w2.heap.size, 0, none⟩) 2 2] 34)) w2.heap.size (w2.heap.size + 1 + 1) from ⟨Nat.le_refl _, by unfold maxLen; dsimp only; omega, Mine.of_blk BL.out (Nat.le_refl _) (by omega) rfl⟩)
        obtain ⟨b0, b1⟩ := BX.out
        go_wp2_with (at_builtin; refine push_row2 rfl _ _ rfl V.heap.size cb w2.heap.size cp rs.length (w2.heap.size + 1) P rs ⟨some ⟨w2.heap.size, 0, none⟩, 2, [1, -1]⟩ rfl rfl (by exact OC.out.below AL.out (by omega)) rfl (by exact Wd.alloc_first (w2.alloc _) _ _ _ (by simp)) (by have h9 := RI.out; simpa using h9) (by omega) (by omega) (by simp; omega) (by simp; omega) (by omega) ?_; intro A8 c8 w8 h5 h6 h7; have O8 := Lib.hid h5; have K8 := Lib.hid h6; have s8 := h6.size; have OB := Lib.hid (h7 cb (Nat.le_refl _) (by omega) (by simp; omega)); simp only [World.size_alloc] at s8; have BX8 := Lib.hid ((BX.out.below AL.out (by omega)).kept h6 (by simp; omega) (by omega)); have FX8 := Lib.hid ((FX.out.below AL.out (by omega)).kept h6 (by simp; omega) (by omega)); have ZR8 := Lib.hid ((ZR.out.below AL.out (by omega)).kept h6 (by simp; omega) (by omega)); have GR8 := Lib.hid ((GR.out.below AL.out (by omega)).kept h6 (by simp; omega) (by omega)); obtain ⟨c0, c1⟩ := BX8.out; obtain ⟨s0, s1⟩ := ZR8.out; have f0 := GR8.out; have fx := FX8.out; unfold Free at f0 fx; have y8 : cb < w8.heap.size := (by omega); clear h5 h6 h7)
        have hl8 : (rs ++ [(⟨some ⟨w2.heap.size, 0, none⟩, 2, [1, -1]⟩ : Rw)]).length = rs.length + 1 := by rw [List.length_append]; rfl
        have ROW := Lib.hid (show ∀ q ∈ rs ++ [(⟨some ⟨w2.heap.size, 0, none⟩, 2, [1, -1]⟩ : Rw)], q.zs.length ≤ 6 from fun q hq => by
          rcases List.mem_append.1 hq with hq | hq
          · exact RW.out q hq
          · simp at hq; subst hq
            simp)
        have K9 := Lib.hid (show Kept g (g + 1) w w8 from Wd.kept_new (KP.out.trans (Kept.of_below AL.out g (g + 1))) K8.out (by omega))
        have KC := Lib.hid (fun (u : Value) => (show Kept g (g + 1) w (w8.setCell ⟨cb, 1, none⟩ u) from Wd.kept_new K9.out ((Kept.refl cb (cb + 1) w8).set_ (p := ⟨cb, 1, none⟩) (Nat.le_refl _) (Nat.lt_succ_self _) u) (by omega)))
        refine bodyPost_ret (v := .agg #[.int .i64 r, .slice A8 (rs.length + 1) c8]) (by simp [results, Try.results26, s0, s1, go_sem]) rfl ?_
        rw [← hl8]
        exact DrQ.fin (O8.out.far_off (p := ⟨cb, 1, none⟩) OB.out.1 OB.out.2 _) sV (by simp [World.setCell]) (by omega) (by omega) (by rw [hl8]; omega) ROW.out (KC.out _) _ _
      · have t2 : (v == 2) = false := by simpa using e2
        obtain ⟨s0, s1⟩ := ZR.out
        have f0 := GR.out
        unfold Free at f0
        clear e0 e1 e2
        go_wp2
        refine bodyPost_ret (v := .agg #[.int .i64 r, .slice P rs.length cp]) (by simp [results, Try.results26, s0, s1, go_sem]) rfl ?_
        exact DrQ.fin OC.out sV (by omega) (by omega) (by omega) hrs RW.out KP.out _ _

end Go.Proofs.Ytjommpdblbbkdaa

namespace Go.Proofs.Ytjommpdblbbkdaa
open Go.RowKit

/-- A presentation that was drawn, in new memory. -/
def DrawnP (w : World) (e : Ending) (w' : World) : Prop :=
  ∃ r P cp rs, e = .returned (.agg #[.int .i64 r, .slice P rs.length cp]) ∧ OwnS w' w.heap.size w'.heap.size P cp rs ∧ -1 ≤ r ∧ r ≤ 25 ∧ rs.length ≤ 4 ∧ (∀ q ∈ rs, q.zs.length ≤ 6) ∧ Below w.heap.size w w'
set_option maxHeartbeats 2000000 in
theorem drawS_spec (A : Option Addr) (n c : Nat) (bs : List Int) (w : World) (h : Bys w w.heap.size A n bs) (hn : n ≤ 1048576) :
    Calls Try.prog 7 #[.slice A n c] w (DrawnP w) := by
  obtain ⟨V, hV⟩ : ∃ V, V = w.alloc (Obj.cells #[.int .i64 0, .slice none 0 0] 26) := ⟨_, rfl⟩
  have DV := Lib.hid (show Below w.heap.size w V from by rw [hV]; exact al1 _ _)
  have H := Lib.hid (h.into DV.out)
  have HW := Lib.hid h
  have Z0 := Lib.hid (show BoxG V w.heap.size (.int .i64 0) (.slice none 0 0) from by rw [hV]; exact BoxG.new w _ _ _)
  have G0 := Lib.hid (show Free V w.heap.size from by rw [hV]; exact Free.new w _ _)
  have sV : w.heap.size < V.heap.size := by rw [hV]; simp
  clear h
  go_enter Try.func7, Try.ntmps7
  go_upto_region 1 with fail
  rw [← hV]
  clear hV
  go_wp2_with fail
  refine (from_spec A n c bs _ H.out hn).mono ?_
  rintro e w1 ⟨g, x, rfl, hs, h1, h2, hb⟩
  have S := Lib.hid hs
  have D1 := Lib.hid hb
  have z1 : V.heap.size ≤ w1.heap.size := hb.size
  have B1 := Lib.hid ((H.out.below hb).more h1)
  have Z1 := Lib.hid (Z0.out.below hb (by omega))
  have G1 := Lib.hid (G0.out.below hb (by omega))
  clear hs hb
  go_wp2_with fail
  refine (drawP_spec g A n c bs 0 x _ B1.out hn S.out).mono ?_
  rintro e w2 ⟨r, P, cp, rs, rfl, ho, r0, r1, hl, hr, hk⟩
  have O := Lib.hid ho
  have K := Lib.hid hk
  have RW := Lib.hid hr
  have z2 : w1.heap.size ≤ w2.heap.size := hk.size
  obtain ⟨s0, s1⟩ := Z1.out.kept hk (by omega) (by omega)
  have f0 := G1.out.kept hk (by omega) (by omega)
  unfold Free at f0
  clear ho hk hr
  go_wp2
  refine bodyPost_ret (v := .agg #[.int .i64 r, .slice P rs.length cp]) (by simp [results, Try.results7, s0, s1, go_sem]) rfl ?_
  refine ⟨r, P, cp, rs, rfl, ?_, r0, r1, hl, RW.out, ?_⟩
  · exact ((O.out.far (p := ⟨w.heap.size, 0, none⟩) (.inl (by dsimp only; omega)) _).far (p := ⟨w.heap.size, 1, none⟩) (.inl (by dsimp only; omega)) _).wide (by omega) (by simp [World.setCell])
  · exact (((DV.out.trans (D1.out.mono (by omega))).trans (K.out.below (B := w.heap.size) (by omega) (by omega))).setCell (Nat.le_refl _) _).setCell (Nat.le_refl _) _

theorem simpRun_cons {n : Nat} {r : Int} {z : List (List Int)} {F : Int × List (List Int)} {m : Int × Int × Int} {ms : List (Int × Int × Int)} (h : simpRun n r z = (F, m :: ms)) : ∃ k p, n = k + 1 ∧ simpStep r z = some (p, m) ∧ simpRun k p.1 p.2 = (F, ms) := by
  cases n with
  | zero => simp [simpRun] at h
  | succ k =>
    rcases hs : simpStep r z with _ | ⟨p, m2⟩
    · rw [simpRun_stop hs] at h
      simp at h
    · rw [simpRun_go hs] at h
      simp only [Prod.mk.injEq, List.cons.injEq] at h
      obtain ⟨h1, rfl, h3⟩ := h
      exact ⟨k, p, rfl, rfl, by rw [← h1, ← h3]⟩
theorem simpRun_nil {n : Nat} {r : Int} {z : List (List Int)} {F : Int × List (List Int)} (h : simpRun n r z = (F, [])) : F = (r, z) := by
  cases n with
  | zero => simp [simpRun] at h; exact h.symm
  | succ k =>
    rcases hs : simpStep r z with _ | ⟨p, m2⟩
    · rw [simpRun_stop hs] at h
      simp at h
      exact h.symm
    · rw [simpRun_go hs] at h
      simp at h

end Go.Proofs.Ytjommpdblbbkdaa

namespace Go.Proofs.Ytjommpdblbbkdaa
open Go.ChangeShapes Go.WideShapes Go.ChangeAt Go.RowKit Go.Joins

theorem own : ownKnob Try.prog.godebug = none := by kernel_rfl
theorem laidOut : laidOutB Try.prog = true := by kernel_rfl

theorem ints_of {H : Type} {enc : TypeId × Value → H} {W : World} {base k : Nat} {V : Value} {x : DataW H × List MemPlace}
    (h : DataW.trod enc Try.prog W base (fun _ => true) true k 34 [V] = some x) :
    ∃ A n c zs, V = .slice A n c ∧ Ints W W.heap.size A n zs ∧ n ≤ maxLen := by
  rcases open_ints Try.underlying34 Try.underlying2 (by kernel_rfl) h with ⟨hcs, _⟩ | ⟨x, l, c, zs, hcs, _, hl, hm, hz, _, hcell, hwz⟩
  · simp at hcs
    subst hcs
    exact ⟨none, 0, 0, [], rfl, ⟨rfl, fun h => absurd h (by omega)⟩, by unfold maxLen; omega⟩
  · simp at hcs
    subst hcs
    have hz' : zs.length = c := by simpa using hz
    have hcell' : ∀ j, j < c → W.cell? (x.add j) = some (.int .i64 (zs.getD j 0)) := by rw [← hz']; simpa using hcell
    refine ⟨some x, l, c, zs.take l, rfl, ⟨by simp; omega, fun h0 => ?_⟩, by omega⟩
    obtain ⟨b, off, spot⟩ := x
    have hc := hcell' 0 (by omega)
    have hspot : spot = none := by simpa [Addr.add] using World.cell?_spot hc
    subst hspot
    have hlt := World.block_lt_of_cell? W _ hc
    refine ⟨b, off, rfl, by simpa [Addr.add] using hlt, fun j hj => ?_⟩
    have := hcell' j (by omega)
    rw [show (⟨b, off, none⟩ : Addr).add j = ⟨b, off + j, none⟩ from by unfold Addr.add; split <;> simp_all] at this
    rw [this]
    simp [hj]

set_option maxRecDepth 100000 in
theorem openW {H : Type} {enc : TypeId × Value → H} {W : World} {base : Nat} {v : Value} {d : DataW H} {p : List MemPlace} {b0 : Nat}
    (hv : Value.okWide Try.prog W .any b0 34 v) (h : DataW.Trod enc Try.prog W base (fun _ => true) true 34 v d p) :
    ∃ A n c zs, v = .slice A n c ∧ Ints W W.heap.size A n zs ∧ n ≤ maxLen := by
  obtain ⟨A, n, c, rfl⟩ := okWide_slice Try.underlying34 hv
  obtain ⟨fuel, hf⟩ := h
  exact ints_of hf

end Go.Proofs.Ytjommpdblbbkdaa

namespace Go.Proofs.Ytjommpdblbbkdaa
open Go.ChangeShapes Go.WideShapes Go.ChangeAt Go.RowKit Go.Joins

set_option maxRecDepth 100000 in
theorem openB {H : Type} {enc : TypeId × Value → H} {W : World} {base : Nat} {v : Value} {d : DataW H} {p : List MemPlace} {b0 : Nat}
    (hv : Value.okWide Try.prog W .any b0 22 v) (h : DataW.Trod enc Try.prog W base (fun _ => true) true 22 v d p) :
    ∃ A n c bs, v = .slice A n c ∧ Bys W W.heap.size A n bs := by
  obtain ⟨A, n, c, rfl⟩ := okWide_slice Try.underlying22 hv
  obtain ⟨fuel, hf⟩ := h
  rcases open_ints Try.underlying22 Try.underlying5 (by kernel_rfl) hf with ⟨hcs, _⟩ | ⟨x, l, c', zs, hcs, _, hl, hm, hz, _, hcell, hwz⟩
  · have hcs' : [Value.slice A n c] = [.slice none 0 0] := hcs
    simp at hcs'
    obtain ⟨rfl, rfl, rfl⟩ := hcs'
    exact ⟨none, 0, 0, [], rfl, rfl, fun j hj => by omega, fun h => absurd h (by omega)⟩
  · have hcs' : [Value.slice A n c] = [.slice (some x) l c'] := hcs
    simp at hcs'
    obtain ⟨rfl, rfl, rfl⟩ := hcs'
    have hz' : zs.length = c := by simpa using hz
    refine ⟨some x, n, c, zs.take n, rfl, by simp; omega, fun j hj => ?_, fun h0 => ?_⟩
    · have hin : zs.getD j 0 ∈ zs := by
        rw [List.getD_eq_getElem?_getD, List.getElem?_eq_getElem (by omega)]
        exact List.getElem_mem _
      have hw := hwz _ hin
      have e : (zs.take n).getD j 0 = zs.getD j 0 := by simp [hj]
      rw [e]
      have h1 : IntKind.u8.min = 0 := by decide
      have h2 : IntKind.u8.max = 255 := by decide
      simp [Lit.wf, h1, h2] at hw
      simpa [List.getD_eq_getElem?_getD] using hw
    · obtain ⟨b, off, spot⟩ := x
      have hc := hcell 0 (by omega)
      have hspot : spot = none := by simpa [Addr.add] using World.cell?_spot hc
      subst hspot
      have hlt := World.block_lt_of_cell? W _ hc
      refine ⟨b, off, rfl, by simpa [Addr.add] using hlt, fun j hj => ?_⟩
      have := hcell j (by omega)
      rw [show (⟨b, off, none⟩ : Addr).add j = ⟨b, off + j, none⟩ from by unfold Addr.add; split <;> simp_all] at this
      rw [this]
      simp [hj]

end Go.Proofs.Ytjommpdblbbkdaa

