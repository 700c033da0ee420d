/- Slices of bytes, and contracts of the specification's source of numbers. No condition but those that each theorem names. -/
import Derived.Test.YtpojkahlllochaaGrpA
import Derived.Test.YtpojkahlllochaaMatH
import Derived.Deep.RegionWith
namespace Go.Proofs.Ytpojkahlllochaa
open Go.RowKit

/-- A slice of bytes that reads as a list of numbers. -/
def Bys (w : World) (B : Nat) (A : Option Addr) (n : Nat) (bs : List Int) : Prop :=
  bs.length = n ∧ (∀ j, j < n → 0 ≤ bs.getD j 0 ∧ bs.getD j 0 ≤ 255) ∧ (0 < n → ∃ b off, A = some ⟨b, off, none⟩ ∧ b < B ∧ ∀ j, j < n → w.cell? ⟨b, off + j, none⟩ = some (.int .u8 (bs.getD j 0)))
theorem Bys.at_z {w : World} {B : Nat} {A : Option Addr} {n : Nat} {bs : List Int} (h : Bys w B A n bs) {k : Nat} (hk : k < n) : ∃ b off z, A = some ⟨b, off, none⟩ ∧ b < B ∧ 0 ≤ z ∧ z ≤ 255 ∧ w.cell? ⟨b, off + k, none⟩ = some (.int .u8 z) := by
  obtain ⟨_, h2, h3⟩ := h
  obtain ⟨b, off, hA, hb, hc⟩ := h3 (by omega)
  exact ⟨b, off, _, hA, hb, (h2 k hk).1, (h2 k hk).2, hc k hk⟩
theorem Bys.keep {w w' : World} {B : Nat} {A : Option Addr} {n : Nat} {bs : List Int} (h : Bys w B A n bs) (hk : ∀ p : Addr, p.block < B → w'.cell? p = w.cell? p) : Bys w' B A n bs :=
  ⟨h.1, h.2.1, fun h0 => by
    obtain ⟨b, off, hA, hb, hc⟩ := h.2.2 h0
    exact ⟨b, off, hA, hb, fun j hj => (hk ⟨b, off + j, none⟩ hb).trans (hc j hj)⟩⟩
theorem Bys.more {w : World} {B B' : Nat} {A : Option Addr} {n : Nat} {bs : List Int} (h : Bys w B A n bs) (hB : B ≤ B') : Bys w B' A n bs :=
  ⟨h.1, h.2.1, fun h0 => by
    obtain ⟨b, off, hA, hb, hc⟩ := h.2.2 h0
    exact ⟨b, off, hA, by omega, hc⟩⟩
theorem Bys.below {w w' : World} {B : Nat} {A : Option Addr} {n : Nat} {bs : List Int} (h : Bys w B A n bs) (hb : Below B w w') : Bys w' B A n bs := h.keep fun _ hp => hb.cell hp
theorem Bys.into {w W : World} {A : Option Addr} {n : Nat} {bs : List Int} (h : Bys w w.heap.size A n bs) (hb : Below w.heap.size w W) : Bys W W.heap.size A n bs := (h.below hb).more hb.size
theorem Bys.kept {w w' : World} {B lo hi : Nat} {A : Option Addr} {n : Nat} {bs : List Int} (h : Bys w B A n bs) (hk : Kept lo hi w w') (hB : B ≤ lo) (hw : B ≤ w.heap.size) : Bys w' B A n bs := h.below (hk.below hB hw)

/-- The source: the code, the place, the state. -/
def Src (w : World) (g : Nat) (A : Option Addr) (n c : Nat) (a x : Int) : Prop := Box3 w g (.slice A n c) (.int .i64 a) (.int .i64 x) ∧ Free w g ∧ 0 ≤ a ∧ a ≤ n ∧ 0 ≤ x ∧ x < 2147483647
theorem Src.below {w w' : World} {g : Nat} {A : Option Addr} {n c : Nat} {a x : Int} {B : Nat} (h : Src w g A n c a x) (hb : Below B w w') (hg : g < B) : Src w' g A n c a x := ⟨h.1.below hb hg, h.2.1.below hb hg, h.2.2⟩
theorem Src.kept {w w' : World} {g lo hi : Nat} {A : Option Addr} {n c : Nat} {a x : Int} (h : Src w g A n c a x) (hk : Kept lo hi w w') (hg : g < w.heap.size) (hn : ¬ (lo ≤ g ∧ g < hi)) : Src w' g A n c a x := ⟨h.1.kept hk hg hn, h.2.1.kept hk hg hn, h.2.2⟩
theorem Free.set_ {w : World} {g : Nat} (h : Free w g) (p : Addr) (u : Value) : Free (w.setCell p u) g := fun o => by
  have := h o
  simp [this, go_sem]
theorem Src.set2 {w : World} {g : Nat} {A : Option Addr} {n c : Nat} {a x y : Int} (h : Src w g A n c a x) (h0 : 0 ≤ y) (h1 : y < 2147483647) : Src (w.setCell ⟨g, 2, none⟩ (.int .i64 y)) g A n c a y := by
  obtain ⟨⟨b0, b1, b2⟩, hf, a0, a1, _, _⟩ := h
  exact ⟨⟨by simp [b0, go_sem], by simp [b1, go_sem], by simp [b2, go_sem]⟩, hf.set_ _ _, a0, a1, h0, h1⟩
theorem Src.set1 {w : World} {g : Nat} {A : Option Addr} {n c : Nat} {a x y : Int} (h : Src w g A n c a x) (h0 : 0 ≤ y) (h1 : y ≤ n) : Src (w.setCell ⟨g, 1, none⟩ (.int .i64 y)) g A n c y x := by
  obtain ⟨⟨b0, b1, b2⟩, hf, _, _, x0, x1⟩ := h
  exact ⟨⟨by simp [b0, go_sem], by simp [b1, go_sem], by simp [b2, go_sem]⟩, hf.set_ _ _, h0, h1, x0, x1⟩
theorem Src.lt {w : World} {g : Nat} {A : Option Addr} {n c : Nat} {a x : Int} (h : Src w g A n c a x) : g < w.heap.size := World.block_lt_of_cell? w _ h.1.1
theorem rem_facts {y : Int} (h0 : 0 ≤ y) : 0 ≤ y % 2147483647 ∧ y % 2147483647 < 2147483647 ∧ y.tmod 2147483647 = y % 2147483647 := ⟨by omega, by omega, Int.tmod_eq_emod_of_nonneg h0⟩

/-- What the source is made of. -/
def FromR (w : World) (A : Option Addr) (n c : Nat) (e : Ending) (w' : World) : Prop := ∃ g x, e = .returned (.pointer (some ⟨g, 0, none⟩)) ∧ Src w' g A n c 0 x ∧ w.heap.size ≤ g ∧ g < w'.heap.size ∧ Below w.heap.size w w'

set_option maxRecDepth 100000 in
set_option maxHeartbeats 4000000 in
theorem from_spec (A : Option Addr) (n c : Nat) (bs : List Int) (w : World) (h : Bys w w.heap.size A n bs) (hn : n ≤ 1048576) :
    Calls Try.prog 53 #[.slice A n c] w (FromR w A n c) := by
  have H := Lib.hid h
  clear h
  have K0 := Lib.hid (Box3.new w 93 (.slice A n c) (.int .i64 0) (.int .i64 97531))
  have F0 := Lib.hid (Free.new w 93 #[.slice A n c, .int .i64 0, .int .i64 97531])
  have D0 := Lib.hid (al1 w (Obj.cells #[.slice A n c, .int .i64 0, .int .i64 97531] 93))
  go_enter Try.func53, Try.ntmps53
  go_wp2
  obtain ⟨W0, hW0⟩ : ∃ W0, W0 = w.alloc (Obj.cells #[.slice A n c, .int .i64 0, .int .i64 97531] 93) := ⟨_, rfl⟩
  have s0 : w.heap.size < W0.heap.size := by rw [hW0]; simp
  rw [← hW0] at K0 F0 D0
  rw [← hW0]
  clear hW0
  go_loopw [4] (fun y wr => ∃ (k : Nat) (x : Int), k ≤ n ∧ y = .int .i64 k ∧ Src wr w.heap.size A n c 0 x ∧ Below w.heap.size w wr ∧ w.heap.size < wr.heap.size) (fun y _ => n - (intOf y).toNat)
  case atStart => exact ⟨0, _, Nat.zero_le _, rfl, ⟨K0.out, F0.out, by omega, by omega, by omega, by omega⟩, D0.out, s0⟩
  case round =>
    obtain ⟨k, x, hk, rfl, ⟨⟨b0, b1, b2⟩, hfree, _, _, x0, x1⟩, hbel, hsz⟩ := hrel
    have HL := Lib.hid hbel
    have HF := Lib.hid hfree
    have HK := Lib.hid (show Box3 wr w.heap.size (.slice A n c) (.int .i64 0) (.int .i64 x) from ⟨b0, b1, b2⟩)
    have f0 := HF.out
    unfold Free at f0
    clear hbel hfree
    have t0 : (0 : Int) ≤ (k : Int) := by omega
    by_cases hlt : k < n
    · have t1 : (k : Int) < (n : Int) := by omega
      by_cases h64 : k < 64
      · have t2 : (k : Int) < 64 := by omega
        obtain ⟨b, off, z, rfl, hb, z0, z1, hc⟩ := (H.out.below HL.out).at_z hlt
        have q0 : 0 ≤ x * 37 + z := by omega
        obtain ⟨r0, r1, r2⟩ := rem_facts q0
        obtain ⟨y, hy⟩ : ∃ y, (x * 37 + z) % 2147483647 = y := ⟨_, rfl⟩
        rw [hy] at r0 r1 r2
        have ws1 : IntKind.i64.wrap (x * 37) = x * 37 := IntWalk.i64_in _ (by omega)
        have ws2 : IntKind.i64.wrap (x * 37 + z) = x * 37 + z := IntWalk.i64_in _ (by omega)
        have ws3 : IntKind.i64.wrap z = z := IntWalk.i64_in _ (by omega)
        have ws4 : IntKind.i64.wrap y = y := IntWalk.i64_in _ (by omega)
        go_wp2
        go_region
        all_goals
          go_wp2
          go_roundw
          case rel => exact ⟨k + 1, y, by omega, by go_num, Src.set2 (show Src wr w.heap.size _ n c 0 x from ⟨HK.out, HF.out, by omega, by omega, x0, x1⟩) r0 r1, (HL.out.setCell (Nat.le_refl _) _).drew, by simp [World.setCell]; omega⟩
          case measure => simp [intOf]; omega
      · have t2 : ¬ (k : Int) < 64 := by omega
        go_wp2
        go_ret
        exact ⟨_, x, rfl, ⟨HK.out, HF.out, by omega, by omega, by omega, by omega⟩, Nat.le_refl _, hsz, HL.out⟩
    · have t1 : ¬ (k : Int) < (n : Int) := by omega
      go_wp2
      go_ret
      exact ⟨_, x, rfl, ⟨HK.out, HF.out, by omega, by omega, by omega, by omega⟩, Nat.le_refl _, hsz, HL.out⟩

/-- A number from 0 to m - 1 (0, if m is 1 or less), and the source behind it. -/
def NextR (w : World) (g : Nat) (A : Option Addr) (n c : Nat) (m : Int) (e : Ending) (w' : World) : Prop :=
  ∃ v a x, e = .returned (.int .i64 v) ∧ 0 ≤ v ∧ (1 < m → v < m) ∧ (m ≤ 1 → v = 0) ∧ Src w' g A n c a x ∧ Kept g (g + 1) w w'
theorem kept_set {w w' : World} {g i : Nat} (h : Kept g (g + 1) w w') (u : Value) : Kept g (g + 1) w (w'.setCell ⟨g, i, none⟩ u) := h.set_ (Nat.le_refl _) (by simp) u
theorem kept_draws {w w' : World} {g : Nat} (h : Kept g (g + 1) w w') (k : Nat) : Kept g (g + 1) w (w'.drewN k) := h.drewN k

set_option maxRecDepth 100000 in
set_option maxHeartbeats 8000000 in
theorem next_spec (g : Nat) (A : Option Addr) (n c : Nat) (bs : List Int) (m a x : Int) (w : World) (h : Bys w g A n bs) (hn : n ≤ 1048576) (hs : Src w g A n c a x) (m0 : -1000000 ≤ m) (m1 : m ≤ 1000000) :
    Calls Try.prog 84 #[.pointer (some ⟨g, 0, none⟩), .int .i64 m] w (NextR w g A n c m) := by
  have H := Lib.hid h
  have S := Lib.hid hs
  clear h
  by_cases hm : m ≤ 1
  · clear hs
    go_enter Try.func84, Try.ntmps84
    go_wp2
    go_ret
    exact ⟨0, a, x, rfl, by omega, fun h => by omega, fun _ => rfl, S.out, Kept.refl _ _ _⟩
  obtain ⟨⟨b0, b1, b2⟩, hfree, a0, a1, x0, x1⟩ := hs
  have f0 := hfree
  unfold Free at f0
  clear hfree
  have gl := S.out.lt
  have q0 : 0 ≤ x * 48271 + 11 := by omega
  obtain ⟨r0, r1, r2⟩ := rem_facts q0
  obtain ⟨y, hy⟩ : ∃ y, (x * 48271 + 11) % 2147483647 = y := ⟨_, rfl⟩
  rw [hy] at r0 r1 r2
  have ws1 : IntKind.i64.wrap (x * 48271) = x * 48271 := IntWalk.i64_in _ (by omega)
  have ws2 : IntKind.i64.wrap (x * 48271 + 11) = x * 48271 + 11 := IntWalk.i64_in _ (by omega)
  have ws4 : IntKind.i64.wrap y = y := IntWalk.i64_in _ (by omega)
  obtain ⟨u, hu⟩ : ∃ u, y / 11 = u := ⟨_, rfl⟩
  have d1 : y.tdiv 11 = u := by rw [Int.tdiv_eq_ediv_of_nonneg r0]; exact hu
  have u0 : 0 ≤ u ∧ u ≤ 200000000 := by omega
  have HU := Lib.hid hu
  have HY := Lib.hid hy
  obtain ⟨u0, u1⟩ := u0
  have S2 := Lib.hid (S.out.set2 r0 r1)
  have K2 := Lib.hid (kept_set (i := 2) (Kept.refl g (g + 1) w) (.int .i64 y))
  have H2 := Lib.hid (H.out.kept K2.out (Nat.le_refl _) (by omega))
  go_enter Try.func84, Try.ntmps84
  go_wp2
  obtain ⟨W2, hW2⟩ : ∃ W2, W2 = w.setCell ⟨g, 2, none⟩ (.int .i64 y) := ⟨_, rfl⟩
  rw [← hW2] at S2 K2 H2
  rw [← hW2]
  clear hW2 b0 b1 b2 f0 S
  obtain ⟨k, rfl⟩ : ∃ k : Nat, a = k := ⟨a.toNat, by omega⟩
  have mm : 1 < m := by omega
  have mz : ¬ m = 0 := by omega
  have mz' : (m == 0) = false := by simp; omega
  have REM := Lib.hid (fun (t : Int) (ht : 0 ≤ t) => (⟨Int.emod_nonneg t (by omega), Int.emod_lt_of_pos t (by omega), Int.tmod_eq_emod_of_nonneg ht⟩ : 0 ≤ t % m ∧ t % m < m ∧ t.tmod m = t % m))
  have g2 := S2.out.lt
  obtain ⟨⟨b0, b1, b2⟩, hfree, _, _, _, _⟩ := S2.out
  have f0 := hfree
  unfold Free at f0
  clear hfree
  by_cases hlt : k < n
  case neg =>
    have t1 : ¬ (k : Int) < (n : Int) := by omega
    obtain ⟨v0, v1, v2⟩ := REM.out u u0
    obtain ⟨v, hv⟩ : ∃ v, u % m = v := ⟨_, rfl⟩
    rw [hv] at v0 v1 v2
    have ws5 : IntKind.i64.wrap v = v := IntWalk.i64_in _ (by omega)
    go_quiet (fail)
    all_goals
      go_wp2
      go_ret
      exact ⟨v, k, y, rfl, v0, fun _ => v1, fun h => absurd mm (by omega), S2.out, K2.out.drewN _⟩
  have t1 : (k : Int) < (n : Int) := by omega
  have t0 : (0 : Int) ≤ (k : Int) := by omega
  obtain ⟨b, off, z, rfl, hb, z0, z1, hc⟩ := H2.out.at_z hlt
  have ws6 : IntKind.i64.wrap ((k : Int) + 1) = (k : Int) + 1 := IntWalk.i64_in _ (by omega)
  have ws7 : IntKind.i64.wrap (u + z) = u + z := IntWalk.i64_in _ (by omega)
  have ws8 : IntKind.i64.wrap z = z := IntWalk.i64_in _ (by omega)
  have ws9 : IntKind.i64.wrap (((k : Int) + 1) % 2) = ((k : Int) + 1) % 2 := IntWalk.i64_in _ (by omega)
  have ws10 : IntKind.i64.wrap (k : Int) = (k : Int) := IntWalk.i64_in _ (by omega)
  have gb : ¬ b = g := by omega
  have gb' : ¬ g = b := by omega
  have t3 : (0 : Int) ≤ (k : Int) + 1 := by omega
  by_cases hc2 : m ≤ 256 ∧ ((k : Int) + 1) % 2 = 0
  · obtain ⟨p1, p2⟩ := hc2
    have p3 : (((k : Int) + 1) % 2 == 0) = true := by rw [p2]; rfl
    have p4 : (((k : Int) + 1).tmod 2 == 0) = true := by rw [Int.tmod_eq_emod_of_nonneg t3]; exact p3
    obtain ⟨v0, v1, v2⟩ := REM.out z z0
    obtain ⟨v, hv⟩ : ∃ v, z % m = v := ⟨_, rfl⟩
    rw [hv] at v0 v1 v2
    have ws5 : IntKind.i64.wrap v = v := IntWalk.i64_in _ (by omega)
    clear p2
    go_quiet (fail)
    go_wp2
    go_quiet (fail)
    go_wp2
    go_quiet (fail)
    go_wp2
    go_ret
    exact ⟨v, (k : Int) + 1, y, rfl, v0, fun _ => v1, fun h => absurd mm (by omega), S2.out.set1 (by omega) (by omega), (by first | exact kept_set (kept_draws K2.out _) _ | exact kept_draws (kept_set (kept_draws K2.out _) _) _)⟩
  · obtain ⟨v0, v1, v2⟩ := REM.out (u + z) (by omega)
    obtain ⟨v, hv⟩ : ∃ v, (u + z) % m = v := ⟨_, rfl⟩
    rw [hv] at v0 v1 v2
    have ws5 : IntKind.i64.wrap v = v := IntWalk.i64_in _ (by omega)
    have uz : 0 ≤ u + z := by omega
    by_cases hp : m ≤ 256
    · have p2 : ¬ ((k : Int) + 1) % 2 = 0 := fun e => hc2 ⟨hp, e⟩
      have p3 : (((k : Int) + 1) % 2 == 0) = false := by simpa using p2
      have p4 : (((k : Int) + 1).tmod 2 == 0) = false := by rw [Int.tmod_eq_emod_of_nonneg t3]; exact p3
      clear p2 hc2
      go_quiet (fail)
      go_wp2
      go_quiet (fail)
      go_wp2
      go_ret
      exact ⟨v, (k : Int) + 1, y, rfl, v0, fun _ => v1, fun h => absurd mm (by omega), S2.out.set1 (by omega) (by omega), (by first | exact kept_set (kept_draws K2.out _) _ | exact kept_draws (kept_set (kept_draws K2.out _) _) _)⟩
    · clear hc2
      go_quiet (fail)
      go_wp2
      go_quiet (fail)
      go_wp2
      go_ret
      exact ⟨v, (k : Int) + 1, y, rfl, v0, fun _ => v1, fun h => absurd mm (by omega), S2.out.set1 (by omega) (by omega), (by first | exact kept_set (kept_draws K2.out _) _ | exact kept_draws (kept_set (kept_draws K2.out _) _) _)⟩
end Go.Proofs.Ytpojkahlllochaa
