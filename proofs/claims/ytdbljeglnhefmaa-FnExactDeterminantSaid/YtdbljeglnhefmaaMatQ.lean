/- The step of the elimination: the program's function and its contract. No condition but those that each theorem names. -/
import Derived.Test.YtdbljeglnhefmaaMatP
namespace Go.Proofs.Ytdbljeglnhefmaa
open Go.RowKit

/-- One entry of the step, in the arithmetic of int64. -/
def stp (p u v x y : Int) : Int := IntKind.i64.wrap ((IntKind.i64.wrap (IntKind.i64.wrap (u * v) - IntKind.i64.wrap (x * y))).tdiv p)
/-- The entries behind the first s columns of row i of step k. -/
def redRow (N k : Nat) (p : Int) (i : Nat) (l : List Int) : Nat → List Int
  | 0 => l
  | s + 1 => (redRow N k p i l s).set (i * N + (k + 1 + s)) (stp p ((redRow N k p i l s).getD (k * N + k) 0) ((redRow N k p i l s).getD (i * N + (k + 1 + s)) 0) ((redRow N k p i l s).getD (i * N + k) 0) ((redRow N k p i l s).getD (k * N + (k + 1 + s)) 0))
/-- The entries behind the first r rows of step k. -/
def redAll (N k : Nat) (p : Int) (l : List Int) : Nat → List Int
  | 0 => l
  | r + 1 => redRow N k p (k + 1 + r) (redAll N k p l r) (N - (k + 1))

set_option maxHeartbeats 4000000 in
theorem reduce_impl (N k : Nat) (p : Int) (A : Option Addr) (n c lo hi : Nat) (l : List Int) (w : World) (h : Own w lo hi A n c l) (hhi : hi ≤ w.heap.size) (hn : n = N * N) (hN : N ≤ 48) (hk : k < N) (hp : ¬ p = 0) :
    Calls Try.prog 87 #[.agg #[.int .i64 N, .int .i64 N, .slice A n c], .int .i64 k, .int .i64 p] w fun e w' => e = .returned (.tuple #[]) ∧ Own w' lo hi A n c (redAll N k p l (N - (k + 1))) ∧ Kept lo hi w w' := by
  have p1 := rc_le hN hN
  have HN := Lib.hid hn
  have H := Lib.hid (h.al hhi (al1 w (Obj.cells #[.int .i64 N, .int .i64 N, .slice A n c] 27)))
  have K0 := Lib.hid (Box3.new w 27 (.int .i64 N) (.int .i64 N) (.slice A n c))
  have HB0 := Lib.hid (Kept.of_below (al1 w (Obj.cells #[.int .i64 N, .int .i64 N, .slice A n c] 27)) lo hi)
  clear h hn
  go_enter Try.func87, Try.ntmps87
  go_wp2
  obtain ⟨W0, hW0⟩ : ∃ W0, W0 = (w.alloc (Obj.cells #[.int .i64 N, .int .i64 N, .slice A n c] 27)) := ⟨_, rfl⟩
  have s0 : w.heap.size < W0.heap.size := by rw [hW0]; simp
  rw [← hW0] at K0 HB0 H
  rw [← hW0]
  clear hW0
  go_loopw [6] (fun x wr => ∃ r : Nat, r ≤ N - (k + 1) ∧ x = .int .i64 ((k + 1 + r : Nat) : Int) ∧ Own wr lo hi A n c (redAll N k p l r) ∧ Kept lo hi W0 wr) (fun x _ => N - (intOf x).toNat)
  case atStart => exact ⟨0, Nat.zero_le _, by simp, H.out, Kept.refl _ _ _⟩
  case round =>
    obtain ⟨r, hr, rfl, hown, hkept⟩ := hrel
    have HO := Lib.hid hown
    have HK := Lib.hid hkept
    have sz : W0.heap.size ≤ wr.heap.size := hkept.size
    clear hown hkept
    obtain ⟨wo, rfl⟩ : ∃ wo : World, wo = wr := ⟨_, rfl⟩
    obtain ⟨i, hi'⟩ : ∃ i, k + 1 + r = i := ⟨_, rfl⟩
    rw [hi']
    have HI := Lib.hid hi'
    have hki : k < i := by omega
    have hiN : i ≤ N := by omega
    clear hi'
    obtain ⟨k0, k1, k2⟩ := K0.out.kept HK.out (by omega) (by omega)
    by_cases hlt : i < N
    · go_wp2
      clear k0 k1 k2
      obtain ⟨l1, hl1⟩ : ∃ l1, redAll N k p l r = l1 := ⟨_, rfl⟩
      rw [hl1] at HO
      have HL1 := Lib.hid hl1
      clear hl1
      go_loopw [7] (fun y wr => ∃ s : Nat, s ≤ N - (k + 1) ∧ y = .int .i64 ((k + 1 + s : Nat) : Int) ∧ Own wr lo hi A n c (redRow N k p i l1 s) ∧ Kept lo hi W0 wr) (fun y _ => N - (intOf y).toNat)
      case atStart => exact ⟨0, Nat.zero_le _, by simp, HO.out, HK.out⟩
      case round =>
        obtain ⟨s, hs, rfl, hown, hkept⟩ := hrel
        have HV := Lib.hid hown
        have HL := Lib.hid hkept
        have sv : W0.heap.size ≤ wr.heap.size := hkept.size
        clear hown hkept
        obtain ⟨j, hj'⟩ : ∃ j, k + 1 + s = j := ⟨_, rfl⟩
        rw [hj']
        have HJ := Lib.hid hj'
        have hkj : k < j := by omega
        have hjN : j ≤ N := by omega
        clear hj'
        have X1 := Lib.hid (K0.out.kept HL.out (by omega) (by omega))
        obtain ⟨k0, k1, k2⟩ := X1.out
        by_cases hjl : j < N
        · have skk := ij_lt hk hk
          have sij := ij_lt hlt hjl
          have sik := ij_lt hlt hk
          have skj := ij_lt hk hjl
          have a0 : 0 ≤ (k : Int) * (N : Int) := by rw [castM]; omega
          have a1 : (k : Int) * (N : Int) ≤ 2304 := by rw [castM]; omega
          have b0 : 0 ≤ (i : Int) * (N : Int) := by rw [castM]; omega
          have b1 : (i : Int) * (N : Int) ≤ 2304 := by rw [castM]; omega
          have q : redRow N k p i l1 (s + 1) = (redRow N k p i l1 s).set (i * N + j) (stp p ((redRow N k p i l1 s).getD (k * N + k) 0) ((redRow N k p i l1 s).getD (i * N + j) 0) ((redRow N k p i l1 s).getD (i * N + k) 0) ((redRow N k p i l1 s).getD (k * N + j) 0)) := by rw [redRow, HJ.out]
          obtain ⟨m, hm⟩ : ∃ m, redRow N k p i l1 s = m := ⟨_, rfl⟩
          rw [hm] at HV q
          have AA := fun (i j : Nat) (hs : i * N + j < N * N) (a0 : 0 ≤ (i : Int) * (N : Int)) (a1 : (i : Int) * (N : Int) ≤ 2304) (W : World) (hW : Below wr.heap.size wr W) => at_impl N N A n c m W ((HV.out.below hW (by omega)).ints.more (by have := hW.size; omega)) (by have := HN.out; omega) i j _ a0 a1 (castI i N j) (by rw [HN.out]; exact hs)
          have AKK := Lib.hid (AA k k skk a0 a1)
          have AIJ := Lib.hid (AA i j sij b0 b1)
          have AIK := Lib.hid (AA i k sik b0 b1)
          have AKJ := Lib.hid (AA k j skj a0 a1)
          obtain ⟨u, hu⟩ : ∃ u, m.getD (k * N + k) 0 = u := ⟨_, rfl⟩
          obtain ⟨v, hv⟩ : ∃ v, m.getD (i * N + j) 0 = v := ⟨_, rfl⟩
          obtain ⟨x, hx⟩ : ∃ x, m.getD (i * N + k) 0 = x := ⟨_, rfl⟩
          obtain ⟨y, hy⟩ : ∃ y, m.getD (k * N + j) 0 = y := ⟨_, rfl⟩
          rw [hu] at AKK q
          rw [hv] at AIJ q
          rw [hx] at AIK q
          rw [hy] at AKJ q
          have Q := Lib.hid q
          clear AA hm hu hv hx hy q
          go_wp2_with fail
          go_region_held3 (fun W => W.cell? ⟨w.heap.size, 0, none⟩ = some (.int .i64 N) ∧ W.cell? ⟨w.heap.size, 1, none⟩ = some (.int .i64 N) ∧ W.cell? ⟨w.heap.size, 2, none⟩ = some (.slice A n c)) (go_keep)
            (first
              | (go_at_call 57; (with_reducible refine (AKK.out _ (by exact (Below.refl _ _).drew)).mono ?_); rintro e w6 ⟨rfl, hb'⟩; have B6 := Lib.hid (undrew hb'); have z6 := B6.out.size; obtain ⟨e0, e1, e2⟩ := X1.out.below B6.out (by omega); clear hb')
              | (go_at_call 57; (with_reducible refine (AIJ.out _ (by exact B6.out)).mono ?_); rintro e w7 ⟨rfl, hb'⟩; have B7 := Lib.hid (B6.out.trans (hb'.mono z6)); have z7 := B7.out.size; obtain ⟨f0, f1, f2⟩ := X1.out.below B7.out (by omega); clear hb')
              | (go_at_call 57; (with_reducible refine (AIK.out _ (by exact B7.out)).mono ?_); rintro e w8 ⟨rfl, hb'⟩; have B8 := Lib.hid (B7.out.trans (hb'.mono z7)); have z8 := B8.out.size; obtain ⟨g0, g1, g2⟩ := X1.out.below B8.out (by omega); clear hb')
              | (go_at_call 57; (with_reducible refine (AKJ.out _ (by exact B8.out)).mono ?_); rintro e w9 ⟨rfl, hb'⟩; have B9 := Lib.hid (B8.out.trans (hb'.mono z8)); have z9 := B9.out.size; obtain ⟨m0, m1, m2⟩ := X1.out.below B9.out (by omega); clear hb'))
          clear k0 k1 k2 e0 e1 e2 f0 f1 f2 g0 g1 g2 m0 m1 m2
          have X9 := Lib.hid (X1.out.below B9.out (by omega))
          have O9 := Lib.hid (HV.out.below B9.out (by omega))
          obtain ⟨k0, k1, k2⟩ := X9.out
          go_wp2_with fail
          obtain ⟨X, hX⟩ : ∃ X, IntKind.i64.wrap (IntKind.i64.wrap (u * v) - IntKind.i64.wrap (x * y)) = X := ⟨_, rfl⟩
          rw [hX]
          have q2 : stp p u v x y = IntKind.i64.wrap (X.tdiv p) := by rw [← hX]; rfl
          have Q2 := Lib.hid q2
          clear hX q2
          go_region_held3 (fun W => W.cell? ⟨w.heap.size, 0, none⟩ = some (.int .i64 N) ∧ W.cell? ⟨w.heap.size, 1, none⟩ = some (.int .i64 N) ∧ W.cell? ⟨w.heap.size, 2, none⟩ = some (.slice A n c)) (go_keep)
            ((go_at_call 60; refine (set_impl N N i j (IntKind.i64.wrap (X.tdiv p)) A n c m lo hi _ _ (by exact O9.out) (by simp; omega) (by have := HN.out; omega) b0 b1 (castI i N j) (by rw [HN.out]; exact sij)).mono ?_; rintro e w10 ⟨rfl, hown10, hkept'⟩; have O10 := Lib.hid hown10; have K10 : Hid (Kept lo hi w9 w10) := Lib.hid ⟨hkept'.os, hkept'.tape, hkept'.output, hkept'.size, hkept'.block⟩; obtain ⟨e0, e1, e2⟩ := X9.out.kept K10.out (by omega) (by omega); clear hown10 hkept'))
          clear k0 k1 k2 e0 e1 e2
          go_wp2
          go_roundw
          case rel => exact ⟨s + 1, by have := HJ.out; omega, by have := HJ.out; go_num, by rw [Q.out, Q2.out]; exact O10.out, (HL.out.trans (Kept.of_below B9.out _ _)).trans K10.out⟩
          case measure => simp [intOf]; omega
        · obtain rfl : j = N := by omega
          go_wp2
          go_roundw
          case rel => exact ⟨r + 1, by have := HI.out; omega, by have := HI.out; go_num, by rw [redAll, HI.out, HL1.out]; have hs2 : s = j - (k + 1) := (by have := HJ.out; omega); rw [← hs2]; exact HV.out, HL.out⟩
          case measure => simp [intOf]; omega
    · have hr2 : r = N - (k + 1) := by have := HI.out; omega
      have HR := Lib.hid hr2
      clear hr2
      go_wp2
      go_end0
      exact ⟨rfl, by rw [← HR.out]; exact HO.out, HB0.out.trans HK.out⟩

end Go.Proofs.Ytdbljeglnhefmaa
