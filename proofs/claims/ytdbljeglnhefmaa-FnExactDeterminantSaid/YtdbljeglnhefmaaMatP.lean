/- Contracts of the functions that exchange two rows, the program's and the specification's. No condition but those that each theorem names. -/
import Derived.Test.YtdbljeglnhefmaaMatO
namespace Go.Proofs.Ytdbljeglnhefmaa
open Go.RowKit

/-- The entries behind the exchange of rows a and b in the first t columns. -/
def swp (N a b : Nat) (l : List Int) : Nat → List Int
  | 0 => l
  | t + 1 => ((swp N a b l t).set (a * N + t) ((swp N a b l t).getD (b * N + t) 0)).set (b * N + t) ((swp N a b l t).getD (a * N + t) 0)
theorem swp_len (N a b : Nat) (l : List Int) (t : Nat) : (swp N a b l t).length = l.length := by
  induction t with
  | zero => rfl
  | succ t ih => simp [swp, ih]

set_option maxHeartbeats 2000000 in
theorem swap_impl (N a b : Nat) (A : Option Addr) (n c lo hi : Nat) (l : List Int) (w : World) (h : Own w lo hi A n c l) (hhi : hi ≤ w.heap.size) (hn : n = N * N) (hN : N ≤ 48) (ha : a < N) (hb' : b < N) :
    Calls Try.prog 86 #[.agg #[.int .i64 N, .int .i64 N, .slice A n c], .int .i64 a, .int .i64 b] w fun e w' => e = .returned (.tuple #[]) ∧ Own w' lo hi A n c (swp N a b l N) ∧ Kept lo hi w w' := by
  have p1 := rc_le hN hN
  have HN := Lib.hid hn
  have H := Lib.hid (h.al hhi (al1 w (Obj.cells #[.int .i64 N, .int .i64 N, .slice A n c] 27)))
  have K0 := Lib.hid (Box3.new w 27 (.int .i64 N) (.int .i64 N) (.slice A n c))
  have HB0 := Lib.hid (Kept.of_below (al1 w (Obj.cells #[.int .i64 N, .int .i64 N, .slice A n c] 27)) lo hi)
  clear h hn
  go_enter Try.func86, Try.ntmps86
  go_wp2
  obtain ⟨W0, hW0⟩ : ∃ W0, W0 = (w.alloc (Obj.cells #[.int .i64 N, .int .i64 N, .slice A n c] 27)) := ⟨_, rfl⟩
  have s0 : w.heap.size < W0.heap.size := by rw [hW0]; simp
  rw [← hW0] at K0 HB0 H
  rw [← hW0]
  clear hW0
  go_loopw [11] (fun x wr => ∃ t : Nat, t ≤ N ∧ x = .int .i64 t ∧ Own wr lo hi A n c (swp N a b l t) ∧ Kept lo hi W0 wr) (fun x _ => N - (intOf x).toNat)
  case atStart => exact ⟨0, Nat.zero_le _, rfl, H.out, Kept.refl _ _ _⟩
  case round =>
    obtain ⟨t, ht, rfl, hown, hkept⟩ := hrel
    have HO := Lib.hid hown
    have HK := Lib.hid hkept
    have sz : W0.heap.size ≤ wr.heap.size := hkept.size
    clear hown hkept
    by_cases hlt : t < N
    · have X1 := Lib.hid (K0.out.kept HK.out (by omega) (by omega))
      have sa := ij_lt ha hlt
      have sb := ij_lt hb' hlt
      have a0 : 0 ≤ (a : Int) * (N : Int) := by rw [castM]; omega
      have a1 : (a : Int) * (N : Int) ≤ 2304 := by rw [castM]; omega
      have b0 : 0 ≤ (b : Int) * (N : Int) := by rw [castM]; omega
      have b1 : (b : Int) * (N : Int) ≤ 2304 := by rw [castM]; omega
      obtain ⟨m, hm⟩ : ∃ m, swp N a b l t = m := ⟨_, rfl⟩
      rw [hm] at HO
      obtain ⟨x, hx⟩ : ∃ x, m.getD (a * N + t) 0 = x := ⟨_, rfl⟩
      obtain ⟨y, hy⟩ : ∃ y, m.getD (b * N + t) 0 = y := ⟨_, rfl⟩
      have q : swp N a b l (t + 1) = (m.set (a * N + t) y).set (b * N + t) x := by rw [swp, hm, hx, hy]
      have AX := Lib.hid (fun (W : World) (hW : Below wr.heap.size wr W) => at_impl N N A n c m W ((HO.out.below hW (by omega)).ints.more (by have := hW.size; omega)) (by have := HN.out; omega) a t _ a0 a1 (castI a N t) (by rw [HN.out]; exact sa))
      have AY := Lib.hid (fun (W : World) (hW : Below wr.heap.size wr W) => at_impl N N A n c m W ((HO.out.below hW (by omega)).ints.more (by have := hW.size; omega)) (by have := HN.out; omega) b t _ b0 b1 (castI b N t) (by rw [HN.out]; exact sb))
      rw [hx] at AX
      rw [hy] at AY
      have Q := Lib.hid q
      clear hm hx hy q
      obtain ⟨k0, k1, k2⟩ := X1.out
      go_wp2_with fail
      go_region_held3 (fun W => W.cell? ⟨w.heap.size, 0, none⟩ = some (.int .i64 N) ∧ W.cell? ⟨w.heap.size, 1, none⟩ = some (.int .i64 N) ∧ W.cell? ⟨w.heap.size, 2, none⟩ = some (.slice A n c)) (go_keep)
            (first
              | (go_at_call 57; first
                  | with_reducible refine (AX.out _ (by exact (Below.refl _ _).drew)).mono ?_
                  | with_reducible refine (AY.out _ (by exact (Below.refl _ _).drew)).mono ?_
                 rintro e w6 ⟨rfl, hb6'⟩; have hb6 := undrew hb6'; have B6 := Lib.hid hb6; have z6 := hb6.size; obtain ⟨e0, e1, e2⟩ := X1.out.below hb6 (by omega); clear hb6 hb6')
              | (go_at_call 57; first
                  | with_reducible refine (AX.out _ (by exact B6.out)).mono ?_
                  | with_reducible refine (AY.out _ (by exact B6.out)).mono ?_
                 rintro e w7 ⟨rfl, hb7⟩; have B7 := Lib.hid hb7; obtain ⟨g0, g1, g2⟩ := (X1.out.below B6.out (by omega)).below hb7 (by omega); clear hb7))
      have z6 := B6.out.size
      have z7 := B7.out.size
      have D7 := Lib.hid (B6.out.trans (B7.out.mono (by omega)))
      clear k0 k1 k2 e0 e1 e2 g0 g1 g2
      have X7 := Lib.hid (X1.out.below D7.out (by omega))
      have O7 := Lib.hid (HO.out.below D7.out (by omega))
      obtain ⟨k0, k1, k2⟩ := X7.out
      go_wp2_with fail
      refine (set_impl N N a t y A n c m lo hi _ _ O7.out (by omega) (by have := HN.out; omega) a0 a1 (castI a N t) (by rw [HN.out]; exact sa)).mono ?_
      rintro e w8 ⟨rfl, hown8, hkept8⟩
      have O8 := Lib.hid hown8
      have K8 := Lib.hid hkept8
      have z8 := hkept8.size
      clear k0 k1 k2 hown8 hkept8
      have X8 := Lib.hid (X7.out.kept K8.out (by omega) (by omega))
      obtain ⟨k0, k1, k2⟩ := X8.out
      go_wp2_with fail
      refine (set_impl N N b t x A n c _ lo hi _ _ O8.out (by omega) (by have := HN.out; omega) b0 b1 (castI b N t) (by rw [HN.out]; exact sb)).mono ?_
      rintro e w9 ⟨rfl, hown9, hkept9⟩
      have O9 := Lib.hid hown9
      have K9 := Lib.hid hkept9
      clear k0 k1 k2 hown9 hkept9
      go_wp2
      go_roundw
      case rel => exact ⟨t + 1, by omega, by go_num, by rw [Q.out]; exact O9.out, ((HK.out.trans (Kept.of_below D7.out _ _)).trans K8.out).trans K9.out⟩
      case measure => simp [intOf]; omega
    · obtain rfl : t = N := by omega
      go_wp2
      go_end0
      exact ⟨rfl, HO.out, HB0.out.trans HK.out⟩

set_option maxHeartbeats 2000000 in
theorem swap_spec (N a b : Nat) (A : Option Addr) (n c lo hi : Nat) (l : List Int) (w : World) (h : Own w lo hi A n c l) (hhi : hi ≤ w.heap.size) (hn : n = N * N) (hN : N ≤ 48) (ha : a < N) (hb' : b < N) :
    Calls Try.prog 84 #[.agg #[.int .i64 N, .int .i64 N, .slice A n c], .int .i64 a, .int .i64 b] w fun e w' => e = .returned (.tuple #[]) ∧ Own w' lo hi A n c (swp N a b l N) ∧ Kept lo hi w w' := by
  have p1 := rc_le hN hN
  have HN := Lib.hid hn
  have H := Lib.hid (h.al hhi (al1 w (Obj.cells #[.int .i64 N, .int .i64 N, .slice A n c] 27)))
  have K0 := Lib.hid (Box3.new w 27 (.int .i64 N) (.int .i64 N) (.slice A n c))
  have HB0 := Lib.hid (Kept.of_below (al1 w (Obj.cells #[.int .i64 N, .int .i64 N, .slice A n c] 27)) lo hi)
  clear h hn
  go_enter Try.func84, Try.ntmps84
  go_wp2
  obtain ⟨W0, hW0⟩ : ∃ W0, W0 = (w.alloc (Obj.cells #[.int .i64 N, .int .i64 N, .slice A n c] 27)) := ⟨_, rfl⟩
  have s0 : w.heap.size < W0.heap.size := by rw [hW0]; simp
  rw [← hW0] at K0 HB0 H
  rw [← hW0]
  clear hW0
  go_loopw [6] (fun x wr => ∃ t : Nat, t ≤ N ∧ x = .int .i64 t ∧ Own wr lo hi A n c (swp N a b l t) ∧ Kept lo hi W0 wr) (fun x _ => N - (intOf x).toNat)
  case atStart => exact ⟨0, Nat.zero_le _, rfl, H.out, Kept.refl _ _ _⟩
  case round =>
    obtain ⟨t, ht, rfl, hown, hkept⟩ := hrel
    have HO := Lib.hid hown
    have HK := Lib.hid hkept
    have sz : W0.heap.size ≤ wr.heap.size := hkept.size
    clear hown hkept
    have X1 := Lib.hid (K0.out.kept HK.out (by omega) (by omega))
    obtain ⟨k0, k1, k2⟩ := X1.out
    by_cases hlt : t < N
    · clear k0 k1 k2
      have sa := ij_lt ha hlt
      have sb := ij_lt hb' hlt
      have a0 : 0 ≤ (a : Int) * (N : Int) := by rw [castM]; omega
      have a1 : (a : Int) * (N : Int) ≤ 2304 := by rw [castM]; omega
      have b0 : 0 ≤ (b : Int) * (N : Int) := by rw [castM]; omega
      have b1 : (b : Int) * (N : Int) ≤ 2304 := by rw [castM]; omega
      obtain ⟨m, hm⟩ : ∃ m, swp N a b l t = m := ⟨_, rfl⟩
      rw [hm] at HO
      obtain ⟨x, hx⟩ : ∃ x, m.getD (a * N + t) 0 = x := ⟨_, rfl⟩
      obtain ⟨y, hy⟩ : ∃ y, m.getD (b * N + t) 0 = y := ⟨_, rfl⟩
      have q : swp N a b l (t + 1) = (m.set (a * N + t) y).set (b * N + t) x := by rw [swp, hm, hx, hy]
      have AX := Lib.hid (fun (W : World) (hW : Below wr.heap.size wr W) => at_spec N N A n c m W ((HO.out.below hW (by omega)).ints.more (by have := hW.size; omega)) (by have := HN.out; omega) a t _ a0 a1 (castI a N t) (by rw [HN.out]; exact sa))
      have AY := Lib.hid (fun (W : World) (hW : Below wr.heap.size wr W) => at_spec N N A n c m W ((HO.out.below hW (by omega)).ints.more (by have := hW.size; omega)) (by have := HN.out; omega) b t _ b0 b1 (castI b N t) (by rw [HN.out]; exact sb))
      rw [hx] at AX
      rw [hy] at AY
      have Q := Lib.hid q
      clear hm hx hy q
      obtain ⟨k0, k1, k2⟩ := X1.out
      go_wp2_with fail
      refine (AX.out _ (Below.refl _ _)).mono ?_
      rintro e w6 ⟨rfl, hb6⟩
      have B6 := Lib.hid hb6
      have z6 := hb6.size
      clear k0 k1 k2 hb6
      have X6 := Lib.hid (X1.out.below B6.out (by omega))
      have O6 := Lib.hid (HO.out.below B6.out (by omega))
      obtain ⟨g, zz, rfl, hlo, hlt6, _, _, _⟩ := O6.out.at_ (k := a * N + t) (by rw [HN.out]; exact sa)
      have c0 : 0 ≤ (a : Int) * (N : Int) + (t : Int) := by omega
      have c1 : (a : Int) * (N : Int) + (t : Int) < (n : Int) := by rw [castI, HN.out]; omega
      have d0 : 0 ≤ (b : Int) * (N : Int) + (t : Int) := by omega
      have d1 : (b : Int) * (N : Int) + (t : Int) < (n : Int) := by rw [castI, HN.out]; omega
      have ng1 : ¬ g = w.heap.size := by omega
      have ng2 : ¬ w.heap.size = g := by omega
      have gw : g < w6.heap.size := by omega
      have hw1 : IntKind.i64.wrap ((a : Int) * (N : Int)) = (a : Int) * (N : Int) := IntWalk.i64_in _ (by omega)
      have hw2 : IntKind.i64.wrap ((a : Int) * (N : Int) + (t : Int)) = (a : Int) * (N : Int) + (t : Int) := IntWalk.i64_in _ (by rw [HN.out] at c1; omega)
      obtain ⟨k0, k1, k2⟩ := X6.out
      go_wp2_with fail
      go_region_held3 (fun W => W.cell? ⟨w.heap.size, 0, none⟩ = some (.int .i64 N) ∧ W.cell? ⟨w.heap.size, 1, none⟩ = some (.int .i64 N) ∧ W.cell? ⟨w.heap.size, 2, none⟩ = some (.slice (some ⟨g, 0, none⟩) n c)) (go_keep)
            ((go_at_call 55; refine (AY.out _ (by exact B6.out.drew)).mono ?_; rintro e w7 ⟨rfl, hb7'⟩; have hb7 := undrew hb7'; have B7 := Lib.hid hb7; have z7 := hb7.size; obtain ⟨e0, e1, e2⟩ := X6.out.below hb7 (by omega); obtain ⟨g', z7', eg, _, _, _, hcz, hfz⟩ := (O6.out.below B7.out (by omega)).at_ (k := a * N + t) (by rw [HN.out]; exact sa); cases eg; have hcz' : w7.cell? ⟨g, ((a : Int) * (N : Int) + (t : Int)).toNat, none⟩ = some (.int .i64 z7') := (by rw [castI]; exact hcz); have hfz' : w7.frozen? ⟨g, ((a : Int) * (N : Int) + (t : Int)).toNat, none⟩ = false := (by rw [castI]; exact hfz); clear hb7 hb7'))
      have ho : ((a : Int) * (N : Int) + (t : Int)).toNat = a * N + t := by rw [castI]; rfl
      rw [ho]
      have O8 := Lib.hid ((O6.out.below B7.out (by omega)).set_ (a * N + t) y)
      have K8 := Lib.hid (Kept.set_ (p := ⟨g, a * N + t, none⟩) ((Kept.of_below B6.out lo hi).trans (Kept.of_below B7.out lo hi)) hlo hlt6 (.int .i64 y))
      have X8 := Lib.hid (X1.out.kept K8.out (by omega) (by omega))
      obtain ⟨W8, hW8⟩ : ∃ W8, W8 = w7.setCell ⟨g, a * N + t, none⟩ (.int .i64 y) := ⟨_, rfl⟩
      rw [← hW8] at O8 K8 X8
      rw [← hW8]
      clear hW8 k0 k1 k2 e0 e1 e2 hcz hfz hcz' hfz' ho hw1 hw2 c0 c1
      obtain ⟨k0, k1, k2⟩ := X8.out
      obtain ⟨g', z8, eg, _, _, _, hcy, hfy⟩ := O8.out.at_ (k := b * N + t) (by rw [HN.out]; exact sb)
      cases eg
      have hcy' : W8.cell? ⟨g, ((b : Int) * (N : Int) + (t : Int)).toNat, none⟩ = some (.int .i64 z8) := by rw [castI]; exact hcy
      have hfy' : W8.frozen? ⟨g, ((b : Int) * (N : Int) + (t : Int)).toNat, none⟩ = false := by rw [castI]; exact hfy
      have O9 := Lib.hid (O8.out.set_ (b * N + t) x)
      have K9 := Lib.hid (Kept.set_ (p := ⟨g, b * N + t, none⟩) K8.out hlo hlt6 (.int .i64 x))
      go_wp2
      go_roundw
      case rel => exact ⟨t + 1, by omega, by go_num, by rw [Q.out]; exact O9.out, HK.out.trans K9.out⟩
      case measure => simp [intOf]; omega
    · obtain rfl : t = N := by omega
      go_wp2
      go_end0
      exact ⟨rfl, HO.out, HB0.out.trans HK.out⟩

end Go.Proofs.Ytdbljeglnhefmaa
