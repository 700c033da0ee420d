/- Contracts of the functions that exchange rows and columns, and of the rounded quotient, the specification's. No condition but those that each theorem names. -/
import Derived.Test.YtpojkahlllochaaTsA
namespace Go.Proofs.Ytpojkahlllochaa
open Go.RowKit

set_option maxHeartbeats 1000000 in
theorem fq_spec (x y : Int) (w : World) (hx : -1000000000000 ≤ x ∧ x ≤ 1000000000000) (hy : 0 < y ∧ y ≤ 1000000000000) :
    Calls Try.prog 137 #[.int .i64 x, .int .i64 y] w fun e w' => e = .returned (.int .i64 (Sm.fq x y)) ∧ w = w' := by
  have h1 := Int.mul_tdiv_add_tmod x y
  have h2 := Int.tmod_lt_of_pos x hy.1
  have h3 : -y < x.tmod y := by
    have := Int.tmod_lt_of_pos (-x) hy.1
    rw [Int.neg_tmod] at this
    omega
  have b := Sm.fq_bound hy.1 hx.1 hx.2
  unfold Sm.fq at b ⊢
  obtain ⟨x0, x1⟩ := hx
  obtain ⟨y0, y1⟩ := hy
  have n0 : ¬ y = 0 := by omega
  have t0 : (y == 0) = false := by simpa using n0
  by_cases hn : x.tmod y < 0
  · rw [if_pos hn] at b ⊢
    have b0 : -1000000000001 ≤ x.tdiv y := by omega
    have b1 : x.tdiv y ≤ 1000000000001 := by omega
    have w1 : wrap64 (x.tdiv y) = x.tdiv y := IntWalk.wrap64_in _ ⟨by omega, by omega⟩
    have w2 : IntKind.i64.wrap (x.tdiv y) = x.tdiv y := IntWalk.i64_in _ (by omega)
    have w3 : wrap64 (x.tmod y) = x.tmod y := IntWalk.wrap64_in _ ⟨by omega, by omega⟩
    have w4 : IntKind.i64.wrap (x.tmod y) = x.tmod y := IntWalk.i64_in _ (by omega)
    have d : decide (x.tmod y < 0) = true := by simpa using hn
    clear h1 h2 h3 b
    go_enter Try.func137, Try.ntmps137
    go_wp2
    go_ret
    exact ⟨rfl, rfl⟩
  · rw [if_neg hn] at b ⊢
    have w1 : wrap64 (x.tdiv y) = x.tdiv y := IntWalk.wrap64_in _ ⟨by omega, by omega⟩
    have w2 : IntKind.i64.wrap (x.tdiv y) = x.tdiv y := IntWalk.i64_in _ (by omega)
    have w3 : wrap64 (x.tmod y) = x.tmod y := IntWalk.wrap64_in _ ⟨by omega, by omega⟩
    have w4 : IntKind.i64.wrap (x.tmod y) = x.tmod y := IntWalk.i64_in _ (by omega)
    have d : decide (x.tmod y < 0) = false := by simpa using hn
    clear h1 h2 h3 b
    go_enter Try.func137, Try.ntmps137
    go_wp2
    go_ret
    exact ⟨rfl, rfl⟩

set_option maxHeartbeats 4000000 in
theorem swap_rows (R C a b : Nat) (A : Option Addr) (n c lo hi : Nat) (l : List Int) (w : World) (h : Own w lo hi A n c l) (hhi : hi ≤ w.heap.size) (hn : n = R * C) (hR : R ≤ 48) (hC : C ≤ 48) (ha : a < R) (hb : b < R) :
    Calls Try.prog 149 #[.agg #[.int .i64 R, .int .i64 C, .slice A n c], .int .i64 a, .int .i64 b] w fun e w' => e = .returned (.tuple #[]) ∧ Own w' lo hi A n c (Sm.exch (a * C) (b * C) 1 l C) ∧ Kept lo hi w w' := by
  have p1 := rc_le hR hC
  have HN := Lib.hid hn
  have H := Lib.hid (h.al hhi (al1 w (Obj.cells #[.int .i64 R, .int .i64 C, .slice A n c] 77)))
  have K0 := Lib.hid (Box3.new w 77 (.int .i64 R) (.int .i64 C) (.slice A n c))
  have HB0 := Lib.hid (Kept.of_below (al1 w (Obj.cells #[.int .i64 R, .int .i64 C, .slice A n c] 77)) lo hi)
  clear h hn
  go_enter Try.func149, Try.ntmps149
  go_wp2
  obtain ⟨W0, hW0⟩ : ∃ W0, W0 = (w.alloc (Obj.cells #[.int .i64 R, .int .i64 C, .slice A n c] 77)) := ⟨_, rfl⟩
  have s0 : w.heap.size < W0.heap.size := by rw [hW0]; simp
  rw [← hW0] at K0 HB0 H
  rw [← hW0]
  clear hW0
  go_loopw [6] (fun x wr => ∃ t : Nat, t ≤ C ∧ x = .int .i64 t ∧ Own wr lo hi A n c (Sm.exch (a * C) (b * C) 1 l t) ∧ Kept lo hi W0 wr) (fun x _ => C - (intOf x).toNat)
  case atStart => exact ⟨0, Nat.zero_le _, rfl, H.out, Kept.refl _ _ _⟩
  case round =>
    obtain ⟨t, ht, rfl, hown, hkept⟩ := hrel
    have HO := Lib.hid hown
    have HK := Lib.hid hkept
    have sz : W0.heap.size ≤ wr.heap.size := hkept.size
    clear hown hkept
    have X1 := Lib.hid (K0.out.kept HK.out (by omega) (by omega))
    obtain ⟨k0, k1, k2⟩ := X1.out
    by_cases hlt : t < C
    · clear k0 k1 k2
      have sa : a * C + t < R * C := ij_lt ha hlt
      have sb : b * C + t < R * C := ij_lt hb hlt
      have a0 : 0 ≤ (a : Int) * (C : Int) := by rw [castM]; omega
      have a1 : (a : Int) * (C : Int) ≤ 2304 := by rw [castM]; have := Nat.mul_le_mul (show a ≤ 48 by omega) hC; omega
      have b0 : 0 ≤ (b : Int) * (C : Int) := by rw [castM]; omega
      have b1 : (b : Int) * (C : Int) ≤ 2304 := by rw [castM]; have := Nat.mul_le_mul (show b ≤ 48 by omega) hC; omega
      obtain ⟨m, hm⟩ : ∃ m, Sm.exch (a * C) (b * C) 1 l t = m := ⟨_, rfl⟩
      rw [hm] at HO
      obtain ⟨x, hx⟩ : ∃ x, m.getD (a * C + t) 0 = x := ⟨_, rfl⟩
      obtain ⟨y, hy⟩ : ∃ y, m.getD (b * C + t) 0 = y := ⟨_, rfl⟩
      have o1 : (a * C) + t * 1 = a * C + t := by rw [Nat.mul_one]
      have o2 : (b * C) + t * 1 = b * C + t := by rw [Nat.mul_one]
      have q : Sm.exch (a * C) (b * C) 1 l (t + 1) = (m.set (a * C + t) y).set (b * C + t) x := by rw [Sm.exch, hm, o1, o2, hx, hy]
      have AX := Lib.hid (fun (W : World) (hW : Below wr.heap.size wr W) => at_spec R C A n c m W ((HO.out.below hW (by omega)).ints.more (by have := hW.size; omega)) (by have := HN.out; omega) a t _ a0 a1 (castI a C t) (by rw [HN.out]; exact sa))
      have AY := Lib.hid (fun (W : World) (hW : Below wr.heap.size wr W) => at_spec R C A n c m W ((HO.out.below hW (by omega)).ints.more (by have := hW.size; omega)) (by have := HN.out; omega) b t _ b0 b1 (castI b C t) (by rw [HN.out]; exact sb))
      rw [hx] at AX
      rw [hy] at AY
      have Q := Lib.hid q
      clear hm hx hy q o1 o2
      obtain ⟨k0, k1, k2⟩ := X1.out
      go_wp2_with fail
      refine (AX.out _ (Below.refl _ _)).mono ?_
      rintro e w6 ⟨rfl, hb6⟩
      have B6 := Lib.hid hb6
      have z6 := hb6.size
      clear k0 k1 k2 hb6
      have X6 := Lib.hid (X1.out.below B6.out (by omega))
      have O6 := Lib.hid (HO.out.below B6.out (by omega))
      obtain ⟨g, zz, rfl, hlo, hlt6, _, _, _⟩ := O6.out.at_ (k := a * C + t) (by rw [HN.out]; exact sa)
      have c0 : 0 ≤ (a : Int) * (C : Int) + (t : Int) := by omega
      have c1 : (a : Int) * (C : Int) + (t : Int) < (n : Int) := by rw [castI, HN.out]; omega
      have d0 : 0 ≤ (b : Int) * (C : Int) + (t : Int) := by omega
      have d1 : (b : Int) * (C : Int) + (t : Int) < (n : Int) := by rw [castI, HN.out]; omega
      have ng1 : ¬ g = w.heap.size := by omega
      have ng2 : ¬ w.heap.size = g := by omega
      have gw : g < w6.heap.size := by omega
      have hw1 : IntKind.i64.wrap ((a : Int) * (C : Int)) = (a : Int) * (C : Int) := IntWalk.i64_in _ (by omega)
      have hw2 : IntKind.i64.wrap ((a : Int) * (C : Int) + (t : Int)) = (a : Int) * (C : Int) + (t : Int) := IntWalk.i64_in _ (by rw [HN.out] at c1; omega)
      obtain ⟨k0, k1, k2⟩ := X6.out
      go_wp2_with fail
      go_region_held3 (fun W => W.cell? ⟨w.heap.size, 0, none⟩ = some (.int .i64 R) ∧ W.cell? ⟨w.heap.size, 1, none⟩ = some (.int .i64 C) ∧ W.cell? ⟨w.heap.size, 2, none⟩ = some (.slice (some ⟨g, 0, none⟩) n c)) (go_keep)
            ((go_at_call 112; refine (AY.out _ (by exact B6.out.drew)).mono ?_; rintro e w7 ⟨rfl, hb7'⟩; have hb7 := undrew hb7'; have B7 := Lib.hid hb7; have z7 := hb7.size; obtain ⟨e0, e1, e2⟩ := X6.out.below hb7 (by omega); obtain ⟨g', z7', eg, _, _, _, hcz, hfz⟩ := (O6.out.below B7.out (by omega)).at_ (k := a * C + t) (by rw [HN.out]; exact sa); cases eg; have hcz' : w7.cell? ⟨g, ((a : Int) * (C : Int) + (t : Int)).toNat, none⟩ = some (.int .i64 z7') := (by rw [castI]; exact hcz); have hfz' : w7.frozen? ⟨g, ((a : Int) * (C : Int) + (t : Int)).toNat, none⟩ = false := (by rw [castI]; exact hfz); clear hb7 hb7'))
      have ho : ((a : Int) * (C : Int) + (t : Int)).toNat = a * C + t := by rw [castI]; rfl
      rw [ho]
      have O8 := Lib.hid ((O6.out.below B7.out (by omega)).set_ (a * C + t) y)
      have K8 := Lib.hid (Kept.set_ (p := ⟨g, a * C + t, none⟩) ((Kept.of_below B6.out lo hi).trans (Kept.of_below B7.out lo hi)) hlo hlt6 (.int .i64 y))
      have X8 := Lib.hid (X1.out.kept K8.out (by omega) (by omega))
      obtain ⟨W8, hW8⟩ : ∃ W8, W8 = w7.setCell ⟨g, a * C + t, none⟩ (.int .i64 y) := ⟨_, rfl⟩
      rw [← hW8] at O8 K8 X8
      rw [← hW8]
      clear hW8 k0 k1 k2 e0 e1 e2 hcz hfz hcz' hfz' ho hw1 hw2 c0 c1
      obtain ⟨k0, k1, k2⟩ := X8.out
      obtain ⟨g', z8, eg, _, _, _, hcy, hfy⟩ := O8.out.at_ (k := b * C + t) (by rw [HN.out]; exact sb)
      cases eg
      have hcy' : W8.cell? ⟨g, ((b : Int) * (C : Int) + (t : Int)).toNat, none⟩ = some (.int .i64 z8) := by rw [castI]; exact hcy
      have hfy' : W8.frozen? ⟨g, ((b : Int) * (C : Int) + (t : Int)).toNat, none⟩ = false := by rw [castI]; exact hfy
      have O9 := Lib.hid (O8.out.set_ (b * C + t) x)
      have K9 := Lib.hid (Kept.set_ (p := ⟨g, b * C + t, none⟩) K8.out hlo hlt6 (.int .i64 x))
      go_wp2
      go_roundw
      case rel => exact ⟨t + 1, by omega, by go_num, by rw [Q.out]; exact O9.out, HK.out.trans K9.out⟩
      case measure => simp [intOf]; omega
    · obtain rfl : t = C := by omega
      go_wp2
      go_end0
      exact ⟨rfl, HO.out, HB0.out.trans HK.out⟩

set_option maxHeartbeats 4000000 in
theorem swap_cols (R C a b : Nat) (A : Option Addr) (n c lo hi : Nat) (l : List Int) (w : World) (h : Own w lo hi A n c l) (hhi : hi ≤ w.heap.size) (hn : n = R * C) (hR : R ≤ 48) (hC : C ≤ 48) (ha : a < C) (hb : b < C) :
    Calls Try.prog 150 #[.agg #[.int .i64 R, .int .i64 C, .slice A n c], .int .i64 a, .int .i64 b] w fun e w' => e = .returned (.tuple #[]) ∧ Own w' lo hi A n c (Sm.exch a b C l R) ∧ Kept lo hi w w' := by
  have p1 := rc_le hR hC
  have HN := Lib.hid hn
  have H := Lib.hid (h.al hhi (al1 w (Obj.cells #[.int .i64 R, .int .i64 C, .slice A n c] 77)))
  have K0 := Lib.hid (Box3.new w 77 (.int .i64 R) (.int .i64 C) (.slice A n c))
  have HB0 := Lib.hid (Kept.of_below (al1 w (Obj.cells #[.int .i64 R, .int .i64 C, .slice A n c] 77)) lo hi)
  clear h hn
  go_enter Try.func150, Try.ntmps150
  go_wp2
  obtain ⟨W0, hW0⟩ : ∃ W0, W0 = (w.alloc (Obj.cells #[.int .i64 R, .int .i64 C, .slice A n c] 77)) := ⟨_, rfl⟩
  have s0 : w.heap.size < W0.heap.size := by rw [hW0]; simp
  rw [← hW0] at K0 HB0 H
  rw [← hW0]
  clear hW0
  go_loopw [6] (fun x wr => ∃ t : Nat, t ≤ R ∧ x = .int .i64 t ∧ Own wr lo hi A n c (Sm.exch a b C l t) ∧ Kept lo hi W0 wr) (fun x _ => R - (intOf x).toNat)
  case atStart => exact ⟨0, Nat.zero_le _, rfl, H.out, Kept.refl _ _ _⟩
  case round =>
    obtain ⟨t, ht, rfl, hown, hkept⟩ := hrel
    have HO := Lib.hid hown
    have HK := Lib.hid hkept
    have sz : W0.heap.size ≤ wr.heap.size := hkept.size
    clear hown hkept
    have X1 := Lib.hid (K0.out.kept HK.out (by omega) (by omega))
    obtain ⟨k0, k1, k2⟩ := X1.out
    by_cases hlt : t < R
    · clear k0 k1 k2
      have sa : t * C + a < R * C := ij_lt hlt ha
      have sb : t * C + b < R * C := ij_lt hlt hb
      have a0 : 0 ≤ (t : Int) * (C : Int) := by rw [castM]; omega
      have a1 : (t : Int) * (C : Int) ≤ 2304 := by rw [castM]; have := Nat.mul_le_mul (show t ≤ 48 by omega) hC; omega
      have b0 : 0 ≤ (t : Int) * (C : Int) := by rw [castM]; omega
      have b1 : (t : Int) * (C : Int) ≤ 2304 := by rw [castM]; have := Nat.mul_le_mul (show t ≤ 48 by omega) hC; omega
      obtain ⟨m, hm⟩ : ∃ m, Sm.exch a b C l t = m := ⟨_, rfl⟩
      rw [hm] at HO
      obtain ⟨x, hx⟩ : ∃ x, m.getD (t * C + a) 0 = x := ⟨_, rfl⟩
      obtain ⟨y, hy⟩ : ∃ y, m.getD (t * C + b) 0 = y := ⟨_, rfl⟩
      have o1 : a + t * C = t * C + a := by omega
      have o2 : b + t * C = t * C + b := by omega
      have q : Sm.exch a b C l (t + 1) = (m.set (t * C + a) y).set (t * C + b) x := by rw [Sm.exch, hm, o1, o2, hx, hy]
      have AX := Lib.hid (fun (W : World) (hW : Below wr.heap.size wr W) => at_spec R C A n c m W ((HO.out.below hW (by omega)).ints.more (by have := hW.size; omega)) (by have := HN.out; omega) t a _ a0 a1 (castI t C a) (by rw [HN.out]; exact sa))
      have AY := Lib.hid (fun (W : World) (hW : Below wr.heap.size wr W) => at_spec R C A n c m W ((HO.out.below hW (by omega)).ints.more (by have := hW.size; omega)) (by have := HN.out; omega) t b _ b0 b1 (castI t C b) (by rw [HN.out]; exact sb))
      rw [hx] at AX
      rw [hy] at AY
      have Q := Lib.hid q
      clear hm hx hy q o1 o2
      obtain ⟨k0, k1, k2⟩ := X1.out
      go_wp2_with fail
      refine (AX.out _ (Below.refl _ _)).mono ?_
      rintro e w6 ⟨rfl, hb6⟩
      have B6 := Lib.hid hb6
      have z6 := hb6.size
      clear k0 k1 k2 hb6
      have X6 := Lib.hid (X1.out.below B6.out (by omega))
      have O6 := Lib.hid (HO.out.below B6.out (by omega))
      obtain ⟨g, zz, rfl, hlo, hlt6, _, _, _⟩ := O6.out.at_ (k := t * C + a) (by rw [HN.out]; exact sa)
      have c0 : 0 ≤ (t : Int) * (C : Int) + (a : Int) := by omega
      have c1 : (t : Int) * (C : Int) + (a : Int) < (n : Int) := by rw [castI, HN.out]; omega
      have d0 : 0 ≤ (t : Int) * (C : Int) + (b : Int) := by omega
      have d1 : (t : Int) * (C : Int) + (b : Int) < (n : Int) := by rw [castI, HN.out]; omega
      have ng1 : ¬ g = w.heap.size := by omega
      have ng2 : ¬ w.heap.size = g := by omega
      have gw : g < w6.heap.size := by omega
      have hw1 : IntKind.i64.wrap ((t : Int) * (C : Int)) = (t : Int) * (C : Int) := IntWalk.i64_in _ (by omega)
      have hw2 : IntKind.i64.wrap ((t : Int) * (C : Int) + (a : Int)) = (t : Int) * (C : Int) + (a : Int) := IntWalk.i64_in _ (by rw [HN.out] at c1; omega)
      obtain ⟨k0, k1, k2⟩ := X6.out
      go_wp2_with fail
      go_region_held3 (fun W => W.cell? ⟨w.heap.size, 0, none⟩ = some (.int .i64 R) ∧ W.cell? ⟨w.heap.size, 1, none⟩ = some (.int .i64 C) ∧ W.cell? ⟨w.heap.size, 2, none⟩ = some (.slice (some ⟨g, 0, none⟩) n c)) (go_keep)
            ((go_at_call 112; refine (AY.out _ (by exact B6.out.drew)).mono ?_; rintro e w7 ⟨rfl, hb7'⟩; have hb7 := undrew hb7'; have B7 := Lib.hid hb7; have z7 := hb7.size; obtain ⟨e0, e1, e2⟩ := X6.out.below hb7 (by omega); obtain ⟨g', z7', eg, _, _, _, hcz, hfz⟩ := (O6.out.below B7.out (by omega)).at_ (k := t * C + a) (by rw [HN.out]; exact sa); cases eg; have hcz' : w7.cell? ⟨g, ((t : Int) * (C : Int) + (a : Int)).toNat, none⟩ = some (.int .i64 z7') := (by rw [castI]; exact hcz); have hfz' : w7.frozen? ⟨g, ((t : Int) * (C : Int) + (a : Int)).toNat, none⟩ = false := (by rw [castI]; exact hfz); clear hb7 hb7'))
      have ho : ((t : Int) * (C : Int) + (a : Int)).toNat = t * C + a := by rw [castI]; rfl
      rw [ho]
      have O8 := Lib.hid ((O6.out.below B7.out (by omega)).set_ (t * C + a) y)
      have K8 := Lib.hid (Kept.set_ (p := ⟨g, t * C + a, none⟩) ((Kept.of_below B6.out lo hi).trans (Kept.of_below B7.out lo hi)) hlo hlt6 (.int .i64 y))
      have X8 := Lib.hid (X1.out.kept K8.out (by omega) (by omega))
      obtain ⟨W8, hW8⟩ : ∃ W8, W8 = w7.setCell ⟨g, t * C + a, none⟩ (.int .i64 y) := ⟨_, rfl⟩
      rw [← hW8] at O8 K8 X8
      rw [← hW8]
      clear hW8 k0 k1 k2 e0 e1 e2 hcz hfz hcz' hfz' ho hw1 hw2 c0 c1
      obtain ⟨k0, k1, k2⟩ := X8.out
      obtain ⟨g', z8, eg, _, _, _, hcy, hfy⟩ := O8.out.at_ (k := t * C + b) (by rw [HN.out]; exact sb)
      cases eg
      have hcy' : W8.cell? ⟨g, ((t : Int) * (C : Int) + (b : Int)).toNat, none⟩ = some (.int .i64 z8) := by rw [castI]; exact hcy
      have hfy' : W8.frozen? ⟨g, ((t : Int) * (C : Int) + (b : Int)).toNat, none⟩ = false := by rw [castI]; exact hfy
      have O9 := Lib.hid (O8.out.set_ (t * C + b) x)
      have K9 := Lib.hid (Kept.set_ (p := ⟨g, t * C + b, none⟩) K8.out hlo hlt6 (.int .i64 x))
      go_wp2
      go_roundw
      case rel => exact ⟨t + 1, by omega, by go_num, by rw [Q.out]; exact O9.out, HK.out.trans K9.out⟩
      case measure => simp [intOf]; omega
    · obtain rfl : t = R := by omega
      go_wp2
      go_end0
      exact ⟨rfl, HO.out, HB0.out.trans HK.out⟩

end Go.Proofs.Ytpojkahlllochaa
