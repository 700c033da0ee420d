/- Contracts of the functions that transpose a matrix, the program's and the specification's. No condition but those that each theorem names. -/
import Derived.Test.YtdbljeglnhefmaaMatF
import Derived.Deep.RegionHeld3
import Derived.IntWalk
namespace Go.Proofs.Ytdbljeglnhefmaa
open Go.RowKit

/-- The entries of the transposed matrix behind the first t stores. -/
def trs (R C : Nat) (zs : List Int) : Nat → List Int
  | 0 => List.replicate (C * R) 0
  | t + 1 => (trs R C zs t).set ((t % C) * R + t / C) (zs.getD t 0)
theorem trs_len (R C : Nat) (zs : List Int) (t : Nat) : (trs R C zs t).length = C * R := by
  induction t with
  | zero => simp [trs]
  | succ t ih => simp [trs, ih]
theorem trs_step {R C : Nat} (zs : List Int) {i j : Nat} (hj : j < C) : trs R C zs (i * C + j + 1) = (trs R C zs (i * C + j)).set (j * R + i) (zs.getD (i * C + j) 0) := by
  rw [trs]
  have h1 : (i * C + j) % C = j := by rw [Nat.add_comm, Nat.add_mul_mod_self_right, Nat.mod_eq_of_lt hj]
  have h2 : (i * C + j) / C = i := by rw [Nat.add_comm, Nat.add_mul_div_right _ _ (by omega), Nat.div_eq_of_lt hj, Nat.zero_add]
  rw [h1, h2]
theorem rc_le {R C : Nat} (h : R ≤ 48) (h' : C ≤ 48) : R * C ≤ 2304 := Nat.mul_le_mul h h'
theorem ij_lt {R C i j : Nat} (hi : i < R) (hj : j < C) : i * C + j < R * C := by
  have h1 : (i + 1) * C ≤ R * C := Nat.mul_le_mul_right C hi
  rw [Nat.add_mul] at h1
  omega
theorem castM (i C : Nat) : (i : Int) * (C : Int) = ((i * C : Nat) : Int) := by simp
theorem castI (i C j : Nat) : (i : Int) * (C : Int) + (j : Int) = ((i * C + j : Nat) : Int) := by simp

set_option maxHeartbeats 2000000 in
theorem trans_impl_yes (R C : Nat) (A : Option Addr) (n c : Nat) (zs : List Int) (w : World) (h : Ints w w.heap.size A n zs) (hn : n ≤ 1048576) (hR : R ≤ 48) (hC : C ≤ 48) (hP : MOk R C zs) :
    Calls Try.prog 22 #[.agg #[.int .i64 R, .int .i64 C, .slice A n c]] w (ResS w C R (trs R C zs (R * C))) := by
  have hnn : n = R * C := by have h1 := hP.2.2.2.2.1; rw [h.1, castM] at h1; exact_mod_cast h1
  have HN := Lib.hid hnn
  have p := rc_le hC hR
  have pr := rc_le hR hC
  have c0 : 0 ≤ (C : Int) * (R : Int) := by rw [castM]; omega
  have c1 : (C : Int) * (R : Int) ≤ 2304 := by rw [castM]; omega
  have HP := Lib.hid hP
  have H := Lib.hid h
  have K1 := Lib.hid ((Box3.new w 27 (.int .i64 R) (.int .i64 C) (.slice A n c)).below (al1 _ (Obj.cells #[.int .i64 0, .int .i64 0, .slice none 0 0] 27)) (by simp))
  have K2 := Lib.hid (Box3.new (w.alloc (Obj.cells #[.int .i64 R, .int .i64 C, .slice A n c] 27)) 27 (.int .i64 0) (.int .i64 0) (.slice none 0 0))
  have F2 := Lib.hid (Free.new (w.alloc (Obj.cells #[.int .i64 R, .int .i64 C, .slice A n c] 27)) 27 #[.int .i64 0, .int .i64 0, .slice none 0 0])
  clear h hP hnn
  go_enter Try.func22, Try.ntmps22
  go_wp2_with fail
  refine (isMi_yes R C A n c zs _ (H.out.into (al2 _ _ _)) hn HP.out).mono ?_
  rintro e w1 ⟨rfl, hb⟩
  have s1 : w.heap.size + 1 < w1.heap.size := by have := hb.size; simp at this; omega
  have K1' := Lib.hid (K1.out.below hb (by simp; omega))
  have K2' := Lib.hid (K2.out.below hb (by simp))
  have F2' := Lib.hid (F2.out.below hb (by simp))
  have HB1 := Lib.hid (on2 _ _ hb)
  clear hb K1 K2 F2
  simp only [World.size_alloc] at K2' F2'
  obtain ⟨k0, k1, k2⟩ := K1'.out
  go_wp2_with fail
  refine (zero_impl _ _ (C * R) _ c0 (by omega) (castM C R)).mono ?_
  rintro e w2 ⟨g, rfl, hblk, hg, hg2, hb⟩
  clear k0 k1 k2
  have s2 : w1.heap.size ≤ w2.heap.size := hb.size
  have K1 := Lib.hid ((K1'.out.below hb (by omega)).below (al1 w2 (Obj.cells #[.int .i64 C, .int .i64 R, .slice (some ⟨g, 0, none⟩) (C * R) (C * R)] 27)) (by omega))
  have K2 := Lib.hid ((K2'.out.below hb (by omega)).below (al1 w2 (Obj.cells #[.int .i64 C, .int .i64 R, .slice (some ⟨g, 0, none⟩) (C * R) (C * R)] 27)) (by omega))
  have F2 := Lib.hid ((F2'.out.below hb (by omega)).below (al1 w2 (Obj.cells #[.int .i64 C, .int .i64 R, .slice (some ⟨g, 0, none⟩) (C * R) (C * R)] 27)) (by omega))
  have K3 := Lib.hid (Box3.new w2 27 (.int .i64 C) (.int .i64 R) (.slice (some ⟨g, 0, none⟩) (C * R) (C * R)))
  have HB2 := Lib.hid ((HB1.out.trans (hb.mono (by omega))).trans ((al1 w2 (Obj.cells #[.int .i64 C, .int .i64 R, .slice (some ⟨g, 0, none⟩) (C * R) (C * R)] 27)).mono (by omega)))
  have HO := Lib.hid ((Own.of_blk (lo := g) (hi := g + 1) (n := C * R) hblk (Nat.le_refl _) (by omega) (by simp) (by unfold maxLen; omega)).al (by omega) (al1 w2 (Obj.cells #[.int .i64 C, .int .i64 R, .slice (some ⟨g, 0, none⟩) (C * R) (C * R)] 27)))
  have s3 : w2.heap.size < (w2.alloc (Obj.cells #[.int .i64 C, .int .i64 R, .slice (some ⟨g, 0, none⟩) (C * R) (C * R)] 27)).heap.size := by simp
  clear hb hblk K1' K2' F2' HB1
  obtain ⟨k0, k1, k2⟩ := K1.out
  go_wp2
  clear k0 k1 k2
  obtain ⟨W0, hW0⟩ : ∃ W0, W0 = w2.alloc (Obj.cells #[.int .i64 C, .int .i64 R, .slice (some ⟨g, 0, none⟩) (C * R) (C * R)] 27) := ⟨_, rfl⟩
  rw [← hW0] at K1 K2 F2 K3 HB2 HO s3
  rw [← hW0]
  clear hW0
  have HB := Lib.hid (fun (wr : World) (h : Kept g (g + 1) W0 wr) => HB2.out.trans (h.below (by omega) (by omega)))
  go_loopw [17] (fun x wr => ∃ i : Nat, i ≤ R ∧ x = .int .i64 i ∧ Own wr g (g + 1) (some ⟨g, 0, none⟩) (C * R) (C * R) (trs R C zs (i * C)) ∧ Kept g (g + 1) W0 wr) (fun x _ => R - (intOf x).toNat)
  case atStart => exact ⟨0, Nat.zero_le _, rfl, by rw [Nat.zero_mul]; exact HO.out, Kept.refl _ _ _⟩
  case round =>
    obtain ⟨i, hi, rfl, hown, hkept⟩ := hrel
    have HW := Lib.hid hown
    have HK := Lib.hid hkept
    clear hown hkept
    obtain ⟨wo, rfl⟩ : ∃ wo : World, wo = wr := ⟨_, rfl⟩
    obtain ⟨k0, k1, k2⟩ := K1.out.kept HK.out (by omega) (by omega)
    by_cases hlt : i < R
    · go_wp2
      clear k0 k1 k2
      go_loopw [22] (fun y wr => ∃ j : Nat, j ≤ C ∧ y = .int .i64 j ∧ Own wr g (g + 1) (some ⟨g, 0, none⟩) (C * R) (C * R) (trs R C zs (i * C + j)) ∧ Kept g (g + 1) W0 wr) (fun y _ => C - (intOf y).toNat)
      case atStart => exact ⟨0, Nat.zero_le _, rfl, HW.out, HK.out⟩
      case round =>
        obtain ⟨j, hj, rfl, hown, hkept⟩ := hrel
        have HV := Lib.hid hown
        have HL := Lib.hid hkept
        clear hown hkept
        by_cases hjl : j < C
        · have hs := ij_lt hlt hjl
          have ht := ij_lt hjl hlt
          have a0 : 0 ≤ (i : Int) * (C : Int) := by rw [castM]; omega
          have a1 : (i : Int) * (C : Int) ≤ 2304 := by rw [castM]; omega
          have b0 : 0 ≤ (j : Int) * (R : Int) := by rw [castM]; omega
          have b1 : (j : Int) * (R : Int) ≤ 2304 := by rw [castM]; omega
          have sz : W0.heap.size ≤ wr.heap.size := HL.out.size
          have X1 := Lib.hid (K1.out.kept HL.out (by omega) (by omega))
          have X3 := Lib.hid (K3.out.kept HL.out (by omega) (by omega))
          obtain ⟨k0, k1, k2⟩ := X1.out
          obtain ⟨l0, l1, l2⟩ := X3.out
          go_wp2_with fail
          go_region_held3 (fun W => (W.cell? ⟨w.heap.size, 0, none⟩ = some (.int .i64 R) ∧ W.cell? ⟨w.heap.size, 1, none⟩ = some (.int .i64 C) ∧ W.cell? ⟨w.heap.size, 2, none⟩ = some (.slice A n c)) ∧
              (W.cell? ⟨w2.heap.size, 0, none⟩ = some (.int .i64 C) ∧ W.cell? ⟨w2.heap.size, 1, none⟩ = some (.int .i64 R) ∧ W.cell? ⟨w2.heap.size, 2, none⟩ = some (.slice (some ⟨g, 0, none⟩) (C * R) (C * R)))) (go_keep)
            (first
              | (go_at_call 57; refine (at_impl R C A n c zs _ (by exact (H.out.into (HB.out wr HL.out).drew)) hn i j _ a0 a1 (castI i C j) (by rw [HN.out]; exact hs)).mono ?_; rintro e w6 ⟨rfl, hb6'⟩; have hb6 := undrew hb6'; have B6 := Lib.hid hb6; obtain ⟨e0, e1, e2⟩ := X1.out.below hb6 (by omega); obtain ⟨f0, f1, f2⟩ := X3.out.below hb6 (by omega); clear hb6 hb6')
              | (go_at_call 60; have z6 := B6.out.size; refine (set_impl C R j i _ _ _ _ _ g (g + 1) _ _ (HV.out.below B6.out (by omega)) (by omega) (by omega) b0 b1 (castI j R i) ht).mono ?_; rintro e w7 ⟨rfl, hown7, hkept7⟩; have O7 := Lib.hid hown7; have K7 := Lib.hid hkept7; obtain ⟨m0, m1, m2⟩ := (X1.out.below B6.out (by omega)).kept hkept7 (by omega) (by omega); obtain ⟨y0, y1, y2⟩ := (X3.out.below B6.out (by omega)).kept hkept7 (by omega) (by omega); clear hown7 hkept7))
          clear k0 k1 k2 l0 l1 l2 e0 e1 e2 f0 f1 f2 m0 m1 m2 y0 y1 y2
          go_wp2
          go_roundw
          case rel => exact ⟨j + 1, by omega, by go_num, by rw [← Nat.add_assoc, trs_step zs hjl]; exact O7.out, (HL.out.trans (Kept.of_below B6.out _ _)).trans K7.out⟩
          case measure => simp [intOf]; omega
        · obtain rfl : j = C := by omega
          go_wp2
          go_roundw
          case rel => exact ⟨i + 1, by omega, by go_num, by rw [Nat.add_mul, Nat.one_mul]; exact HV.out, HL.out⟩
          case measure => simp [intOf]; omega
    · obtain rfl : i = R := by omega
      have sz : W0.heap.size ≤ wo.heap.size := HK.out.size
      obtain ⟨l0, l1, l2⟩ := K3.out.kept HK.out (by omega) (by omega)
      obtain ⟨n0, n1, n2⟩ := K2.out.kept HK.out (by omega) (by omega)
      have f0 := F2.out.kept HK.out (by omega) (by omega)
      unfold Free at f0
      go_wp2
      refine bodyPost_ret (v := .agg #[.int .i64 C, .int .i64 i, .slice (some ⟨g, 0, none⟩) (C * i) (C * i)]) (by simp [results, Try.results22, n0, n1, n2, go_sem]) rfl ⟨some ⟨g, 0, none⟩, C * i, by rw [trs_len], ?_, ?_⟩
      · rw [trs_len]
        refine ((((HW.out.far (p := ⟨w.heap.size + 1, 0, none⟩) (by dsimp only; omega) _).far (p := ⟨w.heap.size + 1, 1, none⟩) (by dsimp only; omega) _).far (p := ⟨w.heap.size + 1, 2, none⟩) (by dsimp only; omega) _)).wide (by omega) ?_
        simp [World.setCell]
        omega
      · exact (((HB.out wo HK.out).setCell (by simp) _).setCell (by simp) _).setCell (by simp) _

set_option maxHeartbeats 1000000 in
theorem trans_impl_no (r q : Int) (A : Option Addr) (n c : Nat) (zs : List Int) (w : World) (h : Ints w w.heap.size A n zs) (hn : n ≤ 1048576) (hP : ¬ MOk r q zs) :
    Calls Try.prog 22 #[.agg #[.int .i64 r, .int .i64 q, .slice A n c]] w (ResS w 0 0 []) := by
  have HP := Lib.hid hP
  have H := Lib.hid h
  have K2 := Lib.hid (Box3.new (w.alloc (Obj.cells #[.int .i64 r, .int .i64 q, .slice A n c] 27)) 27 (.int .i64 0) (.int .i64 0) (.slice none 0 0))
  have F2 := Lib.hid (Free.new (w.alloc (Obj.cells #[.int .i64 r, .int .i64 q, .slice A n c] 27)) 27 #[.int .i64 0, .int .i64 0, .slice none 0 0])
  clear h hP
  go_enter Try.func22, Try.ntmps22
  go_wp2_with fail
  refine (isMi_no r q A n c zs _ (H.out.into (al2 _ _ _)) hn HP.out).mono ?_
  rintro e w1 ⟨rfl, hb⟩
  have K2' := Lib.hid (K2.out.below hb (by simp))
  have F2' := Lib.hid (F2.out.below hb (by simp))
  have HB1 := Lib.hid (on2 _ _ hb)
  clear hb K2 F2
  simp only [World.size_alloc] at K2' F2'
  obtain ⟨n0, n1, n2⟩ := K2'.out
  have f0 := F2'.out
  unfold Free at f0
  go_wp2
  refine bodyPost_ret (v := .agg #[.int .i64 0, .int .i64 0, .slice none 0 0]) (by simp [results, Try.results22, n0, n1, n2, go_sem]) rfl ⟨none, 0, rfl, Own.none_ _ _ _, ?_⟩
  exact ((HB1.out.setCell (by simp) _).setCell (by simp) _).setCell (by simp) _

set_option maxHeartbeats 1000000 in
theorem trans_spec_no (r q : Int) (A : Option Addr) (n c : Nat) (zs : List Int) (w : World) (h : Ints w w.heap.size A n zs) (hn : n ≤ 1048576) (hP : ¬ MOk r q zs) :
    Calls Try.prog 21 #[.agg #[.int .i64 r, .int .i64 q, .slice A n c]] w (ResS w 0 0 []) := by
  have HP := Lib.hid hP
  have H := Lib.hid h
  have K2 := Lib.hid (Box3.new (w.alloc (Obj.cells #[.int .i64 r, .int .i64 q, .slice A n c] 27)) 27 (.int .i64 0) (.int .i64 0) (.slice none 0 0))
  have F2 := Lib.hid (Free.new (w.alloc (Obj.cells #[.int .i64 r, .int .i64 q, .slice A n c] 27)) 27 #[.int .i64 0, .int .i64 0, .slice none 0 0])
  clear h hP
  go_enter Try.func21, Try.ntmps21
  go_wp2_with fail
  refine (isMs_no r q A n c zs _ (H.out.into (al2 _ _ _)) hn HP.out).mono ?_
  rintro e w1 ⟨rfl, hb⟩
  have K2' := Lib.hid (K2.out.below hb (by simp))
  have F2' := Lib.hid (F2.out.below hb (by simp))
  have HB1 := Lib.hid (on2 _ _ hb)
  clear hb K2 F2
  simp only [World.size_alloc] at K2' F2'
  obtain ⟨n0, n1, n2⟩ := K2'.out
  have f0 := F2'.out
  unfold Free at f0
  go_wp2
  refine bodyPost_ret (v := .agg #[.int .i64 0, .int .i64 0, .slice none 0 0]) (by simp [results, Try.results21, n0, n1, n2, go_sem]) rfl ⟨none, 0, rfl, Own.none_ _ _ _, ?_⟩
  exact ((HB1.out.setCell (by simp) _).setCell (by simp) _).setCell (by simp) _

set_option maxHeartbeats 2000000 in
theorem trans_spec_yes (R C : Nat) (A : Option Addr) (n c : Nat) (zs : List Int) (w : World) (h : Ints w w.heap.size A n zs) (hn : n ≤ 1048576) (hR : R ≤ 48) (hC : C ≤ 48) (hP : MOk R C zs) :
    Calls Try.prog 21 #[.agg #[.int .i64 R, .int .i64 C, .slice A n c]] w (ResS w C R (trs R C zs (R * C))) := by
  have hnn : n = R * C := by have h1 := hP.2.2.2.2.1; rw [h.1, castM] at h1; exact_mod_cast h1
  have HN := Lib.hid hnn
  have p := rc_le hC hR
  have pr := rc_le hR hC
  have c0 : 0 ≤ (C : Int) * (R : Int) := by rw [castM]; omega
  have c1 : (C : Int) * (R : Int) ≤ 2304 := by rw [castM]; omega
  have HP := Lib.hid hP
  have H := Lib.hid h
  have K1 := Lib.hid ((Box3.new w 27 (.int .i64 R) (.int .i64 C) (.slice A n c)).below (al1 _ (Obj.cells #[.int .i64 0, .int .i64 0, .slice none 0 0] 27)) (by simp))
  have K2 := Lib.hid (Box3.new (w.alloc (Obj.cells #[.int .i64 R, .int .i64 C, .slice A n c] 27)) 27 (.int .i64 0) (.int .i64 0) (.slice none 0 0))
  have F2 := Lib.hid (Free.new (w.alloc (Obj.cells #[.int .i64 R, .int .i64 C, .slice A n c] 27)) 27 #[.int .i64 0, .int .i64 0, .slice none 0 0])
  clear h hP hnn
  go_enter Try.func21, Try.ntmps21
  go_wp2_with fail
  refine (isMs_yes R C A n c zs _ (H.out.into (al2 _ _ _)) hn HP.out).mono ?_
  rintro e w1 ⟨rfl, hb⟩
  have s1 : w.heap.size + 1 < w1.heap.size := by have := hb.size; simp at this; omega
  have K1' := Lib.hid (K1.out.below hb (by simp; omega))
  have K2' := Lib.hid (K2.out.below hb (by simp))
  have F2' := Lib.hid (F2.out.below hb (by simp))
  have HB1 := Lib.hid (on2 _ _ hb)
  clear hb K1 K2 F2
  simp only [World.size_alloc] at K2' F2'
  obtain ⟨k0, k1, k2⟩ := K1'.out
  go_wp2_with fail
  refine (zero_spec _ _ (C * R) _ c0 (by omega) (castM C R)).mono ?_
  rintro e w2 ⟨g, rfl, hblk, hg, hg2, hb⟩
  clear k0 k1 k2
  have s2 : w1.heap.size ≤ w2.heap.size := hb.size
  have K1 := Lib.hid ((K1'.out.below hb (by omega)).below (al1 w2 (Obj.cells #[.int .i64 C, .int .i64 R, .slice (some ⟨g, 0, none⟩) (C * R) (C * R)] 27)) (by omega))
  have K2 := Lib.hid ((K2'.out.below hb (by omega)).below (al1 w2 (Obj.cells #[.int .i64 C, .int .i64 R, .slice (some ⟨g, 0, none⟩) (C * R) (C * R)] 27)) (by omega))
  have F2 := Lib.hid ((F2'.out.below hb (by omega)).below (al1 w2 (Obj.cells #[.int .i64 C, .int .i64 R, .slice (some ⟨g, 0, none⟩) (C * R) (C * R)] 27)) (by omega))
  have K3 := Lib.hid (Box3.new w2 27 (.int .i64 C) (.int .i64 R) (.slice (some ⟨g, 0, none⟩) (C * R) (C * R)))
  have HB2 := Lib.hid ((HB1.out.trans (hb.mono (by omega))).trans ((al1 w2 (Obj.cells #[.int .i64 C, .int .i64 R, .slice (some ⟨g, 0, none⟩) (C * R) (C * R)] 27)).mono (by omega)))
  have HO := Lib.hid ((Own.of_blk (lo := g) (hi := g + 1) (n := C * R) hblk (Nat.le_refl _) (by omega) (by simp) (by unfold maxLen; omega)).al (by omega) (al1 w2 (Obj.cells #[.int .i64 C, .int .i64 R, .slice (some ⟨g, 0, none⟩) (C * R) (C * R)] 27)))
  have s3 : w2.heap.size < (w2.alloc (Obj.cells #[.int .i64 C, .int .i64 R, .slice (some ⟨g, 0, none⟩) (C * R) (C * R)] 27)).heap.size := by simp
  clear hb hblk K1' K2' F2' HB1
  obtain ⟨k0, k1, k2⟩ := K1.out
  go_wp2
  clear k0 k1 k2
  obtain ⟨W0, hW0⟩ : ∃ W0, W0 = w2.alloc (Obj.cells #[.int .i64 C, .int .i64 R, .slice (some ⟨g, 0, none⟩) (C * R) (C * R)] 27) := ⟨_, rfl⟩
  rw [← hW0] at K1 K2 F2 K3 HB2 HO s3
  rw [← hW0]
  clear hW0
  have HB := Lib.hid (fun (wr : World) (h : Kept g (g + 1) W0 wr) => HB2.out.trans (h.below (by omega) (by omega)))
  go_loopw [4] (fun x wr => ∃ i : Nat, i ≤ R ∧ x = .int .i64 i ∧ Own wr g (g + 1) (some ⟨g, 0, none⟩) (C * R) (C * R) (trs R C zs (i * C)) ∧ Kept g (g + 1) W0 wr) (fun x _ => R - (intOf x).toNat)
  case atStart => exact ⟨0, Nat.zero_le _, rfl, by rw [Nat.zero_mul]; exact HO.out, Kept.refl _ _ _⟩
  case round =>
    obtain ⟨i, hi, rfl, hown, hkept⟩ := hrel
    have HW := Lib.hid hown
    have HK := Lib.hid hkept
    clear hown hkept
    obtain ⟨wo, rfl⟩ : ∃ wo : World, wo = wr := ⟨_, rfl⟩
    obtain ⟨k0, k1, k2⟩ := K1.out.kept HK.out (by omega) (by omega)
    by_cases hlt : i < R
    · go_wp2
      clear k0 k1 k2
      go_loopw [5] (fun y wr => ∃ j : Nat, j ≤ C ∧ y = .int .i64 j ∧ Own wr g (g + 1) (some ⟨g, 0, none⟩) (C * R) (C * R) (trs R C zs (i * C + j)) ∧ Kept g (g + 1) W0 wr) (fun y _ => C - (intOf y).toNat)
      case atStart => exact ⟨0, Nat.zero_le _, rfl, HW.out, HK.out⟩
      case round =>
        obtain ⟨j, hj, rfl, hown, hkept⟩ := hrel
        have HV := Lib.hid hown
        have HL := Lib.hid hkept
        clear hown hkept
        have sz : W0.heap.size ≤ wr.heap.size := HL.out.size
        have X1 := Lib.hid (K1.out.kept HL.out (by omega) (by omega))
        have X3 := Lib.hid (K3.out.kept HL.out (by omega) (by omega))
        obtain ⟨k0, k1, k2⟩ := X1.out
        by_cases hjl : j < C
        · have hs := ij_lt hlt hjl
          have ht := ij_lt hjl hlt
          have a0 : 0 ≤ (i : Int) * (C : Int) := by rw [castM]; omega
          have a1 : (i : Int) * (C : Int) ≤ 2304 := by rw [castM]; omega
          have b0 : 0 ≤ (j : Int) * (R : Int) := by rw [castM]; omega
          have b1 : (j : Int) * (R : Int) ≤ 2304 := by rw [castM]; omega
          have d0 : 0 ≤ (j : Int) * (R : Int) + (i : Int) := by omega
          have d1 : (j : Int) * (R : Int) + (i : Int) < (C : Int) * (R : Int) := by rw [castI, castM]; omega
          have ng1 : ¬ g = w.heap.size := by omega
          have ng2 : ¬ w.heap.size = g := by omega
          have ng3 : ¬ g = w2.heap.size := by omega
          have ng4 : ¬ w2.heap.size = g := by omega
          have gw : g < wr.heap.size := by omega
          obtain ⟨l0, l1, l2⟩ := X3.out
          have hw1 : IntKind.i64.wrap ((j : Int) * (R : Int)) = (j : Int) * (R : Int) := IntWalk.i64_in _ (by omega)
          have hw2 : IntKind.i64.wrap ((j : Int) * (R : Int) + (i : Int)) = (j : Int) * (R : Int) + (i : Int) := IntWalk.i64_in _ (by omega)
          go_wp2_with fail
          go_region_held3 (fun W => (W.cell? ⟨w.heap.size, 0, none⟩ = some (.int .i64 R) ∧ W.cell? ⟨w.heap.size, 1, none⟩ = some (.int .i64 C) ∧ W.cell? ⟨w.heap.size, 2, none⟩ = some (.slice A n c)) ∧
              (W.cell? ⟨w2.heap.size, 0, none⟩ = some (.int .i64 C) ∧ W.cell? ⟨w2.heap.size, 1, none⟩ = some (.int .i64 R) ∧ W.cell? ⟨w2.heap.size, 2, none⟩ = some (.slice (some ⟨g, 0, none⟩) (C * R) (C * R)))) (go_keep)
            ((go_at_call 55; refine (at_spec R C A n c zs _ (by exact (H.out.into (HB.out wr HL.out).drew)) hn i j _ a0 a1 (castI i C j) (by rw [HN.out]; exact hs)).mono ?_; rintro e w6 ⟨rfl, hb6'⟩; have hb6 := undrew hb6'; have B6 := Lib.hid hb6; obtain ⟨e0, e1, e2⟩ := X1.out.below hb6 (by omega); obtain ⟨f0, f1, f2⟩ := X3.out.below hb6 (by omega); obtain ⟨g', zz, eg, _, _, _, hcz, hfz⟩ := (HV.out.below B6.out (by omega)).at_ ht; cases eg; have hcz' : w6.cell? ⟨g, ((j : Int) * (R : Int) + (i : Int)).toNat, none⟩ = some (.int .i64 zz) := (by rw [castI]; exact hcz); have hfz' : w6.frozen? ⟨g, ((j : Int) * (R : Int) + (i : Int)).toNat, none⟩ = false := (by rw [castI]; exact hfz); clear hb6 hb6'))
          have ho : ((j : Int) * (R : Int) + (i : Int)).toNat = j * R + i := by rw [castI]; rfl
          rw [ho]
          have O7 := Lib.hid ((HV.out.below B6.out (by omega)).set_ (j * R + i) (zs.getD (i * C + j) 0))
          have K7 := Lib.hid (Kept.set_ (p := ⟨g, j * R + i, none⟩) ((Kept.of_below B6.out g (g + 1))) (Nat.le_refl _) (by dsimp only; omega) (.int .i64 (zs.getD (i * C + j) 0)))
          clear k0 k1 k2 l0 l1 l2 e0 e1 e2 f0 f1 f2 ho
          go_wp2
          go_roundw
          case rel => exact ⟨j + 1, by omega, by go_num, by rw [← Nat.add_assoc, trs_step zs hjl]; simpa using O7.out, by have := HL.out.trans K7.out; simpa using this⟩
          case measure => simp [intOf]; omega
        · obtain rfl : j = C := by omega
          go_wp2
          go_roundw
          case rel => exact ⟨i + 1, by omega, by go_num, by rw [Nat.add_mul, Nat.one_mul]; exact HV.out, HL.out⟩
          case measure => simp [intOf]; omega
    · obtain rfl : i = R := by omega
      have sz : W0.heap.size ≤ wo.heap.size := HK.out.size
      obtain ⟨l0, l1, l2⟩ := K3.out.kept HK.out (by omega) (by omega)
      obtain ⟨n0, n1, n2⟩ := K2.out.kept HK.out (by omega) (by omega)
      have f0 := F2.out.kept HK.out (by omega) (by omega)
      unfold Free at f0
      go_wp2
      refine bodyPost_ret (v := .agg #[.int .i64 C, .int .i64 i, .slice (some ⟨g, 0, none⟩) (C * i) (C * i)]) (by simp [results, Try.results21, n0, n1, n2, go_sem]) rfl ⟨some ⟨g, 0, none⟩, C * i, by rw [trs_len], ?_, ?_⟩
      · rw [trs_len]
        refine ((((HW.out.far (p := ⟨w.heap.size + 1, 0, none⟩) (by dsimp only; omega) _).far (p := ⟨w.heap.size + 1, 1, none⟩) (by dsimp only; omega) _).far (p := ⟨w.heap.size + 1, 2, none⟩) (by dsimp only; omega) _)).wide (by omega) ?_
        simp [World.setCell]
        omega
      · exact (((HB.out wo HK.out).setCell (by simp) _).setCell (by simp) _).setCell (by simp) _

end Go.Proofs.Ytdbljeglnhefmaa
