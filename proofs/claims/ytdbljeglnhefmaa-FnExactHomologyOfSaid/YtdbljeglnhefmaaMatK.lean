/- The product of two matrices: its entries, and the program's contract. No condition but those that each theorem names. -/
import Derived.Test.YtdbljeglnhefmaaMatJ
namespace Go.Proofs.Ytdbljeglnhefmaa
open Go.RowKit

/-- The entries of the product behind the first t stores. -/
def pl (K C : Nat) (zs ys : List Int) (N : Nat) : Nat → List Int
  | 0 => List.replicate N 0
  | t + 1 => (pl K C zs ys N t).set t (dotS K C zs ys (t / C) (t % C) K)
theorem pl_len (K C : Nat) (zs ys : List Int) (N t : Nat) : (pl K C zs ys N t).length = N := by
  induction t with
  | zero => simp [pl]
  | succ t ih => simp [pl, ih]
theorem ij_idx {C i j : Nat} (hj : j < C) : (i * C + j) % C = j ∧ (i * C + j) / C = i :=
  ⟨by rw [Nat.add_comm, Nat.add_mul_mod_self_right, Nat.mod_eq_of_lt hj], by rw [Nat.add_comm, Nat.add_mul_div_right _ _ (by omega), Nat.div_eq_of_lt hj, Nat.zero_add]⟩
theorem pl_step {K C : Nat} (zs ys : List Int) (N : Nat) {i j : Nat} (hj : j < C) : pl K C zs ys N (i * C + j + 1) = (pl K C zs ys N (i * C + j)).set (i * C + j) (dotS K C zs ys i j K) := by
  rw [pl, (ij_idx hj).1, (ij_idx hj).2]
/-- The first t entries stay within the limit. -/
def Fits (K C : Nat) (zs ys : List Int) (t : Nat) : Prop := ∀ u, u < t → dotM K C zs ys (u / C) (u % C) K ≤ 1000000000000
theorem fits_step {K C : Nat} {zs ys : List Int} {i j : Nat} (hj : j < C) (h : Fits K C zs ys (i * C + j)) (hm : dotM K C zs ys i j K ≤ 1000000000000) : Fits K C zs ys (i * C + j + 1) := fun u hu => by
  by_cases e : u = i * C + j
  · subst e; rw [(ij_idx hj).1, (ij_idx hj).2]; exact hm
  · exact h u (by omega)
theorem fits_not {K C R : Nat} {zs ys : List Int} {i j : Nat} (hi : i < R) (hj : j < C) (hm : ¬ dotM K C zs ys i j K ≤ 1000000000000) : ¬ Fits K C zs ys (R * C) := fun h => hm (by
  have := h (i * C + j) (ij_lt hi hj)
  rw [(ij_idx hj).1, (ij_idx hj).2] at this
  exact this)
def MulSays (w : World) (R K C : Nat) (zs ys : List Int) (e : Ending) (w' : World) : Prop :=
  (Fits K C zs ys (R * C) → ResM w R C (pl K C zs ys (R * C) (R * C)) (.int .i64 0) e w') ∧ (¬ Fits K C zs ys (R * C) → ResM w 0 0 [] (.int .i64 3) e w')

set_option maxHeartbeats 4000000 in
theorem mul_impl_yes (R K C : Nat) (A1 A2 : Option Addr) (n1 c1 n2 c2 : Nat) (zs ys : List Int) (w : World) (h1 : Ints w w.heap.size A1 n1 zs) (h2 : Ints w w.heap.size A2 n2 ys)
    (m1 : n1 ≤ 1048576) (m2 : n2 ≤ 1048576) (hR : R ≤ 48) (hK : K ≤ 48) (hC : C ≤ 48) (P1 : MOk R K zs) (P2 : MOk K C ys) :
    Calls Try.prog 28 #[.agg #[.int .i64 R, .int .i64 K, .slice A1 n1 c1], .agg #[.int .i64 K, .int .i64 C, .slice A2 n2 c2]] w (MulSays w R K C zs ys) := by
  have p := rc_le hR hC
  have v0 : 0 ≤ (R : Int) * (C : Int) := by rw [castM]; omega
  have v1 : (R : Int) * (C : Int) ≤ 2304 := by rw [castM]; omega
  have HP1 := Lib.hid P1
  have HP2 := Lib.hid P2
  have H1 := Lib.hid h1
  have H2 := Lib.hid h2
  have K1 := Lib.hid (((Box3.new w 27 (.int .i64 R) (.int .i64 K) (.slice A1 n1 c1)).below (al1 _ (Obj.cells #[.int .i64 K, .int .i64 C, .slice A2 n2 c2] 27)) (by simp)).below (al1 ((w.alloc (Obj.cells #[.int .i64 R, .int .i64 K, .slice A1 n1 c1] 27)).alloc (Obj.cells #[.int .i64 K, .int .i64 C, .slice A2 n2 c2] 27)) (Obj.cells #[.int .i64 0, .int .i64 0, .slice none 0 0] 27)) (by simp <;> omega))
  have K2 := Lib.hid ((Box3.new (w.alloc (Obj.cells #[.int .i64 R, .int .i64 K, .slice A1 n1 c1] 27)) 27 (.int .i64 K) (.int .i64 C) (.slice A2 n2 c2)).below (al1 ((w.alloc (Obj.cells #[.int .i64 R, .int .i64 K, .slice A1 n1 c1] 27)).alloc (Obj.cells #[.int .i64 K, .int .i64 C, .slice A2 n2 c2] 27)) (Obj.cells #[.int .i64 0, .int .i64 0, .slice none 0 0] 27)) (by simp))
  have K3 := Lib.hid (Box3.new ((w.alloc (Obj.cells #[.int .i64 R, .int .i64 K, .slice A1 n1 c1] 27)).alloc (Obj.cells #[.int .i64 K, .int .i64 C, .slice A2 n2 c2] 27)) 27 (.int .i64 0) (.int .i64 0) (.slice none 0 0))
  have F3 := Lib.hid (Free.new ((w.alloc (Obj.cells #[.int .i64 R, .int .i64 K, .slice A1 n1 c1] 27)).alloc (Obj.cells #[.int .i64 K, .int .i64 C, .slice A2 n2 c2] 27)) 27 #[.int .i64 0, .int .i64 0, .slice none 0 0])
  simp only [World.size_alloc] at K2 K3 F3
  clear h1 h2 P1 P2
  go_enter Try.func28, Try.ntmps28
  go_wp2_with fail
  refine (isMi_yes R K A1 n1 c1 zs _ (H1.out.into (al3 _ _ _ _)) m1 HP1.out).mono ?_
  rintro e w1 ⟨rfl, hb⟩
  have s1 : w.heap.size + 1 + 1 < w1.heap.size := by have := hb.size; simp at this; omega
  have s1' : w.heap.size + 1 < w1.heap.size := by omega
  have L1 := Lib.hid (K1.out.below hb (by simp <;> omega))
  have L2 := Lib.hid (K2.out.below hb (by simp <;> omega))
  have L3 := Lib.hid (K3.out.below hb (by simp))
  have G3 := Lib.hid (F3.out.below hb (by simp))
  have HB1 := Lib.hid (on3 _ _ _ hb)
  clear hb K1 K2 K3 F3
  obtain ⟨k0, k1, k2⟩ := L1.out
  obtain ⟨l0, l1, l2⟩ := L2.out
  go_wp2_with fail
  refine (isMi_yes K C A2 n2 c2 ys _ (H2.out.into HB1.out) m2 HP2.out).mono ?_
  rintro e w2 ⟨rfl, hb⟩
  have s2 : w1.heap.size ≤ w2.heap.size := hb.size
  clear k0 k1 k2 l0 l1 l2
  have K1 := Lib.hid (L1.out.below hb (by omega))
  have K2 := Lib.hid (L2.out.below hb (by omega))
  have K3 := Lib.hid (L3.out.below hb (by omega))
  have F3 := Lib.hid (G3.out.below hb (by omega))
  have HB2 := Lib.hid (HB1.out.trans (hb.mono (by omega)))
  clear hb L1 L2 L3 G3 HB1
  obtain ⟨k0, k1, k2⟩ := K1.out
  obtain ⟨l0, l1, l2⟩ := K2.out
  go_wp2_with fail
  refine (zero_impl _ _ (R * C) _ v0 (by omega) (castM R C)).mono ?_
  rintro e w3 ⟨g, rfl, hblk, hg, hg2, hb⟩
  clear k0 k1 k2 l0 l1 l2
  have s3 : w2.heap.size ≤ w3.heap.size := hb.size
  have z3 : w.heap.size + 1 < w3.heap.size := by omega
  have z4 : w.heap.size < w3.heap.size := by omega
  have L1 := Lib.hid ((K1.out.below hb (by omega)).below (al1 w3 (Obj.cells #[.int .i64 R, .int .i64 C, .slice (some ⟨g, 0, none⟩) (R * C) (R * C)] 27)) (by omega))
  have L2 := Lib.hid ((K2.out.below hb (by omega)).below (al1 w3 (Obj.cells #[.int .i64 R, .int .i64 C, .slice (some ⟨g, 0, none⟩) (R * C) (R * C)] 27)) (by omega))
  have L3 := Lib.hid ((K3.out.below hb (by omega)).below (al1 w3 (Obj.cells #[.int .i64 R, .int .i64 C, .slice (some ⟨g, 0, none⟩) (R * C) (R * C)] 27)) (by omega))
  have G3 := Lib.hid ((F3.out.below hb (by omega)).below (al1 w3 (Obj.cells #[.int .i64 R, .int .i64 C, .slice (some ⟨g, 0, none⟩) (R * C) (R * C)] 27)) (by omega))
  have L4 := Lib.hid (Box3.new w3 27 (.int .i64 R) (.int .i64 C) (.slice (some ⟨g, 0, none⟩) (R * C) (R * C)))
  have HB3 := Lib.hid ((HB2.out.trans (hb.mono (by omega))).trans ((al1 w3 (Obj.cells #[.int .i64 R, .int .i64 C, .slice (some ⟨g, 0, none⟩) (R * C) (R * C)] 27)).mono (by omega)))
  have HO := Lib.hid ((Own.of_blk (lo := g) (hi := g + 1) (n := R * C) hblk (Nat.le_refl _) (by omega) (by simp) (by unfold maxLen; omega)).al (by omega) (al1 w3 (Obj.cells #[.int .i64 R, .int .i64 C, .slice (some ⟨g, 0, none⟩) (R * C) (R * C)] 27)))
  have s4 : w3.heap.size < (w3.alloc (Obj.cells #[.int .i64 R, .int .i64 C, .slice (some ⟨g, 0, none⟩) (R * C) (R * C)] 27)).heap.size := by simp
  obtain ⟨k0, k1, k2⟩ := K1.out.below hb (by omega)
  clear hb hblk K1 K2 K3 F3 HB2
  go_wp2
  clear k0 k1 k2
  obtain ⟨W0, hW0⟩ : ∃ W0, W0 = w3.alloc (Obj.cells #[.int .i64 R, .int .i64 C, .slice (some ⟨g, 0, none⟩) (R * C) (R * C)] 27) := ⟨_, rfl⟩
  rw [← hW0] at L1 L2 L3 G3 L4 HB3 HO s4
  rw [← hW0]
  clear hW0
  have HB := Lib.hid (fun (wr : World) (h : Kept g (g + 1) W0 wr) => HB3.out.trans (h.below (by omega) (by omega)))
  go_loopw [33] (fun x wr => ∃ i : Nat, i ≤ R ∧ x = .int .i64 i ∧ Own wr g (g + 1) (some ⟨g, 0, none⟩) (R * C) (R * C) (pl K C zs ys (R * C) (i * C)) ∧ Kept g (g + 1) W0 wr ∧ Fits K C zs ys (i * C)) (fun x _ => R - (intOf x).toNat)
  case atStart => exact ⟨0, Nat.zero_le _, rfl, by rw [Nat.zero_mul]; exact HO.out, Kept.refl _ _ _, fun u hu => by omega⟩
  case round =>
    obtain ⟨i, hi, rfl, hown, hkept, hfits⟩ := hrel
    have HW := Lib.hid hown
    have HK := Lib.hid hkept
    have HF := Lib.hid hfits
    clear hown hkept hfits
    obtain ⟨wo, rfl⟩ : ∃ wo : World, wo = wr := ⟨_, rfl⟩
    obtain ⟨k0, k1, k2⟩ := L2.out.kept HK.out (by omega) (by omega)
    by_cases hlt : i < R
    · go_wp2
      clear k0 k1 k2
      go_loopw [38] (fun y wr => ∃ j : Nat, j ≤ C ∧ y = .int .i64 j ∧ Own wr g (g + 1) (some ⟨g, 0, none⟩) (R * C) (R * C) (pl K C zs ys (R * C) (i * C + j)) ∧ Kept g (g + 1) W0 wr ∧ Fits K C zs ys (i * C + j)) (fun y _ => C - (intOf y).toNat)
      case atStart => exact ⟨0, Nat.zero_le _, rfl, HW.out, HK.out, HF.out⟩
      case round =>
        obtain ⟨j, hj, rfl, hown, hkept, hfits⟩ := hrel
        have HV := Lib.hid hown
        have HL := Lib.hid hkept
        have HG := Lib.hid hfits
        clear hown hkept hfits
        by_cases hjl : j < C
        · have hs := ij_lt hlt hjl
          have a0 : 0 ≤ (i : Int) * (C : Int) := by rw [castM]; omega
          have a1 : (i : Int) * (C : Int) ≤ 2304 := by rw [castM]; omega
          have sz : W0.heap.size ≤ wr.heap.size := HL.out.size
          have X1 := Lib.hid (L1.out.kept HL.out (by omega) (by omega))
          have X2 := Lib.hid (L2.out.kept HL.out (by omega) (by omega))
          have X3 := Lib.hid (L3.out.kept HL.out (by omega) (by omega))
          have Y3 := Lib.hid (G3.out.kept HL.out (by omega) (by omega))
          have X4 := Lib.hid (L4.out.kept HL.out (by omega) (by omega))
          obtain ⟨k0, k1, k2⟩ := X1.out
          obtain ⟨l0, l1, l2⟩ := X2.out
          go_wp2_with fail
          refine (rtc_impl R K C A1 A2 n1 c1 n2 c2 i j zs ys _ (H1.out.into (HB.out wr HL.out)) (H2.out.into (HB.out wr HL.out)) hR hK hC HP1.out HP2.out hlt hjl).mono ?_
          intro e w6 hsay
          have hb6 := hsay.2.2
          have z6 := hb6.size
          have B6 := Lib.hid hb6
          clear k0 k1 k2 l0 l1 l2 hb6
          by_cases hm : dotM K C zs ys i j K ≤ 1000000000000
          · obtain rfl := hsay.1 hm
            have HM := Lib.hid hm
            clear hm hsay
            obtain ⟨k0, k1, k2⟩ := X4.out.below B6.out (by omega)
            go_wp2_with fail
            refine (set_impl R C i j _ _ _ _ _ g (g + 1) _ _ (HV.out.below B6.out (by omega)) (by omega) (by omega) a0 a1 (castI i C j) hs).mono ?_
            rintro e w7 ⟨rfl, hown7, hkept7⟩
            have O7 := Lib.hid hown7
            have K7 := Lib.hid hkept7
            clear k0 k1 k2 hown7 hkept7
            go_wp2
            go_roundw
            case rel => exact ⟨j + 1, by omega, by go_num, by rw [← Nat.add_assoc, pl_step zs ys _ hjl]; exact O7.out, (HL.out.trans (Kept.of_below B6.out _ _)).trans K7.out, by rw [← Nat.add_assoc]; exact fits_step hjl HG.out HM.out⟩
            case measure => simp [intOf]; omega
          · obtain rfl := hsay.2.1 hm
            have HM := Lib.hid hm
            clear hm hsay
            obtain ⟨n0, n1, n2⟩ := X3.out.below B6.out (by omega)
            have f0 := Y3.out.below B6.out (by omega)
            unfold Free at f0
            have HB6 := Lib.hid ((HB.out wr HL.out).trans (B6.out.mono (HB.out wr HL.out).size))
            go_wp2
            refine bodyPost_ret (v := .tuple #[.agg #[.int .i64 0, .int .i64 0, .slice none 0 0], .int .i64 3]) (by simp [results, Try.results28, n0, n1, n2, go_sem]) rfl ⟨fun h => absurd h (fits_not hlt hjl (by have := HM.out; omega)), fun _ => ⟨none, 0, rfl, Own.none_ _ _ _, ?_⟩⟩
            exact ((HB6.out.setCell (by simp <;> omega) _).setCell (by simp <;> omega) _).setCell (by simp <;> omega) _
        · obtain rfl : j = C := by omega
          go_wp2
          go_roundw
          case rel => exact ⟨i + 1, by omega, by go_num, by rw [Nat.add_mul, Nat.one_mul]; exact HV.out, HL.out, by rw [Nat.add_mul, Nat.one_mul]; exact HG.out⟩
          case measure => simp [intOf]; omega
    · obtain rfl : i = R := by omega
      have sz : W0.heap.size ≤ wo.heap.size := HK.out.size
      clear k0 k1 k2
      obtain ⟨l0, l1, l2⟩ := L4.out.kept HK.out (by omega) (by omega)
      obtain ⟨n0, n1, n2⟩ := L3.out.kept HK.out (by omega) (by omega)
      have f0 := G3.out.kept HK.out (by omega) (by omega)
      unfold Free at f0
      go_wp2
      refine bodyPost_ret (v := .tuple #[.agg #[.int .i64 i, .int .i64 C, .slice (some ⟨g, 0, none⟩) (i * C) (i * C)], .int .i64 0]) (by simp [results, Try.results28, n0, n1, n2, go_sem]) rfl ⟨fun _ => ⟨some ⟨g, 0, none⟩, i * C, by rw [pl_len], ?_, ?_⟩, fun h => absurd HF.out h⟩
      · rw [pl_len]
        refine ((((HW.out.far (p := ⟨w.heap.size + 1 + 1, 0, none⟩) (by dsimp only; omega) _).far (p := ⟨w.heap.size + 1 + 1, 1, none⟩) (by dsimp only; omega) _).far (p := ⟨w.heap.size + 1 + 1, 2, none⟩) (by dsimp only; omega) _)).wide (by omega) ?_
        simp [World.setCell]
        omega
      · exact (((HB.out wo HK.out).setCell (by simp <;> omega) _).setCell (by simp <;> omega) _).setCell (by simp <;> omega) _

end Go.Proofs.Ytdbljeglnhefmaa
