/- Contracts of the functions that strike a row and a column of a matrix, the program's and the specification's. No condition but those that each theorem names. -/
import Derived.Test.YtdbljeglnhefmaaMatG
import Derived.Deep.AppendLies
import Derived.Deep.RegionLaw
namespace Go.Proofs.Ytdbljeglnhefmaa
open Go.RowKit

/-- The entries that are kept of the first t ones: those outside row a and column b. -/
def mn (C a b : Nat) (zs : List Int) : Nat → List Int
  | 0 => []
  | t + 1 => if t / C = a ∨ t % C = b then mn C a b zs t else mn C a b zs t ++ [zs.getD t 0]
theorem mn_len (C a b : Nat) (zs : List Int) (t : Nat) : (mn C a b zs t).length ≤ t := by
  induction t with
  | zero => simp [mn]
  | succ t ih =>
    rw [mn]
    split
    · omega
    · simp; omega
theorem mn_idx {C i j : Nat} (hj : j < C) : (i * C + j) % C = j ∧ (i * C + j) / C = i :=
  ⟨by rw [Nat.add_comm, Nat.add_mul_mod_self_right, Nat.mod_eq_of_lt hj], by rw [Nat.add_comm, Nat.add_mul_div_right _ _ (by omega), Nat.div_eq_of_lt hj, Nat.zero_add]⟩
theorem mn_skip {C a b : Nat} (zs : List Int) {i j : Nat} (hj : j < C) (h : i = a ∨ j = b) : mn C a b zs (i * C + j + 1) = mn C a b zs (i * C + j) := by
  rw [mn, (mn_idx hj).1, (mn_idx hj).2, if_pos h]
theorem mn_take {C a b : Nat} (zs : List Int) {i j : Nat} (hj : j < C) (h1 : i ≠ a) (h2 : j ≠ b) : mn C a b zs (i * C + j + 1) = mn C a b zs (i * C + j) ++ [zs.getD (i * C + j) 0] := by
  rw [mn, (mn_idx hj).1, (mn_idx hj).2, if_neg (by omega)]

/-- The state of the loops: the struct at block b holds a list of the call's own. -/
def MnAt (B b : Nat) (r q : Int) (W0 : World) (l : List Int) (wr : World) : Prop :=
  ∃ A c, Box3 wr b (.int .i64 r) (.int .i64 q) (.slice A l.length c) ∧ Free wr b ∧ Own wr B wr.heap.size A l.length c l ∧ Kept b (b + 1) W0 wr

theorem Kept.of_grown {w w' : World} {v : Value} {lo : Nat} (hg : w.grownBy w' v.ownBlock) (hlo : ∀ k, v.ownBlock = some k → lo ≤ k ∧ k < w.heap.size) : Kept lo w.heap.size w w' :=
  ⟨hg.os, hg.tape, hg.output, hg.size, fun k hk hn => hg.block k hk (fun e => by have := hlo k e.symm; omega)⟩

theorem Kept.over {lo hi lo' hi' : Nat} {a b d : World} (h : Kept lo hi a b) (k : Kept lo' hi' b d) (hl : a.heap.size ≤ lo') : Kept lo hi a d :=
  ⟨k.os.trans h.os, k.tape.trans h.tape, k.output.trans h.output, Nat.le_trans h.size k.size, fun i hi' hn => (k.block i (Nat.lt_of_lt_of_le hi' h.size) (by omega)).trans (h.block i hi' hn)⟩
theorem MnAt.push {B b : Nat} {r q z : Int} {W0 w7 : World} {l : List Int} {gg cap : Nat} {x : Value} (hbox : Box3 w7 b (.int .i64 r) (.int .i64 q) x) (hfree : Free w7 b)
    (hown : w7.ownsRow B 2 1 (.slice (some ⟨gg, 0, none⟩) (l.length + 1) cap) (l.length + 1) (l.map (Value.int .i64) ++ [.int .i64 z])) (hg : gg < w7.heap.size) (hb : b < B) (hk : Kept b (b + 1) W0 w7) :
    MnAt B b r q W0 (l ++ [z]) (w7.setCell ⟨b, 2, none⟩ (.slice (some ⟨gg, 0, none⟩) (l.length + 1) cap)) := by
  have ho : Own w7 B w7.heap.size (some ⟨gg, 0, none⟩) (l.length + 1) cap (l ++ [z]) := ⟨by simpa using hown, fun a ha => by cases ha; exact hg⟩
  refine ⟨some ⟨gg, 0, none⟩, cap, ⟨?_, ?_, ?_⟩, ?_, ?_, ?_⟩
  · rw [World.cell?_setCell_other w7 _ _ _ (by simp)]; exact hbox.1
  · rw [World.cell?_setCell_other w7 _ _ _ (by simp)]; exact hbox.2.1
  · have h2 := hbox.2.2
    have := World.cell?_setCell_same w7 ⟨b, 2, none⟩ (.slice (some ⟨gg, 0, none⟩) (l.length + 1) cap) h2
    simpa using this
  · intro o
    rw [World.frozen?_setCell]
    exact hfree o
  · have := (ho.far (p := ⟨b, 2, none⟩) (.inl hb) (.slice (some ⟨gg, 0, none⟩) (l.length + 1) cap))
    simpa [World.setCell] using this
  · exact hk.set_ (Nat.le_refl _) (by dsimp only; omega) _

set_option maxRecDepth 100000 in
set_option maxHeartbeats 2000000 in
theorem minor_impl_yes (R C a b : Nat) (A : Option Addr) (n c : Nat) (zs : List Int) (w : World) (h : Ints w w.heap.size A n zs) (hn : n ≤ 1048576) (hR : R ≤ 48) (hC : C ≤ 48) (ha : a < R) (hb' : b < C) (hP : MOk R C zs) :
    Calls Try.prog 26 #[.agg #[.int .i64 R, .int .i64 C, .slice A n c], .int .i64 a, .int .i64 b] w (ResM w ((R : Int) - 1) ((C : Int) - 1) (mn C a b zs (R * C)) (.bool true)) := by
  have hnn : n = R * C := by have h1 := hP.2.2.2.2.1; rw [h.1, castM] at h1; exact_mod_cast h1
  have HN := Lib.hid hnn
  have pr := rc_le hR hC
  have HP := Lib.hid hP
  have H := Lib.hid h
  have K1 := Lib.hid ((Box3.new w 27 (.int .i64 R) (.int .i64 C) (.slice A n c)).below (al1 _ (Obj.cells #[.int .i64 0, .int .i64 0, .slice none 0 0] 27)) (by simp))
  have K2 := Lib.hid (Box3.new (w.alloc (Obj.cells #[.int .i64 R, .int .i64 C, .slice A n c] 27)) 27 (.int .i64 0) (.int .i64 0) (.slice none 0 0))
  have F2 := Lib.hid (Free.new (w.alloc (Obj.cells #[.int .i64 R, .int .i64 C, .slice A n c] 27)) 27 #[.int .i64 0, .int .i64 0, .slice none 0 0])
  clear h hP hnn
  go_enter Try.func26, Try.ntmps26
  go_wp2_with fail
  refine (isMi_yes R C A n c zs _ (H.out.into (al2 _ _ _)) hn HP.out).mono ?_
  rintro e w1 ⟨rfl, hb⟩
  have s1 : w.heap.size + 1 < w1.heap.size := by have := hb.size; simp at this; omega
  have K1' := Lib.hid (K1.out.below hb (by simp; omega))
  have K2' := Lib.hid (K2.out.below hb (by simp))
  have F2' := Lib.hid (F2.out.below hb (by simp))
  have HB1 := Lib.hid (on2 _ _ hb)
  clear hb K1 K2 F2
  simp only [World.size_alloc] at K2' F2'
  obtain ⟨k0, k1, k2⟩ := K1'.out
  go_wp2_with fail
  refine (has_yes R C a b A n c _ (by omega) (by omega) (by omega) (by omega)).mono ?_
  rintro e w2 ⟨rfl, hb⟩
  clear k0 k1 k2
  have s2 : w1.heap.size ≤ w2.heap.size := hb.size
  have z2 : w.heap.size < w2.heap.size := by omega
  have z3 : w.heap.size + 1 < w2.heap.size := by omega
  have K1 := Lib.hid ((K1'.out.below hb (by omega)).below (al1 w2 (Obj.cells #[.int .i64 ((R : Int) - 1), .int .i64 ((C : Int) - 1), .slice none 0 0] 27)) (by omega))
  have K2 := Lib.hid ((K2'.out.below hb (by omega)).below (al1 w2 (Obj.cells #[.int .i64 ((R : Int) - 1), .int .i64 ((C : Int) - 1), .slice none 0 0] 27)) (by omega))
  have F2 := Lib.hid ((F2'.out.below hb (by omega)).below (al1 w2 (Obj.cells #[.int .i64 ((R : Int) - 1), .int .i64 ((C : Int) - 1), .slice none 0 0] 27)) (by omega))
  have K3 := Lib.hid (Box3.new w2 27 (.int .i64 ((R : Int) - 1)) (.int .i64 ((C : Int) - 1)) (.slice none 0 0))
  have F3 := Lib.hid (Free.new w2 27 #[.int .i64 ((R : Int) - 1), .int .i64 ((C : Int) - 1), .slice none 0 0])
  have HB2 := Lib.hid ((HB1.out.trans (hb.mono (by omega))).trans ((al1 w2 (Obj.cells #[.int .i64 ((R : Int) - 1), .int .i64 ((C : Int) - 1), .slice none 0 0] 27)).mono (by omega)))
  have s3 : w2.heap.size < (w2.alloc (Obj.cells #[.int .i64 ((R : Int) - 1), .int .i64 ((C : Int) - 1), .slice none 0 0] 27)).heap.size := by simp
  obtain ⟨k0, k1, k2⟩ := K1'.out.below hb (by omega)
  clear hb K1' K2' F2' HB1
  go_wp2
  clear k0 k1 k2
  obtain ⟨W0, hW0⟩ : ∃ W0, W0 = w2.alloc (Obj.cells #[.int .i64 ((R : Int) - 1), .int .i64 ((C : Int) - 1), .slice none 0 0] 27) := ⟨_, rfl⟩
  rw [← hW0] at K1 K2 F2 K3 F3 HB2 s3
  rw [← hW0]
  clear hW0
  have HB := Lib.hid (fun (wr : World) (h : Kept w2.heap.size (w2.heap.size + 1) W0 wr) => HB2.out.trans (h.below (by omega) (by omega)))
  obtain ⟨i0, hi0, hz0, hz1, hz2⟩ := info_parts info2
  have HI := Lib.hid (And.intro hi0 (And.intro hz0 (And.intro hz1 hz2)))
  clear hi0 hz0 hz1 hz2
  go_loopw [31] (fun x wr => ∃ i : Nat, i ≤ R ∧ x = .int .i64 i ∧ MnAt W0.heap.size w2.heap.size ((R : Int) - 1) ((C : Int) - 1) W0 (mn C a b zs (i * C)) wr) (fun x _ => R - (intOf x).toNat)
  case atStart => exact ⟨0, Nat.zero_le _, rfl, by rw [Nat.zero_mul]; exact ⟨none, 0, K3.out, F3.out, Own.none_ _ _ _, Kept.refl _ _ _⟩⟩
  case round =>
    obtain ⟨i, hi, rfl, ⟨A1, c1, hbox, hfree, hown, hkept⟩⟩ := hrel
    have HW := Lib.hid hown
    have HK := Lib.hid hkept
    have HX := Lib.hid hbox
    have HF := Lib.hid hfree
    clear hown hkept hbox hfree
    obtain ⟨wo, rfl⟩ : ∃ wo : World, wo = wr := ⟨_, rfl⟩
    obtain ⟨k0, k1, k2⟩ := K1.out.kept HK.out (by omega) (by omega)
    by_cases hlt : i < R
    · go_wp2
      clear k0 k1 k2
      go_loopw [36] (fun y wr => ∃ j : Nat, j ≤ C ∧ y = .int .i64 j ∧ MnAt W0.heap.size w2.heap.size ((R : Int) - 1) ((C : Int) - 1) W0 (mn C a b zs (i * C + j)) wr) (fun y _ => C - (intOf y).toNat)
      case atStart => exact ⟨0, Nat.zero_le _, rfl, A1, c1, HX.out, HF.out, HW.out, HK.out⟩
      case round =>
        obtain ⟨j, hj, rfl, ⟨A2, c2, hbox, hfree, hown, hkept⟩⟩ := hrel
        have HV := Lib.hid hown
        have HL := Lib.hid hkept
        have HY := Lib.hid hbox
        have HG := Lib.hid hfree
        clear hown hkept hbox hfree
        by_cases hjl : j < C
        · by_cases e1 : i = a
          · have HE := Lib.hid e1
            clear e1
            have t1 : ((i : Int) != (a : Int)) = false := by have := HE.out; subst this; simp
            have t2 : ((i : Int) == (a : Int)) = true := by have := HE.out; subst this; simp
            go_wp2
            go_roundw
            case rel => exact ⟨j + 1, by omega, by go_num, by rw [← Nat.add_assoc, mn_skip zs hjl (.inl HE.out)]; exact ⟨A2, c2, HY.out, HG.out, HV.out, HL.out⟩⟩
            case measure => simp [intOf]; omega
          have t1 : ((i : Int) != (a : Int)) = true := by simp; omega
          have t2 : ((i : Int) == (a : Int)) = false := by simp; omega
          have T1 := Lib.hid e1
          clear e1
          by_cases e2 : j = b
          · have HE := Lib.hid e2
            clear e2
            have t3 : ((j : Int) != (b : Int)) = false := by have := HE.out; subst this; simp
            have t4 : ((j : Int) == (b : Int)) = true := by have := HE.out; subst this; simp
            go_wp2
            go_roundw
            case rel => exact ⟨j + 1, by omega, by go_num, by rw [← Nat.add_assoc, mn_skip zs hjl (.inr HE.out)]; exact ⟨A2, c2, HY.out, HG.out, HV.out, HL.out⟩⟩
            case measure => simp [intOf]; omega
          have t3 : ((j : Int) != (b : Int)) = true := by simp; omega
          have t4 : ((j : Int) == (b : Int)) = false := by simp; omega
          have T2 := Lib.hid e2
          clear e2
          have hs := ij_lt hlt hjl
          have a0 : 0 ≤ (i : Int) * (C : Int) := by rw [castM]; omega
          have a1 : (i : Int) * (C : Int) ≤ 2304 := by rw [castM]; omega
          obtain ⟨z, hz⟩ : ∃ z, zs.getD (i * C + j) 0 = z := ⟨_, rfl⟩
          have AT := Lib.hid (fun (W : World) (hW : Ints W W.heap.size A n zs) => at_impl R C A n c zs W hW hn i j _ a0 a1 (castI i C j) (by rw [HN.out]; exact hs))
          rw [hz] at AT
          have HZ := Lib.hid hz
          have hml := mn_len C a b zs (i * C + j)
          obtain ⟨l, hl⟩ : ∃ l, mn C a b zs (i * C + j) = l := ⟨_, rfl⟩
          rw [hl] at HV HY hml
          have HLL := Lib.hid hl
          clear hz hl
          have sz : W0.heap.size ≤ wr.heap.size := HL.out.size
          have X1 := Lib.hid (K1.out.kept HL.out (by omega) (by omega))
          obtain ⟨k0, k1, k2⟩ := X1.out
          obtain ⟨l0, l1, l2⟩ := HY.out
          go_wp2_with fail
          go_region_law (first
              | (refine step_append_lies _ (by rfl) _ _ _ (by rfl) W0.heap.size 2 i0 _ 1 8 Try.underlying22 HI.out.1 HI.out.2.1 HI.out.2.2.1 HI.out.2.2.2 rfl (by omega) (.slice A2 l.length c2) l.length (l.map (Value.int .i64)) (by rfl) ((HV.out.below B6.out (Nat.le_refl _)).1.alloc _)
                  ⟨w6.heap.size, 0, none⟩ 1 1 [.int .i64 z] (by rfl) (by rfl) (World.news_of_block (cs := #[.int .i64 z]) (t := 2) (fr := (0, 0)) (heap_alloc_new w6 _)) (by simp [Value.oneCell']) (by omega) (by unfold maxLen; omega) (by omega) (by simp; omega) (w6.heap.size + 1) (by simp) ?_; intro gg cap w7 hown7 hgrow hat hlt7; have O7 := Lib.hid hown7; have G7 := Lib.hid hgrow; have L7 := Lib.hid hlt7; have HA := Lib.hid hat; have K7 := Lib.hid (Kept.of_grown hgrow ((HV.out.below B6.out (Nat.le_refl _)).1.alloc _).lt); obtain ⟨m0, m1, m2⟩ := ((X1.out.below B6.out (by omega)).below (al1 w6 (Obj.cells #[.int .i64 z] 2)) (by omega)).kept K7.out (by simp; omega) (by simp; omega); obtain ⟨y0, y1, y2⟩ := ((HY.out.below B6.out (by omega)).below (al1 w6 (Obj.cells #[.int .i64 z] 2)) (by omega)).kept K7.out (by simp; omega) (by simp; omega); have g7 := ((HG.out.below B6.out (by omega)).below (al1 w6 (Obj.cells #[.int .i64 z] 2)) (by omega)).kept K7.out (by simp; omega) (by simp; omega); unfold Free at g7; clear hown7 hgrow hlt7 hat)
              | (go_simp; go_at_call 57; refine (AT.out _ (by exact (H.out.into (HB.out wr HL.out).drew))).mono ?_; rintro e w6 ⟨rfl, hb6'⟩; have hb6 := undrew hb6'; have B6 := Lib.hid hb6; have z6 := hb6.size; have y6 : w.heap.size < w6.heap.size := (by omega); have x6 : w2.heap.size < w6.heap.size := (by omega); obtain ⟨e0, e1, e2⟩ := X1.out.below hb6 (by omega); obtain ⟨f0, f1, f2⟩ := HY.out.below hb6 (by omega); clear hb6 hb6'))
          all_goals
            have hkk := Lib.hid (((HL.out.trans (Kept.of_below B6.out _ _)).alloc _).over K7.out (Nat.le_refl _))
            have hfin := Lib.hid (MnAt.push ⟨y0, y1, y2⟩ g7 O7.out L7.out s3 hkk.out)
            clear k0 k1 k2 l0 l1 l2 e0 e1 e2 f0 f1 f2 m0 m1 m2 y0 y1 y2 g7
            go_wp2
            go_roundw
            case rel => exact ⟨j + 1, by omega, by go_num, by rw [← Nat.add_assoc, mn_take zs hjl T1.out T2.out, HZ.out, HLL.out]; exact hfin.out⟩
            case measure => simp [intOf]; omega
        · obtain rfl : j = C := by omega
          go_wp2
          go_roundw
          case rel => exact ⟨i + 1, by omega, by go_num, by rw [Nat.add_mul, Nat.one_mul]; exact ⟨A2, c2, HY.out, HG.out, HV.out, HL.out⟩⟩
          case measure => simp [intOf]; omega
    · obtain rfl : i = R := by omega
      have sz : W0.heap.size ≤ wo.heap.size := HK.out.size
      obtain ⟨l0, l1, l2⟩ := HX.out
      obtain ⟨n0, n1, n2⟩ := K2.out.kept HK.out (by omega) (by omega)
      have f0 := F2.out.kept HK.out (by omega) (by omega)
      unfold Free at f0
      go_wp2
      refine bodyPost_ret (v := .tuple #[.agg #[.int .i64 ((i : Int) - 1), .int .i64 ((C : Int) - 1), .slice A1 (mn C a b zs (i * C)).length c1], .bool true]) (by simp [results, Try.results26, n0, n1, n2, go_sem]) rfl ⟨A1, c1, rfl, ?_, ?_⟩
      · refine ((((HW.out.far (p := ⟨w.heap.size + 1, 0, none⟩) (by dsimp only; omega) _).far (p := ⟨w.heap.size + 1, 1, none⟩) (by dsimp only; omega) _).far (p := ⟨w.heap.size + 1, 2, none⟩) (by dsimp only; omega) _)).wide (by omega) ?_
        simp [World.setCell]
      · exact (((HB.out wo HK.out).setCell (by simp) _).setCell (by simp) _).setCell (by simp) _

set_option maxRecDepth 100000 in
set_option maxHeartbeats 2000000 in
theorem minor1_spec (R C a b : Nat) (A : Option Addr) (n c : Nat) (zs : List Int) (w : World) (h : Ints w w.heap.size A n zs) (hn : n ≤ 1048576) (hR : R ≤ 48) (hC : C ≤ 48) (ha : a < R) (hb' : b < C) (hP : MOk R C zs) :
    Calls Try.prog 61 #[.agg #[.int .i64 R, .int .i64 C, .slice A n c], .int .i64 a, .int .i64 b] w (ResS w ((R : Int) - 1) ((C : Int) - 1) (mn C a b zs (R * C))) := by
  have hnn : n = R * C := by have h1 := hP.2.2.2.2.1; rw [h.1, castM] at h1; exact_mod_cast h1
  have HN := Lib.hid hnn
  have pr := rc_le hR hC
  have HP := Lib.hid hP
  have H := Lib.hid h
  clear h hP hnn
  obtain ⟨i0, hi0, hz0, hz1, hz2⟩ := info_parts info2
  have HI := Lib.hid (And.intro hi0 (And.intro hz0 (And.intro hz1 hz2)))
  clear hi0 hz0 hz1 hz2
  have K1 := Lib.hid (((Box3.new w 27 (.int .i64 R) (.int .i64 C) (.slice A n c)).below (al1 _ (Obj.cells #[.int .i64 0, .int .i64 0, .slice none 0 0] 27)) (by simp)).below (al1 ((w.alloc (Obj.cells #[.int .i64 R, .int .i64 C, .slice A n c] 27)).alloc (Obj.cells #[.int .i64 0, .int .i64 0, .slice none 0 0] 27)) (Obj.cells #[.int .i64 ((R : Int) - 1), .int .i64 ((C : Int) - 1), .slice none 0 0] 27)) (by simp; omega))
  have K2 := Lib.hid ((Box3.new (w.alloc (Obj.cells #[.int .i64 R, .int .i64 C, .slice A n c] 27)) 27 (.int .i64 0) (.int .i64 0) (.slice none 0 0)).below (al1 ((w.alloc (Obj.cells #[.int .i64 R, .int .i64 C, .slice A n c] 27)).alloc (Obj.cells #[.int .i64 0, .int .i64 0, .slice none 0 0] 27)) (Obj.cells #[.int .i64 ((R : Int) - 1), .int .i64 ((C : Int) - 1), .slice none 0 0] 27)) (by simp))
  have F2 := Lib.hid ((Free.new (w.alloc (Obj.cells #[.int .i64 R, .int .i64 C, .slice A n c] 27)) 27 #[.int .i64 0, .int .i64 0, .slice none 0 0]).below (al1 ((w.alloc (Obj.cells #[.int .i64 R, .int .i64 C, .slice A n c] 27)).alloc (Obj.cells #[.int .i64 0, .int .i64 0, .slice none 0 0] 27)) (Obj.cells #[.int .i64 ((R : Int) - 1), .int .i64 ((C : Int) - 1), .slice none 0 0] 27)) (by simp))
  have K3 := Lib.hid (Box3.new ((w.alloc (Obj.cells #[.int .i64 R, .int .i64 C, .slice A n c] 27)).alloc (Obj.cells #[.int .i64 0, .int .i64 0, .slice none 0 0] 27)) 27 (.int .i64 ((R : Int) - 1)) (.int .i64 ((C : Int) - 1)) (.slice none 0 0))
  have F3 := Lib.hid (Free.new ((w.alloc (Obj.cells #[.int .i64 R, .int .i64 C, .slice A n c] 27)).alloc (Obj.cells #[.int .i64 0, .int .i64 0, .slice none 0 0] 27)) 27 #[.int .i64 ((R : Int) - 1), .int .i64 ((C : Int) - 1), .slice none 0 0])
  have HB2 := Lib.hid (al3 w (Obj.cells #[.int .i64 R, .int .i64 C, .slice A n c] 27) (Obj.cells #[.int .i64 0, .int .i64 0, .slice none 0 0] 27) (Obj.cells #[.int .i64 ((R : Int) - 1), .int .i64 ((C : Int) - 1), .slice none 0 0] 27))
  have s3 : w.heap.size + 1 + 1 < (((w.alloc (Obj.cells #[.int .i64 R, .int .i64 C, .slice A n c] 27)).alloc (Obj.cells #[.int .i64 0, .int .i64 0, .slice none 0 0] 27)).alloc (Obj.cells #[.int .i64 ((R : Int) - 1), .int .i64 ((C : Int) - 1), .slice none 0 0] 27)).heap.size := by simp
  simp only [World.size_alloc] at K2 F2 K3 F3
  go_enter Try.func61, Try.ntmps61
  go_wp2
  obtain ⟨W0, hW0⟩ : ∃ W0, W0 = (((w.alloc (Obj.cells #[.int .i64 R, .int .i64 C, .slice A n c] 27)).alloc (Obj.cells #[.int .i64 0, .int .i64 0, .slice none 0 0] 27)).alloc (Obj.cells #[.int .i64 ((R : Int) - 1), .int .i64 ((C : Int) - 1), .slice none 0 0] 27)) := ⟨_, rfl⟩
  rw [← hW0] at K1 K2 F2 K3 F3 HB2 s3
  rw [← hW0]
  clear hW0
  have HB := Lib.hid (fun (wr : World) (h : Kept (w.heap.size + 1 + 1) ((w.heap.size + 1 + 1) + 1) W0 wr) => HB2.out.trans (h.below (by omega) (by omega)))
  go_loopw [8] (fun x wr => ∃ i : Nat, i ≤ R ∧ x = .int .i64 i ∧ MnAt W0.heap.size (w.heap.size + 1 + 1) ((R : Int) - 1) ((C : Int) - 1) W0 (mn C a b zs (i * C)) wr) (fun x _ => R - (intOf x).toNat)
  case atStart => exact ⟨0, Nat.zero_le _, rfl, by rw [Nat.zero_mul]; exact ⟨none, 0, K3.out, F3.out, Own.none_ _ _ _, Kept.refl _ _ _⟩⟩
  case round =>
    obtain ⟨i, hi, rfl, ⟨A1, c1, hbox, hfree, hown, hkept⟩⟩ := hrel
    have HW := Lib.hid hown
    have HK := Lib.hid hkept
    have HX := Lib.hid hbox
    have HF := Lib.hid hfree
    clear hown hkept hbox hfree
    obtain ⟨wo, rfl⟩ : ∃ wo : World, wo = wr := ⟨_, rfl⟩
    obtain ⟨k0, k1, k2⟩ := K1.out.kept HK.out (by omega) (by omega)
    by_cases hlt : i < R
    · go_wp2
      clear k0 k1 k2
      go_loopw [9] (fun y wr => ∃ j : Nat, j ≤ C ∧ y = .int .i64 j ∧ MnAt W0.heap.size (w.heap.size + 1 + 1) ((R : Int) - 1) ((C : Int) - 1) W0 (mn C a b zs (i * C + j)) wr) (fun y _ => C - (intOf y).toNat)
      case atStart => exact ⟨0, Nat.zero_le _, rfl, A1, c1, HX.out, HF.out, HW.out, HK.out⟩
      case round =>
        obtain ⟨j, hj, rfl, ⟨A2, c2, hbox, hfree, hown, hkept⟩⟩ := hrel
        have HV := Lib.hid hown
        have HL := Lib.hid hkept
        have HY := Lib.hid hbox
        have HG := Lib.hid hfree
        clear hown hkept hbox hfree
        have sz : W0.heap.size ≤ wr.heap.size := HL.out.size
        have X1 := Lib.hid (K1.out.kept HL.out (by omega) (by omega))
        obtain ⟨k0, k1, k2⟩ := X1.out
        by_cases hjl : j < C
        · by_cases e1 : i = a
          · have HE := Lib.hid e1
            clear e1
            have t1 : ((i : Int) != (a : Int)) = false := by have := HE.out; subst this; simp
            have t2 : ((i : Int) == (a : Int)) = true := by have := HE.out; subst this; simp
            go_wp2
            go_roundw
            case rel => exact ⟨j + 1, by omega, by go_num, by rw [← Nat.add_assoc, mn_skip zs hjl (.inl HE.out)]; exact ⟨A2, c2, HY.out, HG.out, HV.out, HL.out⟩⟩
            case measure => simp [intOf]; omega
          have t1 : ((i : Int) != (a : Int)) = true := by simp; omega
          have t2 : ((i : Int) == (a : Int)) = false := by simp; omega
          have T1 := Lib.hid e1
          clear e1
          by_cases e2 : j = b
          · have HE := Lib.hid e2
            clear e2
            have t3 : ((j : Int) != (b : Int)) = false := by have := HE.out; subst this; simp
            have t4 : ((j : Int) == (b : Int)) = true := by have := HE.out; subst this; simp
            go_wp2
            go_roundw
            case rel => exact ⟨j + 1, by omega, by go_num, by rw [← Nat.add_assoc, mn_skip zs hjl (.inr HE.out)]; exact ⟨A2, c2, HY.out, HG.out, HV.out, HL.out⟩⟩
            case measure => simp [intOf]; omega
          have t3 : ((j : Int) != (b : Int)) = true := by simp; omega
          have t4 : ((j : Int) == (b : Int)) = false := by simp; omega
          have T2 := Lib.hid e2
          clear e2
          have hs := ij_lt hlt hjl
          have a0 : 0 ≤ (i : Int) * (C : Int) := by rw [castM]; omega
          have a1 : (i : Int) * (C : Int) ≤ 2304 := by rw [castM]; omega
          obtain ⟨z, hz⟩ : ∃ z, zs.getD (i * C + j) 0 = z := ⟨_, rfl⟩
          have AT := Lib.hid (fun (W : World) (hW : Ints W W.heap.size A n zs) => at_spec R C A n c zs W hW hn i j _ a0 a1 (castI i C j) (by rw [HN.out]; exact hs))
          rw [hz] at AT
          have HZ := Lib.hid hz
          have hml := mn_len C a b zs (i * C + j)
          obtain ⟨l, hl⟩ : ∃ l, mn C a b zs (i * C + j) = l := ⟨_, rfl⟩
          rw [hl] at HV HY hml
          have HLL := Lib.hid hl
          clear hz hl
          obtain ⟨l0, l1, l2⟩ := HY.out
          go_wp2_with fail
          go_region_law (first
              | (refine step_append_lies _ (by rfl) _ _ _ (by rfl) W0.heap.size 2 i0 _ 1 8 Try.underlying22 HI.out.1 HI.out.2.1 HI.out.2.2.1 HI.out.2.2.2 rfl (by omega) (.slice A2 l.length c2) l.length (l.map (Value.int .i64)) (by rfl) ((HV.out.below B6.out (Nat.le_refl _)).1.alloc _)
                  ⟨w6.heap.size, 0, none⟩ 1 1 [.int .i64 z] (by rfl) (by rfl) (World.news_of_block (cs := #[.int .i64 z]) (t := 2) (fr := (0, 0)) (heap_alloc_new w6 _)) (by simp [Value.oneCell']) (by omega) (by unfold maxLen; omega) (by omega) (by simp; omega) (w6.heap.size + 1) (by simp) ?_; intro gg cap w7 hown7 hgrow hat hlt7; have O7 := Lib.hid hown7; have G7 := Lib.hid hgrow; have L7 := Lib.hid hlt7; have HA := Lib.hid hat; have K7 := Lib.hid (Kept.of_grown hgrow ((HV.out.below B6.out (Nat.le_refl _)).1.alloc _).lt); obtain ⟨m0, m1, m2⟩ := ((X1.out.below B6.out (by omega)).below (al1 w6 (Obj.cells #[.int .i64 z] 2)) (by omega)).kept K7.out (by simp; omega) (by simp; omega); obtain ⟨y0, y1, y2⟩ := ((HY.out.below B6.out (by omega)).below (al1 w6 (Obj.cells #[.int .i64 z] 2)) (by omega)).kept K7.out (by simp; omega) (by simp; omega); have g7 := ((HG.out.below B6.out (by omega)).below (al1 w6 (Obj.cells #[.int .i64 z] 2)) (by omega)).kept K7.out (by simp; omega) (by simp; omega); unfold Free at g7; clear hown7 hgrow hlt7 hat)
              | (go_simp; go_at_call 55; refine (AT.out _ (by exact (H.out.into (HB.out wr HL.out).drew))).mono ?_; rintro e w6 ⟨rfl, hb6'⟩; have hb6 := undrew hb6'; have B6 := Lib.hid hb6; have z6 := hb6.size; have y6 : w.heap.size < w6.heap.size := (by omega); have x6 : (w.heap.size + 1 + 1) < w6.heap.size := (by omega); obtain ⟨e0, e1, e2⟩ := X1.out.below hb6 (by omega); obtain ⟨f0, f1, f2⟩ := HY.out.below hb6 (by omega); clear hb6 hb6'))
          all_goals
            have hkk := Lib.hid (((HL.out.trans (Kept.of_below B6.out _ _)).alloc _).over K7.out (Nat.le_refl _))
            have hfin := Lib.hid (MnAt.push ⟨y0, y1, y2⟩ g7 O7.out L7.out s3 hkk.out)
            clear k0 k1 k2 l0 l1 l2 e0 e1 e2 f0 f1 f2 m0 m1 m2 y0 y1 y2 g7
            go_wp2
            go_roundw
            case rel => exact ⟨j + 1, by omega, by go_num, by rw [← Nat.add_assoc, mn_take zs hjl T1.out T2.out, HZ.out, HLL.out]; exact hfin.out⟩
            case measure => simp [intOf]; omega
        · obtain rfl : j = C := by omega
          go_wp2
          go_roundw
          case rel => exact ⟨i + 1, by omega, by go_num, by rw [Nat.add_mul, Nat.one_mul]; exact ⟨A2, c2, HY.out, HG.out, HV.out, HL.out⟩⟩
          case measure => simp [intOf]; omega
    · obtain rfl : i = R := by omega
      have sz : W0.heap.size ≤ wo.heap.size := HK.out.size
      obtain ⟨l0, l1, l2⟩ := HX.out
      obtain ⟨n0, n1, n2⟩ := K2.out.kept HK.out (by omega) (by omega)
      have f0 := F2.out.kept HK.out (by omega) (by omega)
      unfold Free at f0
      go_wp2
      refine bodyPost_ret (v := .agg #[.int .i64 ((i : Int) - 1), .int .i64 ((C : Int) - 1), .slice A1 (mn C a b zs (i * C)).length c1]) (by simp [results, Try.results61, n0, n1, n2, go_sem]) rfl ⟨A1, c1, rfl, ?_, ?_⟩
      · refine ((((HW.out.far (p := ⟨w.heap.size + 1, 0, none⟩) (by dsimp only; omega) _).far (p := ⟨w.heap.size + 1, 1, none⟩) (by dsimp only; omega) _).far (p := ⟨w.heap.size + 1, 2, none⟩) (by dsimp only; omega) _)).wide (by omega) ?_
        simp [World.setCell]
      · exact (((HB.out wo HK.out).setCell (by simp) _).setCell (by simp) _).setCell (by simp) _

end Go.Proofs.Ytdbljeglnhefmaa
