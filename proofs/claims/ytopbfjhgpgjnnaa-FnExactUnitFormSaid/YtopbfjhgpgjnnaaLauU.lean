/- Contracts of the functions that bring a polynomial into its form up to units, the program's and the specification's. No condition but those that each theorem names. -/
import Derived.Test.YtopbfjhgpgjnnaaLauT
namespace Go.Proofs.Ytopbfjhgpgjnnaa
open Go.RowKit

/-- The first k numbers with the opposite sign. -/
def negd (k : Nat) (zs : List Int) : List Int := (zs.take k).map (fun x => -x) ++ zs.drop k
theorem negd_zero (zs : List Int) : negd 0 zs = zs := by simp [negd]
theorem negd_full {zs : List Int} {n : Nat} (h : zs.length = n) : negd n zs = zs.map (fun x => -x) := by simp [negd, ← h]
theorem negd_at {zs : List Int} {k : Nat} (h : k < zs.length) : (negd k zs).getD k 0 = zs.getD k 0 := by
  unfold negd
  rw [List.getD_eq_getElem?_getD, List.getElem?_append_right (by simp; omega)]
  simp [show min k zs.length = k by omega]
theorem negd_set {zs : List Int} {k : Nat} (h : k < zs.length) : (negd k zs).set k (-(zs.getD k 0)) = negd (k + 1) zs := by
  have hk : zs.getD k 0 = zs[k] := by simp [List.getElem?_eq_getElem h]
  rw [hk]
  apply List.ext_getElem
  · simp [negd]; omega
  · intro i h1 h2
    simp only [negd, List.getElem_set, List.getElem_append, List.length_map, List.length_take, List.getElem_map, List.getElem_take, List.getElem_drop]
    by_cases e : k = i
    · subst e
      rw [if_pos rfl, dif_pos (by omega)]
    · rw [if_neg e]
      by_cases e2 : i < min k zs.length
      · rw [dif_pos e2, dif_pos (by omega)]
      · rw [dif_neg e2, dif_neg (by omega)]
        congr 1
        omega
def unitL (zs : List Int) : List Int := if zs.getD 0 0 < 0 then zs.map (fun x => -x) else zs
theorem unitL_len (zs : List Int) : (unitL zs).length = zs.length := by unfold unitL; split <;> simp
theorem unitL_at {zs : List Int} {k : Nat} (h : k < zs.length) : (unitL zs).getD k 0 = if zs.getD 0 0 < 0 then -(zs.getD k 0) else zs.getD k 0 := by
  unfold unitL
  split
  · simp [List.getElem?_eq_getElem h]
  · rfl

section
variable (r : Int) (A : Option Addr) (n c : Nat) (zs : List Int) (w : World) (h : Ints w w.heap.size A n zs) (hn : n ≤ 1048576)
include h hn

set_option maxHeartbeats 2000000 in
theorem unit_impl_no (hP : ¬ Lau.LOk r zs) : Calls Try.prog 32 #[.agg #[.int .i64 r, .slice A n c]] w (ResL1 w 0 []) := by
  have HL := Lib.hid (isLi_no r A n c zs _ (h.into (al2 w (Obj.cells #[.int .i64 r, .slice A n c] 27) (Obj.cells #[.int .i64 0, .slice none 0 0] 27))) hn hP)
  have K0 := Lib.hid (BoxG.new (w.alloc (Obj.cells #[.int .i64 r, .slice A n c] 27)) 27 (.int .i64 0) (.slice none 0 0))
  have F0 := Lib.hid (Free.new (w.alloc (Obj.cells #[.int .i64 r, .slice A n c] 27)) 27 #[.int .i64 0, .slice none 0 0])
  simp only [World.size_alloc] at K0 F0
  clear h hP
  go_enter Try.func32, Try.ntmps32
  go_wp2_with fail
  refine HL.out.mono ?_
  rintro e1 w1 ⟨rfl, hb⟩
  obtain ⟨n0, n1⟩ := K0.out.below hb (by simp)
  have f0 := F0.out.below hb (by simp)
  unfold Free at f0
  have HB := Lib.hid (on2 _ _ hb)
  clear hb
  go_wp2
  refine bodyPost_ret (v := .agg #[.int .i64 0, .slice none 0 0]) (by simp [results, Try.results32, n0, n1, go_sem]) rfl ?_
  exact ⟨none, 0, rfl, Mine.none_ _ _ _ _, (HB.out.setCell (by simp) _).setCell (by simp) _⟩
set_option maxHeartbeats 2000000 in
theorem unit_spec_no (hP : ¬ Lau.LOk r zs) : Calls Try.prog 31 #[.agg #[.int .i64 r, .slice A n c]] w (ResL1 w 0 []) := by
  have HL := Lib.hid (isLs_no r A n c zs _ (h.into (al2 w (Obj.cells #[.int .i64 r, .slice A n c] 27) (Obj.cells #[.int .i64 0, .slice none 0 0] 27))) hn hP)
  have K0 := Lib.hid (BoxG.new (w.alloc (Obj.cells #[.int .i64 r, .slice A n c] 27)) 27 (.int .i64 0) (.slice none 0 0))
  have F0 := Lib.hid (Free.new (w.alloc (Obj.cells #[.int .i64 r, .slice A n c] 27)) 27 #[.int .i64 0, .slice none 0 0])
  simp only [World.size_alloc] at K0 F0
  clear h hP
  go_enter Try.func31, Try.ntmps31
  go_wp2_with fail
  refine HL.out.mono ?_
  rintro e1 w1 ⟨rfl, hb⟩
  obtain ⟨n0, n1⟩ := K0.out.below hb (by simp)
  have f0 := F0.out.below hb (by simp)
  unfold Free at f0
  have HB := Lib.hid (on2 _ _ hb)
  clear hb
  go_wp2
  refine bodyPost_ret (v := .agg #[.int .i64 0, .slice none 0 0]) (by simp [results, Try.results31, n0, n1, go_sem]) rfl ?_
  exact ⟨none, 0, rfl, Mine.none_ _ _ _ _, (HB.out.setCell (by simp) _).setCell (by simp) _⟩

set_option maxHeartbeats 4000000 in
theorem unit_impl_yes (hP : Lau.LOk r zs) : Calls Try.prog 32 #[.agg #[.int .i64 r, .slice A n c]] w (ResL1 w 0 (unitL zs)) := by
  have HL := Lib.hid (isLi_yes r A n c zs _ (h.into (al2 w (Obj.cells #[.int .i64 r, .slice A n c] 27) (Obj.cells #[.int .i64 0, .slice none 0 0] 27))) hn hP)
  have K0 := Lib.hid (BoxG.new (w.alloc (Obj.cells #[.int .i64 r, .slice A n c] 27)) 27 (.int .i64 0) (.slice none 0 0))
  have F0 := Lib.hid (Free.new (w.alloc (Obj.cells #[.int .i64 r, .slice A n c] 27)) 27 #[.int .i64 0, .slice none 0 0])
  have X0 := Lib.hid ((BoxG.new w 27 (.int .i64 r) (.slice A n c)).below (al1 _ (Obj.cells #[.int .i64 0, .slice none 0 0] 27)) (by simp))
  simp only [World.size_alloc] at K0 F0
  have HP := Lib.hid hP
  have hlow := hP.low
  have H := Lib.hid h
  have hl := Lib.hid h.1
  have n160 : n ≤ 160 := by have := hP.len; have := hl.out; omega
  clear h hP
  go_enter Try.func32, Try.ntmps32
  go_wp2_with fail
  refine HL.out.mono ?_
  rintro e2 w1 ⟨rfl, hb⟩
  have s1 : w.heap.size + 1 < w1.heap.size := by have := hb.size; simp at this; omega
  have K1 := Lib.hid (K0.out.below hb (by simp))
  have F1 := Lib.hid (F0.out.below hb (by simp))
  have X1 := Lib.hid (X0.out.below hb (by simp; omega))
  have HB := Lib.hid (on2 _ _ hb)
  clear hb K0 F0 X0
  obtain ⟨x0, x1⟩ := X1.out
  go_wp2_with fail
  refine (clone_any A n c zs _ (H.out.into HB.out) hn).mono ?_
  rintro e5 w5 ⟨A5, c5, rfl, q1, q2, hown, hb⟩
  have s5 : w1.heap.size ≤ w5.heap.size := hb.size
  have K5 := Lib.hid (K1.out.below hb s1)
  have F5 := Lib.hid (F1.out.below hb s1)
  have HB5 := Lib.hid (HB.out.trans (hb.mono (by omega)))
  have O5 := Lib.hid hown
  clear hb hown x0 x1 K1 F1 HB
  by_cases n0 : n = 0
  · subst n0
    have HZ := Lib.hid (show unitL zs = zs from by rw [List.length_eq_zero_iff.1 hl.out]; rfl)
    obtain ⟨n0, n1⟩ := K5.out
    have f0 := F5.out
    unfold Free at f0
    go_wp2
    refine bodyPost_ret (v := .agg #[.int .i64 0, .slice A5 0 c5]) (by simp [results, Try.results32, n0, n1, go_sem]) rfl ?_
    rw [HZ.out]
    have hf := ResL1.fin (w := w) (w' := w5) (b := w.heap.size + 1) (r := 0) (c := c5) (x := .int .i64 0) (y := .slice A5 0 c5) (A := A5) (zs := zs) (lo := w1.heap.size) (hi := w5.heap.size) (by rw [hl.out]; exact O5.out.mine) HB5.out (by omega) (.inl s1) (by omega) (Nat.le_refl _)
    rw [hl.out] at hf
    exact hf
  · obtain ⟨g, z0, rfl, _, _, hz0, hc0, _⟩ := O5.out.at_ (k := 0) (by omega)
    have d1 : decide ((0 : Int) < (n : Int)) = true := by simp; omega
    have p0 : (0 : Int) < (n : Int) := by omega
    have p1 : 0 < n := by omega
    have ZZ := Lib.hid hz0
    clear hz0 n0
    by_cases hz : z0 < 0
    · have d2 : decide (z0 < 0) = true := by simpa using hz
      have HU := Lib.hid (show unitL zs = zs.map (fun x => -x) from by unfold unitL; rw [ZZ.out, if_pos hz])
      go_wp2
      clear hc0
      go_loopw [23, 4] (fun x _ wr => ∃ k : Nat, k ≤ n ∧ x = .int .i64 k ∧ Own wr w1.heap.size w5.heap.size (some ⟨g, 0, none⟩) n c5 (negd k zs) ∧ Kept w1.heap.size w5.heap.size w5 wr) (fun x _ _ => n - (intOf x).toNat)
      case atStart => exact ⟨0, Nat.zero_le _, rfl, by rw [negd_zero]; exact O5.out, Kept.refl _ _ _⟩
      case round =>
        obtain ⟨k, hk, rfl, hown, hkept⟩ := hrel
        have HO := Lib.hid hown
        have HK := Lib.hid hkept
        clear hown hkept
        by_cases hlt : k < n
        · obtain ⟨g', z, eg, hlo, hhi, hz2, hc, hf⟩ := HO.out.at_ hlt
          cases eg
          rw [negd_at (by rw [hl.out]; exact hlt)] at hz2
          have hbz := HP.out.ent' k
          rw [hz2] at hbz
          obtain ⟨b1, b2⟩ := hbz
          have Z2 := Lib.hid hz2
          have i2 : (0 : Int) ≤ (k : Int) := by omega
          have i3 : (k : Int) < (n : Int) := by omega
          have wsn : IntKind.i64.wrap (-z) = -z := IntWalk.i64_in _ (by omega)
          clear hz2
          go_wp2
          go_roundw
          case rel => exact ⟨k + 1, by omega, by go_num, by rw [← negd_set (by rw [hl.out]; exact hlt), Z2.out]; exact HO.out.set_ _ _, HK.out.set_ (p := ⟨g, k, none⟩) hlo hhi _⟩
          case measure => simp [intOf]; omega
        · obtain rfl : k = n := by omega
          have s6 : w5.heap.size ≤ wr.heap.size := HK.out.size
          obtain ⟨n0, n1⟩ := K5.out.kept HK.out (by omega) (by omega)
          have f0 := F5.out.kept HK.out (by omega) (by omega)
          unfold Free at f0
          have ML := Lib.hid (show (zs.map (fun x => -x)).length = k by rw [List.length_map]; exact hl.out)
          go_wp2
          refine bodyPost_ret (v := .agg #[.int .i64 0, .slice (some ⟨g, 0, none⟩) k c5]) (by simp [results, Try.results32, n0, n1, go_sem]) rfl ?_
          rw [HU.out]
          have hm := HO.out.mine
          rw [negd_full hl.out] at hm
          have hf := ResL1.fin (w := w) (w' := wr) (b := w.heap.size + 1) (r := 0) (c := c5) (x := .int .i64 0) (y := .slice (some ⟨g, 0, none⟩) k c5) (A := some ⟨g, 0, none⟩) (zs := zs.map (fun x => -x)) (lo := w1.heap.size) (hi := w5.heap.size) (by rw [ML.out]; exact hm) (HB5.out.trans (HK.out.below (by omega) (by omega))) (by omega) (.inl s1) (by omega) s6
          rw [ML.out] at hf
          exact hf
    · have d2 : decide (z0 < 0) = false := by simp; omega
      have HU := Lib.hid (show unitL zs = zs from by unfold unitL; rw [ZZ.out, if_neg hz])
      obtain ⟨n0, n1⟩ := K5.out
      have f0 := F5.out
      unfold Free at f0
      go_wp2
      refine bodyPost_ret (v := .agg #[.int .i64 0, .slice (some ⟨g, 0, none⟩) n c5]) (by simp [results, Try.results32, n0, n1, go_sem]) rfl ?_
      rw [HU.out]
      have hf := ResL1.fin (w := w) (w' := w5) (b := w.heap.size + 1) (r := 0) (c := c5) (x := .int .i64 0) (y := .slice (some ⟨g, 0, none⟩) n c5) (A := some ⟨g, 0, none⟩) (zs := zs) (lo := w1.heap.size) (hi := w5.heap.size) (by rw [hl.out]; exact O5.out.mine) HB5.out (by omega) (.inl s1) (by omega) (Nat.le_refl _)
      rw [hl.out] at hf
      exact hf

set_option maxHeartbeats 4000000 in
theorem unit_spec_yes (hP : Lau.LOk r zs) : Calls Try.prog 31 #[.agg #[.int .i64 r, .slice A n c]] w (ResL1 w 0 (unitL zs)) := by
  have HL := Lib.hid (isLs_yes r A n c zs _ (h.into (al2 w (Obj.cells #[.int .i64 r, .slice A n c] 27) (Obj.cells #[.int .i64 0, .slice none 0 0] 27))) hn hP)
  have K0 := Lib.hid (BoxG.new (w.alloc (Obj.cells #[.int .i64 r, .slice A n c] 27)) 27 (.int .i64 0) (.slice none 0 0))
  have F0 := Lib.hid (Free.new (w.alloc (Obj.cells #[.int .i64 r, .slice A n c] 27)) 27 #[.int .i64 0, .slice none 0 0])
  have X0 := Lib.hid ((BoxG.new w 27 (.int .i64 r) (.slice A n c)).below (al1 _ (Obj.cells #[.int .i64 0, .slice none 0 0] 27)) (by simp))
  simp only [World.size_alloc] at K0 F0
  have HP := Lib.hid hP
  have hlow := hP.low
  have H := Lib.hid h
  have hl := Lib.hid h.1
  have n160 : n ≤ 160 := by have := hP.len; have := hl.out; omega
  clear h hP
  obtain ⟨ti, hi0, hz0, hz1, hz2⟩ := info_parts info2
  have HI := Lib.hid (And.intro hi0 (And.intro hz0 (And.intro hz1 hz2)))
  clear hi0 hz0 hz1 hz2
  go_enter Try.func31, Try.ntmps31
  go_wp2_with fail
  refine HL.out.mono ?_
  rintro e2 w1 ⟨rfl, hb⟩
  have s1 : w.heap.size + 1 < w1.heap.size := by have := hb.size; simp at this; omega
  have K1 := Lib.hid (K0.out.below hb (by simp))
  have F1 := Lib.hid (F0.out.below hb (by simp))
  have X1 := Lib.hid (X0.out.below hb (by simp; omega))
  have HB := Lib.hid (on2 _ _ hb)
  clear hb K0 F0 X0
  obtain ⟨x0, x1⟩ := X1.out
  by_cases n0 : n = 0
  · subst n0
    have HZ := Lib.hid (show unitL zs = [] from by rw [List.length_eq_zero_iff.1 hl.out]; rfl)
    obtain ⟨n0, n1⟩ := K1.out
    have f0 := F1.out
    unfold Free at f0
    go_wp2
    refine bodyPost_ret (v := .agg #[.int .i64 0, .slice none 0 0]) (by simp [results, Try.results31, n0, n1, go_sem]) rfl ?_
    rw [HZ.out]
    exact ⟨none, 0, rfl, Mine.none_ _ _ _ _, (HB.out.setCell (by simp) _).setCell (by simp) _⟩
  · have m0 : ((n : Int) == 0) = false := by simp; omega
    have p1 : 0 < n := by omega
    have p0 : (0 : Int) < (n : Int) := by omega
    clear n0
    go_wp2
    have G0 := Lib.hid (BoxG.new w1 27 (.int .i64 0) (.slice none 0 0))
    have FG := Lib.hid (Free.new w1 27 #[.int .i64 0, .slice none 0 0])
    have K2 := Lib.hid (K1.out.below (al1 w1 (Obj.cells #[.int .i64 0, .slice none 0 0] 27)) s1)
    have F2 := Lib.hid (F1.out.below (al1 w1 (Obj.cells #[.int .i64 0, .slice none 0 0] 27)) s1)
    have X2 := Lib.hid (X1.out.below (al1 w1 (Obj.cells #[.int .i64 0, .slice none 0 0] 27)) (by omega))
    have D0 := Lib.hid (HB.out.trans ((al1 w1 (Obj.cells #[.int .i64 0, .slice none 0 0] 27)).mono (by omega)))
    obtain ⟨W0, hW0⟩ : ∃ W0, W0 = w1.alloc (Obj.cells #[.int .i64 0, .slice none 0 0] 27) := ⟨_, rfl⟩
    have s0 : W0.heap.size = w1.heap.size + 1 := by rw [hW0]; simp
    rw [← hW0] at G0 FG K2 F2 X2 D0
    rw [← hW0]
    clear hW0 x0 x1 K1 F1 X1 HB
    have s0' : w1.heap.size < W0.heap.size := by omega
    have S0 := Lib.hid s0
    clear s0
    go_loopw [4] (fun x wr => ∃ k : Nat, k ≤ n ∧ x = .int .i64 k ∧ LtAt W0.heap.size w1.heap.size 0 W0 ((unitL zs).take k) wr) (fun x _ => n - (intOf x).toNat)
    case atStart => exact ⟨0, Nat.zero_le _, rfl, none, 0, G0.out, FG.out, Own.none_ _ _ _, Kept.refl _ _ _⟩
    case round =>
      obtain ⟨k, hk, rfl, ⟨A2, c2, hbox, hfree, hown, hkept⟩⟩ := hrel
      have HX := Lib.hid hbox
      have HF := Lib.hid hfree
      have HO := Lib.hid hown
      have HK := Lib.hid hkept
      have sz : W0.heap.size ≤ wr.heap.size := hkept.size
      have hlen : ((unitL zs).take k).length ≤ 160 := by rw [List.length_take, unitL_len]; have := hl.out; omega
      have DB := Lib.hid (D0.out.trans (hkept.below (B := w.heap.size) (by omega) (by omega)))
      clear hbox hfree hown hkept
      obtain ⟨m0, m1⟩ := X2.out.kept HK.out (by omega) (by omega)
      by_cases hlt : k < n
      · have Q := Lib.hid (takeSnoc (l := unitL zs) (j := k) (by rw [unitL_len]; have := hl.out; omega))
        obtain ⟨l, hl2⟩ : ∃ l, (unitL zs).take k = l := ⟨_, rfl⟩
        rw [hl2] at HO hlen Q HX
        clear hl2
        obtain ⟨b, off, z, rfl, _, hz, hc⟩ := (H.out.below DB.out).at_z hlt
        obtain ⟨b', off', z0, eb, _, hz0, hc0⟩ := (H.out.below DB.out).at_z p1
        cases eb
        have hc0' : wr.cell? ⟨b, off, none⟩ = some (.int .i64 z0) := by simpa using hc0
        have Q2 := Lib.hid (show (unitL zs).getD k 0 = if z0 < 0 then -z else z from by rw [unitL_at (by have := hl.out; omega), hz, hz0])
        have hbz := HP.out.ent' k
        rw [hz] at hbz
        obtain ⟨b1, b2⟩ := hbz
        have i2 : (0 : Int) ≤ (k : Int) := by omega
        have i3 : (k : Int) < (n : Int) := by omega
        have wsn : IntKind.i64.wrap (-z) = -z := IntWalk.i64_in _ (by omega)
        clear hz hz0 hc0
        obtain ⟨u, hu⟩ : ∃ u, (if z0 < 0 then -z else z) = u := ⟨_, rfl⟩
        have HNW := Lib.hid (fun u : Int => World.news_of_block (cs := #[.int .i64 u]) (t := 2) (fr := (0, 0)) (heap_alloc_new wr _))
        have HOW := Lib.hid (fun u : Int => (HO.out.al (Nat.le_refl _) (al1 wr (Obj.cells #[.int .i64 u] 2))).1)
        obtain ⟨l0, l1⟩ := HX.out
        by_cases hz : z0 < 0
        all_goals
          first
            | (have d2 : decide (z0 < 0) = true := by simpa using hz)
            | (have d2 : decide (z0 < 0) = false := by simpa using hz)
          first
            | (rw [if_pos hz] at hu; have Q3 := Lib.hid (show (unitL zs).getD k 0 = -z from by rw [Q2.out, if_pos hz]))
            | (rw [if_neg hz] at hu; have Q3 := Lib.hid (show (unitL zs).getD k 0 = z from by rw [Q2.out, if_neg hz]))
          subst hu
          have Q4 := Q.out
          rw [Q3.out] at Q4
          have Q5 := Lib.hid Q4
          clear Q4 Q3
          go_wp2_with (at_builtin; refine wpList_append_lies _ rfl _ _ 22 rfl W0.heap.size 2 ti _ 1 8 Try.underlying22 HI.out.1 HI.out.2.1 HI.out.2.2.1 HI.out.2.2.2 rfl (by decide) (.slice A2 l.length c2) l.length (l.map (Value.int .i64)) rfl (by exact HOW.out _) ⟨wr.heap.size, 0, none⟩ 1 1 [.int .i64 _] rfl rfl (by exact HNW.out _) (by simp [Value.oneCell']) (by omega) (by unfold maxLen; omega) (by omega) (by simp <;> omega) (wr.heap.size + 1) (by simp) ?_; intro gg cap w7 hown7 hgrow hat hlt7; have O7 := Lib.hid hown7; have L7 := Lib.hid hlt7; have K7 := Lib.hid (Kept.of_grown hgrow (HOW.out _).lt); obtain ⟨y0, y1⟩ := (HX.out.below (al1 wr (Obj.cells #[.int .i64 _] 2)) (by omega)).kept K7.out (by simp; omega) (by simp; omega); have g7 := (HF.out.below (al1 wr (Obj.cells #[.int .i64 _] 2)) (by omega)).kept K7.out (by simp; omega) (by simp; omega); unfold Free at g7; clear hown7 hgrow hlt7 hat)
          have hkk := Lib.hid ((HK.out.alloc _).over K7.out (by omega))
          have hfin := Lib.hid (LtAt.push ⟨y0, y1⟩ g7 O7.out L7.out (by omega) hkk.out)
          clear l0 l1 y0 y1 g7
          go_wp2
          go_roundw
          case rel => exact ⟨k + 1, by omega, by go_num, by rw [Q5.out]; exact hfin.out⟩
          case measure => simp [intOf]; omega
      · obtain rfl : k = n := by omega
        have hx : (unitL zs).take k = unitL zs := List.take_of_length_le (by rw [unitL_len]; have := hl.out; omega)
        rw [hx] at HO HX
        clear hx
        have i3 : ¬ (k : Int) < (k : Int) := by omega
        obtain ⟨l0, l1⟩ := HX.out
        obtain ⟨n0, n1⟩ := K2.out.kept HK.out (by omega) (by omega)
        have f0 := F2.out.kept HK.out (by omega) (by omega)
        unfold Free at f0
        go_wp2
        refine bodyPost_ret (v := .agg #[.int .i64 0, .slice A2 (unitL zs).length c2]) (by simp [results, Try.results31, n0, n1, go_sem]) rfl ?_
        exact ResL1.fin HO.out.mine DB.out (by omega) (.inl (by omega)) (by omega) (Nat.le_refl _)
end

end Go.Proofs.Ytopbfjhgpgjnnaa
