/- The matrix of exponent sums of a presentation: the program's exponentSums. No condition but those that each theorem names. -/
import Derived.Test.YtpojkahlllochaaWdP
import Derived.Test.YtpojkahlllochaaMatJ
import Derived.Test.YtpojkahlllochaaMatG
namespace Go.Proofs.Ytpojkahlllochaa
open Go.RowKit

namespace Wd
/-- How often a generator occurs in a relator, its inverse counted off. -/
def cnt (z : List Int) (g : Int) : Int := (z.count g : Int) - (z.count (-g) : Int)
theorem cnt_nil (g : Int) : cnt [] g = 0 := by simp [cnt]
theorem cnt_snoc (z : List Int) (x g : Int) (hg : 0 < g) : cnt (z ++ [x]) g = cnt z g + (if x = g then 1 else if x = -g then -1 else 0) := by
  simp only [cnt, List.count_append, List.count_singleton]
  by_cases h1 : x = g
  · subst h1
    have : (x == -x) = false := by simp; omega
    simp [this]; omega
  · by_cases h2 : x = -g
    · have : (x == g) = false := by simpa using h1
      subst h2
      simp [this, h1]; omega
    · have e1 : (x == g) = false := by simpa using h1
      have e2 : (x == -g) = false := by simpa using h2
      simp [e1, e2, h1, h2]
theorem cnt_take {z : List Int} {k : Nat} (h : k < z.length) (g : Int) (hg : 0 < g) : cnt (z.take (k + 1)) g = cnt (z.take k) g + (if z.getD k 0 = g then 1 else if z.getD k 0 = -g then -1 else 0) := by
  rw [take_snoc z h, cnt_snoc _ _ _ hg]
theorem cnt_le (z : List Int) (g : Int) : -(z.length : Int) ≤ cnt z g ∧ cnt z g ≤ z.length := by
  have h1 := List.count_le_length (a := g) (l := z)
  have h2 := List.count_le_length (a := -g) (l := z)
  unfold cnt
  omega
/-- A list of the entries of a matrix. -/
def IsM (R C : Nat) (d : List Int) (F : Nat → Nat → Int) : Prop := d.length = R * C ∧ ∀ a b, a < R → b < C → d.getD (a * C + b) 0 = F a b
theorem spot_ne {C a b i j : Nat} (hb : b < C) (hj : j < C) (h : a * C + b = i * C + j) : a = i ∧ b = j := by
  have h1 : (a * C + b) / C = a := by rw [Nat.mul_comm, Nat.mul_add_div (by omega), Nat.div_eq_of_lt hb]; rfl
  have h2 : (i * C + j) / C = i := by rw [Nat.mul_comm, Nat.mul_add_div (by omega), Nat.div_eq_of_lt hj]; rfl
  have : a = i := by rw [← h1, ← h2, h]
  subst this
  exact ⟨rfl, by omega⟩
theorem spot_lt {R C a b : Nat} (ha : a < R) (hb : b < C) : a * C + b < R * C := by
  have : (a + 1) * C ≤ R * C := Nat.mul_le_mul_right C ha
  rw [Nat.add_mul] at this
  omega
theorem IsM.set_ {R C : Nat} {d : List Int} {F : Nat → Nat → Int} (h : IsM R C d F) {i j : Nat} (hi : i < R) (hj : j < C) (v : Int) : IsM R C (d.set (i * C + j) v) (fun a b => if a = i ∧ b = j then v else F a b) :=
  ⟨by rw [List.length_set]; exact h.1, fun a b ha hb => by
    have hlt := spot_lt hi hj
    show _ = (if a = i ∧ b = j then v else F a b)
    by_cases e : a = i ∧ b = j
    · obtain ⟨rfl, rfl⟩ := e
      rw [if_pos ⟨rfl, rfl⟩, List.getD_eq_getElem?_getD, List.getElem?_set_self (by rw [h.1]; exact hlt)]
      rfl
    · rw [if_neg e, List.getD_eq_getElem?_getD, List.getElem?_set_ne (fun e' => e (spot_ne hb hj e'.symm)), ← List.getD_eq_getElem?_getD]
      exact h.2 a b ha hb⟩
theorem IsM.congr {R C : Nat} {d : List Int} {F G : Nat → Nat → Int} (h : IsM R C d F) (he : ∀ a b, a < R → b < C → F a b = G a b) : IsM R C d G := ⟨h.1, fun a b ha hb => (h.2 a b ha hb).trans (he a b ha hb)⟩
theorem IsM.zeros (R C : Nat) : IsM R C (List.replicate (R * C) 0) (fun _ _ => 0) := ⟨by simp, fun a b ha hb => by
  rw [List.getD_eq_getElem?_getD, List.getElem?_replicate, if_pos (spot_lt ha hb)]; rfl⟩
theorem IsM.unique {R C : Nat} {d e : List Int} {F : Nat → Nat → Int} (h : IsM R C d F) (h' : IsM R C e F) : d = e := by
  apply List.ext_getElem
  · rw [h.1, h'.1]
  · intro k h1 h2
    rw [h.1] at h1
    have hC : 0 < C := by
      rcases Nat.eq_zero_or_pos C with e | e
      · rw [e] at h1; omega
      · exact e
    have ha : k / C < R := Nat.div_lt_of_lt_mul (by rw [Nat.mul_comm]; exact h1)
    have hb : k % C < C := Nat.mod_lt _ hC
    have hk : k / C * C + k % C = k := by rw [Nat.mul_comm]; exact Nat.div_add_mod k C
    have e1 := h.2 _ _ ha hb
    have e2 := h'.2 _ _ ha hb
    rw [hk] at e1 e2
    rw [← e2] at e1
    rw [List.getD_eq_getElem?_getD, List.getD_eq_getElem?_getD, List.getElem?_eq_getElem (by rw [h.1]; exact h1), List.getElem?_eq_getElem h2] at e1
    exact e1
/-- The entries behind J columns and I letters of the next. -/
def sums (rs : List Rw) (J I : Nat) (a b : Nat) : Int := if b < J then cnt (rs.getD b nilRw).zs ((a : Int) + 1) else if b = J then cnt ((rs.getD J nilRw).zs.take I) ((a : Int) + 1) else 0
theorem sums_step {R C : Nat} {rs : List Rw} {d : List Int} {J I : Nat} {x y : Int} (h : IsM R C d (sums rs J I)) (hJ : J < C) (hI : I < (rs.getD J nilRw).zs.length) (hx : (rs.getD J nilRw).zs.getD I 0 = x) {i : Nat} (hi : i < R) (hy : y = d.getD (i * C + J) 0 + (if 0 < x then 1 else -1)) (hxi : x = (i : Int) + 1 ∨ x = -((i : Int) + 1)) :
    IsM R C (d.set (i * C + J) y) (sums rs J (I + 1)) := by
  refine (h.set_ hi hJ y).congr fun a b ha hb => ?_
  have hat := h.2 i J hi hJ
  by_cases e : b = J
  · subst e
    have hs : sums rs b (I + 1) a b = cnt ((rs.getD b nilRw).zs.take I) ((a : Int) + 1) + (if x = (a : Int) + 1 then 1 else if x = -((a : Int) + 1) then -1 else 0) := by
      unfold sums
      rw [if_neg (by omega), if_pos rfl, cnt_take hI _ (by omega), hx]
    rw [hs]
    by_cases ea : a = i
    · subst ea
      rw [if_pos ⟨rfl, rfl⟩, hy, hat]
      unfold sums
      rw [if_neg (by omega), if_pos rfl]
      rcases hxi with e1 | e1
      · rw [if_pos (by omega), if_pos e1]
      · rw [if_neg (by omega), if_neg (by omega), if_pos e1]
    · rw [if_neg (fun e' => ea e'.1), if_neg (by omega), if_neg (by omega)]
      unfold sums
      rw [if_neg (by omega), if_pos rfl]
      omega
  · rw [if_neg (fun e' => e e'.2)]
    unfold sums
    by_cases e1 : b < J
    · rw [if_pos e1, if_pos e1]
    · rw [if_neg e1, if_neg e, if_neg e1, if_neg e]
theorem sums_next {R C : Nat} {rs : List Rw} {d : List Int} {J I : Nat} (h : IsM R C d (sums rs J I)) (hI : (rs.getD J nilRw).zs.length ≤ I) : IsM R C d (sums rs (J + 1) 0) := h.congr fun a b _ _ => by
  unfold sums
  by_cases e1 : b < J
  · rw [if_pos e1, if_pos (by omega)]
  · by_cases e2 : b = J
    · subst e2
      rw [if_neg e1, if_pos rfl, if_pos (by omega), List.take_of_length_le hI]
    · rw [if_neg e1, if_neg e2, if_neg (by omega)]
      by_cases e3 : b = J + 1
      · rw [if_pos e3]; simp [cnt_nil]
      · rw [if_neg e3]
theorem sums_zero (rs : List Rw) (a b : Nat) : sums rs 0 0 a b = 0 := by
  unfold sums
  rw [if_neg (by omega)]
  split
  · simp [cnt_nil]
  · rfl
/-- The matrix' entries. -/
def expo (rs : List Rw) (a b : Nat) : Int := cnt (rs.getD b nilRw).zs ((a : Int) + 1)
theorem sums_all {R C : Nat} {rs : List Rw} {d : List Int} {J : Nat} (h : IsM R C d (sums rs J 0)) (hJ : C ≤ J) : IsM R C d (expo rs) := h.congr fun a b _ hb => by
  unfold sums expo
  rw [if_pos (by omega)]
theorem sums_small {R C : Nat} {rs : List Rw} {d : List Int} {J I : Nat} (h : IsM R C d (sums rs J I)) (hz : ∀ j, (rs.getD j nilRw).zs.length ≤ 120) {i j : Nat} (hi : i < R) (hj : j < C) : -120 ≤ d.getD (i * C + j) 0 ∧ d.getD (i * C + j) 0 ≤ 120 := by
  rw [h.2 i j hi hj]
  unfold sums
  split
  · have := cnt_le (rs.getD j nilRw).zs ((i : Int) + 1); have := hz j; omega
  · split
    · have h1 := cnt_le ((rs.getD J nilRw).zs.take I) ((i : Int) + 1)
      have h2 := hz J
      have h3 : ((rs.getD J nilRw).zs.take I).length ≤ (rs.getD J nilRw).zs.length := by rw [List.length_take]; exact Nat.min_le_right _ _
      omega
    · omega
end Wd
theorem mg_sign (x : Int) (h : x ≠ 0) : x.tdiv (mg x) = (if 0 < x then 1 else -1) ∧ 0 < mg x := by
  by_cases h0 : x < 0
  · rw [← mg_of_neg h0, if_neg (by omega)]
    refine ⟨?_, by omega⟩
    rw [Int.tdiv_neg, Int.tdiv_self h]
  · rw [← mg_of_nonneg h0, if_pos (by omega)]
    exact ⟨Int.tdiv_self h, by omega⟩

/-- A matrix whose entries lie in new memory. -/
def ResMx (w : World) (R C : Nat) (F : Nat → Nat → Int) (e : Ending) (w' : World) : Prop :=
  ∃ g d, e = .returned (.agg #[.int .i64 R, .int .i64 C, .slice (some ⟨g, 0, none⟩) (R * C) (R * C)]) ∧ Own w' w.heap.size w'.heap.size (some ⟨g, 0, none⟩) (R * C) (R * C) d ∧ Wd.IsM R C d F ∧ Below w.heap.size w w'

set_option maxRecDepth 100000 in
set_option maxHeartbeats 16000000 in
theorem sums_impl (R : Nat) (A : Option Addr) (c : Nat) (rs : List Rw) (w : World) (h : RdS w w.heap.size A rs) (hp : Wd.isP R (vals rs) = true) :
    Calls Try.prog 75 #[.agg #[.int .i64 R, .slice A rs.length c]] w (ResMx w R rs.length (Wd.expo rs)) := by
  obtain ⟨_, r24, r48, hrow⟩ := Wd.isP_iff.1 hp
  rw [vals_len] at r48
  have ROW := Lib.hid (show ∀ j, j < rs.length → Wd.isR R (rs.getD j nilRw).zs = true from fun j hj => hrow _ (vals_mem hj))
  have Z120 := Lib.hid (show ∀ j, (rs.getD j nilRw).zs.length ≤ 120 from fun j => by
    rcases Nat.lt_or_ge j rs.length with hj | hj
    · exact (Wd.isW_fit (Wd.isR_iff.1 (hrow _ (vals_mem hj))).1).1
    · rw [List.getD_eq_getElem?_getD, List.getElem?_eq_none hj]; exact Nat.zero_le _)
  have H := Lib.hid h
  obtain ⟨C, hC⟩ : ∃ C, rs.length = C := ⟨_, rfl⟩
  have HN := Lib.hid hC
  rw [hC] at r48 ⊢
  have rc : R * C ≤ 1152 := by have := Nat.mul_le_mul (show R ≤ 24 by omega) r48; omega
  have K0 := Lib.hid (BoxG.new w 31 (.int .i64 R) (.slice A C c))
  have K1 := Lib.hid (Box3.new (w.alloc (Obj.cells #[.int .i64 R, .slice A C c] 31)) 77 (.int .i64 0) (.int .i64 0) (.slice none 0 0))
  have F1 := Lib.hid (Free.new (w.alloc (Obj.cells #[.int .i64 R, .slice A C c] 31)) 77 #[.int .i64 0, .int .i64 0, .slice none 0 0])
  clear h hp hrow hC
  go_enter Try.func75, Try.ntmps75
  go_wp2_with fail
  refine (zero_impl R C (R * C) _ (by rw [castM]; omega) (by rw [castM]; omega) (castM _ _)).mono ?_
  rintro e w1 ⟨g, rfl, hblk, hg1, hg2, hb⟩
  simp only [World.size_alloc] at hg1 K1 F1
  have z1 : w.heap.size + 2 ≤ w1.heap.size := by have := hb.size; simp at this; omega
  have X0 := Lib.hid ((K0.out.below (al1 _ _) (by simp)).below hb (by simp; omega))
  have X1 := Lib.hid (K1.out.below hb (by simp))
  have Y1 := Lib.hid (F1.out.below hb (by simp))
  have D1 := Lib.hid (on2 _ _ hb)
  have BK := Lib.hid hblk
  clear K0 K1 F1 hblk hb
  obtain ⟨x0, x1⟩ := X0.out
  have z1' : w.heap.size < w1.heap.size := by omega
  go_wp2
  clear x0 x1
  obtain ⟨V, hV⟩ : ∃ V, V = w1.alloc (Obj.cells #[.int .i64 R, .int .i64 C, .slice (some ⟨g, 0, none⟩) (R * C) (R * C)] 77) := ⟨_, rfl⟩
  have sV : w1.heap.size + 1 = V.heap.size := by rw [hV]; simp
  have P0 := Lib.hid (show BoxG V w.heap.size (.int .i64 R) (.slice A C c) from by rw [hV]; exact X0.out.below (al1 _ _) (by omega))
  have P1 := Lib.hid (show Box3 V (w.heap.size + 1) (.int .i64 0) (.int .i64 0) (.slice none 0 0) from by rw [hV]; exact X1.out.below (al1 _ _) (by omega))
  have G1 := Lib.hid (show Free V (w.heap.size + 1) from by rw [hV]; exact Y1.out.below (al1 _ _) (by omega))
  have P2 := Lib.hid (show Box3 V w1.heap.size (.int .i64 R) (.int .i64 C) (.slice (some ⟨g, 0, none⟩) (R * C) (R * C)) from by rw [hV]; exact Box3.new _ _ _ _ _)
  have DV := Lib.hid (show Below w.heap.size w V from by rw [hV]; exact D1.out.alloc (by omega) _)
  have OV := Lib.hid (show Own V g (g + 1) (some ⟨g, 0, none⟩) (R * C) (R * C) (List.replicate (R * C) 0) from by rw [hV]; exact (Own.of_blk BK.out (Nat.le_refl _) (Nat.lt_succ_self _) (by simp) (by unfold maxLen; omega)).below (al1 _ _) (by omega))
  rw [← hV]
  clear hV X0 X1 Y1 D1 BK
  go_loopw [19] (fun j W => ∃ (J : Nat) (d : List Int), J ≤ C ∧ j = .int .i64 J ∧ Own W g (g + 1) (some ⟨g, 0, none⟩) (R * C) (R * C) d ∧ Wd.IsM R C d (Wd.sums rs J 0) ∧ Kept g (g + 1) V W) (fun j _ => C - (intOf j).toNat)
  case atStart => exact ⟨0, _, Nat.zero_le _, rfl, OV.out, (Wd.IsM.zeros R C).congr (fun a b _ _ => (Wd.sums_zero rs a b).symm), Kept.refl _ _ _⟩
  case round =>
    obtain ⟨J, d, hJ, rfl, hown, hism, hkept⟩ := hrel
    have O := Lib.hid hown
    have I := Lib.hid hism
    have KP := Lib.hid hkept
    have zV : V.heap.size ≤ wr.heap.size := hkept.size
    clear hown hism hkept OV
    by_cases hlt : J < C
    · obtain ⟨b, off, Aj, cj, zj, rfl, hb, hr, hcV, hjc, hjm, hj⟩ := (H.out.below DV.out).at_ (j := J) (by rw [HN.out]; exact hlt)
      have hc := ((KP.out.below (B := w.heap.size) (by omega) (by omega)).cell (p := ⟨b, off + J, none⟩) hb).trans hcV
      have RW := ROW.out J (by rw [HN.out]; exact hlt)
      have ZL := Z120.out J
      rw [hr] at RW ZL
      have FT := Lib.hid (Wd.isW_fit (Wd.isR_iff.1 RW).1).2
      have HR := Lib.hid hr
      have HJ := Lib.hid hj
      dsimp only at ZL
      clear RW hr hj hcV
      go_wp2
      clear hc
      go_loopw [26] (fun i W => ∃ (k : Nat) (d : List Int), k ≤ zj.length ∧ i = .int .i64 k ∧ Own W g (g + 1) (some ⟨g, 0, none⟩) (R * C) (R * C) d ∧ Wd.IsM R C d (Wd.sums rs J k) ∧ Kept g (g + 1) V W) (fun i _ => zj.length - (intOf i).toNat)
      case atStart => exact ⟨0, d, Nat.zero_le _, rfl, O.out, I.out, KP.out⟩
      case round =>
        obtain ⟨k, d, hk, rfl, hown, hism, hkept⟩ := hrel
        have O2 := Lib.hid hown
        have I2 := Lib.hid hism
        have KQ := Lib.hid hkept
        have zW : V.heap.size ≤ wr.heap.size := hkept.size
        clear hown hism hkept
        by_cases hlk : k < zj.length
        · have NXT := Lib.hid (fun (x y v : Int) (i : Nat) (hx : zj.getD k 0 = x) (hi : i < R) (hv : d.getD (i * C + J) 0 = v) (hy : y = v + (if 0 < x then 1 else -1)) (hxi : x = (i : Int) + 1 ∨ x = -((i : Int) + 1)) =>
            Wd.sums_step (y := y) I2.out hlt (by rw [HR.out]; exact hlk) (by rw [HR.out]; exact hx) hi (by rw [hv]; exact hy) hxi)
          have SM := Lib.hid (fun (i : Nat) (hi : i < R) => Wd.sums_small I2.out Z120.out hi hlt)
          obtain ⟨b2, off2, x, rfl, hb2, hx, hcx⟩ := (HJ.out.below (KQ.out.below (B := w.heap.size) (by omega) (by omega))).at_z hlk
          obtain ⟨x0, x1, x2⟩ := FT.out k hlk
          rw [hx] at x0 x1 x2
          obtain ⟨sg1, sg2⟩ := mg_sign x x0
          have MGx : mg x = x ∨ mg x = -x := by
            by_cases h : x < 0
            · exact .inr (mg_of_neg h).symm
            · exact .inl (mg_of_nonneg h).symm
          obtain ⟨y, hy⟩ : ∃ y, mg x = y := ⟨_, rfl⟩
          have MG := Lib.hid (fun W => mag_impl x 1000 W (by omega) (by omega) (by omega))
          rw [hy] at sg1 sg2 MGx MG
          obtain ⟨s, hs⟩ : ∃ s, x.tdiv y = s := ⟨_, rfl⟩
          have SG := Lib.hid (show s = (if 0 < x then 1 else -1) from hs.symm.trans sg1)
          have s1 : -1 ≤ s ∧ s ≤ 1 := by have := SG.out; split at this <;> omega
          obtain ⟨s1, s2⟩ := s1
          obtain ⟨i, hi⟩ : ∃ i : Nat, y - 1 = i := ⟨(y - 1).toNat, by omega⟩
          have iR : i < R := by omega
          obtain ⟨v, hv⟩ : ∃ v, d.getD (i * C + J) 0 = v := ⟨_, rfl⟩
          obtain ⟨v1, v2⟩ := SM.out i iR
          rw [hv] at v1 v2
          have FIN := Lib.hid (show Wd.IsM R C (d.set (i * C + J) (v + s)) (Wd.sums rs J (k + 1)) from NXT.out x (v + s) v i hx iR hv (congrArg (v + ·) SG.out) (by omega))
          have hik := Wd.spot_lt iR hlt
          have a0 : 0 ≤ (y - 1) * (C : Int) := by rw [hi, castM]; omega
          have a1 : (y - 1) * (C : Int) ≤ 2304 := by rw [hi, castM]; omega
          have a2 : (y - 1) * (C : Int) + (J : Int) = ((i * C + J : Nat) : Int) := by rw [hi]; exact castI i C J
          have AT := Lib.hid (fun W (hI : Ints W W.heap.size (some ⟨g, 0, none⟩) (R * C) d) => at_impl R C (some ⟨g, 0, none⟩) (R * C) (R * C) d W hI (by omega) (y - 1) J _ a0 a1 a2 hik)
          rw [hv] at AT
          have SET := Lib.hid (fun (u : Int) (W : World) (hI : Own W g (g + 1) (some ⟨g, 0, none⟩) (R * C) (R * C) d) (hw : g + 1 ≤ W.heap.size) => set_impl R C (y - 1) J u _ _ _ _ g (g + 1) _ W hI hw (by omega) a0 a1 a2 hik)
          have wy : IntKind.i64.wrap (y - 1) = y - 1 := IntWalk.i64_in _ (by omega)
          have wq : IntKind.i64.wrap s = s := IntWalk.i64_in _ (by omega)
          have ws : IntKind.i64.wrap (v + s) = v + s := IntWalk.i64_in _ (by omega)
          have y0 : ¬ y = 0 := by omega
          have y0' : (y == (0 : Int)) = false := by simpa using y0
          have X2 := Lib.hid (P2.out.kept KQ.out (by omega) (by omega))
          have gV : g + 1 ≤ wr.heap.size := by omega
          clear hx hy hi hv a0 a1 a2 sg1 NXT SM MGx x0 v1 v2
          go_wp2_with fail
          refine (MG.out _).mono ?_
          rintro e w' ⟨rfl, rfl⟩
          obtain ⟨l0, l1, l2⟩ := X2.out
          go_wp2_with fail
          go_region_held3 (fun W => (W.cell? ⟨w1.heap.size, 0, none⟩ = some (.int .i64 R) ∧ W.cell? ⟨w1.heap.size, 1, none⟩ = some (.int .i64 C) ∧ W.cell? ⟨w1.heap.size, 2, none⟩ = some (.slice (some ⟨g, 0, none⟩) (R * C) (R * C)))) (go_keep)
            (first
              | (go_at_call 97; refine (AT.out _ (by exact O2.out.ints.more gV)).mono ?_; rintro e w6 ⟨rfl, hb6'⟩; have hb6 := undrew hb6'; have B6 := Lib.hid hb6; obtain ⟨e0, e1, e2⟩ := X2.out.below hb6 (by omega); clear hb6 hb6')
              | (go_at_call 95; refine (MG.out _).mono ?_; rintro e w5 ⟨rfl, rfl⟩)
              | (go_at_call 96; have z6 := B6.out.size; refine (SET.out _ _ (O2.out.below B6.out gV) (by omega)).mono ?_; rintro e w7 ⟨rfl, hown7, hkept7⟩; have O7 := Lib.hid hown7; have K7 := Lib.hid hkept7; obtain ⟨m0, m1, m2⟩ := (X2.out.below B6.out (by omega)).kept hkept7 (by omega) (by omega); clear hown7 hkept7))
          all_goals
            clear l0 l1 l2 e0 e1 e2 m0 m1 m2
            go_wp2
            go_roundw
            case rel => exact ⟨k + 1, _, by omega, by go_num, O7.out, FIN.out, (KQ.out.trans (Kept.of_below B6.out _ _)).trans K7.out⟩
            case measure => simp [intOf]; omega
        · obtain rfl : k = zj.length := by omega
          have NX := Lib.hid (Wd.sums_next I2.out (by rw [HR.out]; exact Nat.le_refl _))
          go_wp2
          go_roundw
          case rel => exact ⟨J + 1, d, by omega, by go_num, O2.out, NX.out, KQ.out⟩
          case measure => simp [intOf]; omega
    · obtain rfl : J = C := by omega
      have ALL := Lib.hid (Wd.sums_all I.out (Nat.le_refl _))
      have f0 := G1.out.kept KP.out (by omega) (by omega)
      obtain ⟨l0, l1, l2⟩ := P2.out.kept KP.out (by omega) (by omega)
      obtain ⟨n0, n1, n2⟩ := P1.out.kept KP.out (by omega) (by omega)
      unfold Free at f0
      go_wp2
      refine bodyPost_ret (v := .agg #[.int .i64 R, .int .i64 J, .slice (some ⟨g, 0, none⟩) (R * J) (R * J)]) (by simp [results, Try.results75, n0, n1, n2, go_sem]) rfl ⟨g, d, rfl, ?_, ALL.out, ?_⟩
      · refine ((((O.out.far (p := ⟨w.heap.size + 1, 0, none⟩) (by dsimp only; omega) _).far (p := ⟨w.heap.size + 1, 1, none⟩) (by dsimp only; omega) _).far (p := ⟨w.heap.size + 1, 2, none⟩) (by dsimp only; omega) _)).wide (by omega) ?_
        simp [World.setCell]
        omega
      · exact (((DV.out.trans (KP.out.below (B := w.heap.size) (by omega) (by omega))).setCell (by simp) _).setCell (by simp) _).setCell (by simp) _

end Go.Proofs.Ytpojkahlllochaa
