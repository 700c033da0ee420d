/- Texts of one proof laid together. No condition but those that each theorem names. -/
import Derived.Test.YtjendlfophdfeaaDoorWdB
import Derived.Test.YtjendlfophdfeaaDoorSsP
import Derived.Test.YtjendlfophdfeaaDoorFcS
import Derived.Test.YtjendlfophdfeaaDoorPfE
import Derived.Test.YtjendlfophdfeaaDoorG0a
import Derived.Test.YtjendlfophdfeaaDoorG1b
import Derived.Deep.RegionHeld3
import Derived.Outline
import Derived.Deep.Cut
namespace Go.Proofs.YtjendlfophdfeaaDoor
open Go.RowKit

namespace Wd
/-- No letter is next to its negative, by places. -/
def RedI (l : List Int) : Prop := ∀ j, j < l.length - 1 → l.getD (j + 1) 0 ≠ -(l.getD j 0)
instance (l : List Int) : Decidable (RedI l) := inferInstanceAs (Decidable (∀ j, j < l.length - 1 → l.getD (j + 1) 0 ≠ -(l.getD j 0)))
/-- A list is a reduced word. -/
def isR (most : Int) (l : List Int) : Bool := isW most l && decide (RedI l)
theorem isR_iff {most : Int} {l : List Int} : isR most l = true ↔ isW most l = true ∧ RedI l := by simp [isR]
theorem isR_noW {most : Int} {l : List Int} (h : isW most l = false) : isR most l = false := by simp [isR, h]
theorem isR_yes {most : Int} {l : List Int} (h : isW most l = true) (h2 : RedI l) : isR most l = true := isR_iff.2 ⟨h, h2⟩
theorem isR_bad {most : Int} {l : List Int} {k : Nat} (hk : k < l.length - 1) (h : l.getD (k + 1) 0 = -(l.getD k 0)) : isR most l = false := by
  have : ¬ RedI l := fun h' => h' k hk h
  simp [isR, this]
/-- The first letters are fit, and none is next to its negative. -/
def FitR (most : Int) (l : List Int) (k : Nat) : Prop := Fit most l k ∧ ∀ j, j < k - 1 → l.getD (j + 1) 0 ≠ -(l.getD j 0)
theorem FitR.zero (most : Int) (l : List Int) : FitR most l 0 := ⟨Fit.zero most l, fun j h => by omega⟩
theorem FitR.next {most : Int} {l : List Int} {k : Nat} (h : FitR most l k) (h0 : l.getD k 0 ≠ 0) (h1 : -most ≤ l.getD k 0) (h2 : l.getD k 0 ≤ most) (h3 : 0 < k → l.getD k 0 ≠ -(l.getD (k - 1) 0)) : FitR most l (k + 1) :=
  ⟨h.1.next h0 h1 h2, fun j hj => by
    by_cases e : j + 1 = k
    · have := h3 (by omega)
      rw [show j = k - 1 by omega, show k - 1 + 1 = k by omega]
      exact this
    · exact h.2 j (by omega)⟩
theorem FitR.all {most : Int} {l : List Int} (h : FitR most l l.length) (h120 : l.length ≤ 120) : isR most l = true := isR_yes (isW_yes h120 h.1) h.2
theorem isR_long {most : Int} {l : List Int} (h : ¬ l.length ≤ 120) : isR most l = false := isR_noW (isW_long h)
theorem isR_badL {most : Int} {l : List Int} {k : Nat} (hk : k < l.length) (h : ¬ (l.getD k 0 ≠ 0 ∧ -most ≤ l.getD k 0 ∧ l.getD k 0 ≤ most)) : isR most l = false := isR_noW (isW_bad hk h)
/-- A presentation is valid. -/
def isP (r : Int) (zss : List (List Int)) : Bool := decide (0 ≤ r ∧ r ≤ 24 ∧ zss.length ≤ 48 ∧ ∀ z ∈ zss, isR r z = true)
theorem isP_iff {r : Int} {zss : List (List Int)} : isP r zss = true ↔ 0 ≤ r ∧ r ≤ 24 ∧ zss.length ≤ 48 ∧ ∀ z ∈ zss, isR r z = true := by simp [isP]
theorem isP_no {r : Int} {zss : List (List Int)} (h : ¬ (0 ≤ r ∧ r ≤ 24 ∧ zss.length ≤ 48)) : isP r zss = false := by
  simp only [isP, decide_eq_false_iff_not]
  exact fun h' => h ⟨h'.1, h'.2.1, h'.2.2.1⟩
theorem isP_row {r : Int} {zss : List (List Int)} {z : List Int} (hz : z ∈ zss) (h : isR r z = false) : isP r zss = false := by
  simp only [isP, decide_eq_false_iff_not]
  exact fun h' => by rw [h'.2.2.2 z hz] at h; cases h
end Wd
theorem vals_mem {rs : List Rw} {j : Nat} (h : j < rs.length) : (rs.getD j nilRw).zs ∈ vals rs := List.mem_map_of_mem (getD_mem h)
/-- The first k relators are fit. -/
def FitP (r : Int) (rs : List Rw) (k : Nat) : Prop := ∀ j, j < k → Wd.isR r (rs.getD j nilRw).zs = true
theorem FitP.zero (r : Int) (rs : List Rw) : FitP r rs 0 := fun j h => by omega
theorem FitP.next {r : Int} {rs : List Rw} {k : Nat} (h : FitP r rs k) (hk : Wd.isR r (rs.getD k nilRw).zs = true) : FitP r rs (k + 1) := fun j hj => by
  by_cases e : j = k
  · subst e; exact hk
  · exact h j (by omega)
theorem FitP.all {r : Int} {rs : List Rw} {n : Nat} (h : FitP r rs n) (hn : rs.length = n) (h0 : 0 ≤ r) (h1 : r ≤ 24) (h2 : n ≤ 48) : Wd.isP r (vals rs) = true :=
  Wd.isP_iff.2 ⟨h0, h1, by rw [vals_len, hn]; exact h2, fun z hz => by
    obtain ⟨q, hq, rfl⟩ := List.mem_map.1 hz
    obtain ⟨j, hj, rfl⟩ := List.mem_iff_getElem.1 hq
    have := h j (by omega)
    rwa [List.getD_eq_getElem?_getD, List.getElem?_eq_getElem hj] at this⟩

/-- A truth value; the world has at most drawn. -/
def ResQ (w : World) (b : Bool) (e : Ending) (w' : World) : Prop := e = .returned (.bool b) ∧ ∃ m, w' = w.drewN m
theorem drewN_more {w V : World} (h : ∃ m, V = w.drewN m) (k : Nat) : ∃ m, V.drewN k = w.drewN m := by
  obtain ⟨m, rfl⟩ := h
  exact ⟨m + k, by rw [World.drewN_drewN]⟩

end Go.Proofs.YtjendlfophdfeaaDoor

namespace Go.Proofs.YtjendlfophdfeaaDoor
open Go.RowKit
namespace Rp

/-- A permutation of degree n. -/
def Pm (n : Int) (z : List Int) : Prop := (z.length : Int) = n ∧ ∀ i, i < z.length → (0 ≤ z.getD i 0 ∧ z.getD i 0 < n) ∧ ∀ j, j < i → z.getD j 0 ≠ z.getD i 0
instance (n : Int) (z : List Int) : Decidable (Pm n z) := inferInstanceAs (Decidable ((z.length : Int) = n ∧ ∀ i, i < z.length → (0 ≤ z.getD i 0 ∧ z.getD i 0 < n) ∧ ∀ j, j < i → z.getD j 0 ≠ z.getD i 0))
def arePm (n : Int) (zss : List (List Int)) : Bool := decide ((1 ≤ n ∧ n ≤ 4) ∧ ∀ z ∈ zss, Pm n z)
theorem arePm_iff {n : Int} {zss : List (List Int)} : arePm n zss = true ↔ (1 ≤ n ∧ n ≤ 4) ∧ ∀ z ∈ zss, Pm n z := by simp [arePm]
theorem Pm.inj {n : Int} {z : List Int} (h : Pm n z) {i j : Nat} (hi : i < z.length) (hj : j < z.length) (e : z.getD i 0 = z.getD j 0) : i = j := by
  rcases Nat.lt_trichotomy i j with h1 | h1 | h1
  · exact absurd e ((h.2 j hj).2 i h1)
  · exact h1
  · exact absurd e.symm ((h.2 i hi).2 j h1)

theorem filter_len {l : List Int} {a : Int} (h : l.Nodup) : l.length ≤ (l.filter fun x => decide (x ≠ a)).length + 1 := by
  induction l with
  | nil => simp
  | cons x l ih =>
    rw [List.nodup_cons] at h
    by_cases e : x = a
    · subst e
      have : (l.filter fun y => decide (y ≠ x)) = l := List.filter_eq_self.2 fun y hy => by simp; exact fun e => h.1 (e ▸ hy)
      rw [List.filter_cons]
      simp only [ne_eq, not_true_eq_false, decide_false, Bool.false_eq_true, if_false]
      rw [this]
      simp
    · rw [List.filter_cons, if_pos (by simpa using e)]
      have := ih h.2
      simp at this ⊢
      omega
theorem pigeon : ∀ (n : Nat) (l : List Int), l.Nodup → (∀ x ∈ l, 0 ≤ x ∧ x < n) → l.length ≤ n
  | 0, l, _, h => by
    cases l with
    | nil => simp
    | cons x l => have := h x (List.mem_cons_self ..); omega
  | n + 1, l, hd, h => by
    have h1 := filter_len (a := (n : Int)) hd
    have h2 := pigeon n (l.filter fun x => decide (x ≠ (n : Int))) (hd.filter _) fun x hx => by
      obtain ⟨hx1, hx2⟩ := List.mem_filter.1 hx
      have := h x hx1
      simp at hx2
      omega
    omega
theorem Pm.nodup {n : Int} {z : List Int} (h : Pm n z) : z.Nodup := by
  unfold List.Nodup
  rw [List.pairwise_iff_getElem]
  intro i j hi hj hij
  have := (h.2 j hj).2 i hij
  rw [List.getD_eq_getElem?_getD, List.getD_eq_getElem?_getD, List.getElem?_eq_getElem hi, List.getElem?_eq_getElem hj] at this
  simpa using this
theorem Pm.mem {n : Int} {z : List Int} (h : Pm n z) {y : Int} (h0 : 0 ≤ y) (h1 : y < n) : y ∈ z := by
  refine Decidable.byContradiction fun hn => ?_
  have hb : ∀ x ∈ z, 0 ≤ x ∧ x < n := fun x hx => by
    obtain ⟨i, hi, rfl⟩ := List.mem_iff_getElem.1 hx
    have := (h.2 i hi).1
    rw [List.getD_eq_getElem?_getD, List.getElem?_eq_getElem hi] at this
    simpa using this
  have := pigeon z.length (y :: z) (List.nodup_cons.2 ⟨hn, h.nodup⟩) fun x hx => by
    rcases List.mem_cons.1 hx with rfl | hx
    · exact ⟨h0, by rw [h.1]; exact h1⟩
    · have := hb x hx; rw [h.1]; exact this
  simp at this
  omega
/-- Where a permutation has a number. -/
def at_ (z : List Int) (y : Int) : Nat := z.findIdx fun x => decide (x = y)
theorem at_lt {z : List Int} {y : Int} (h : y ∈ z) : at_ z y < z.length := List.findIdx_lt_length_of_exists ⟨y, h, by simp⟩
theorem at_val {z : List Int} {y : Int} (h : y ∈ z) : z.getD (at_ z y) 0 = y := by
  have := List.findIdx_getElem (xs := z) (p := fun x => decide (x = y)) (w := at_lt h)
  rw [List.getD_eq_getElem?_getD, List.getElem?_eq_getElem (at_lt h)]
  unfold at_
  simpa using this
theorem at_no {z : List Int} {y : Int} {j : Nat} (h : j < at_ z y) : z.getD j 0 ≠ y := by
  have hl : at_ z y ≤ z.length := List.findIdx_le_length
  have := List.not_of_lt_findIdx h
  rw [List.getD_eq_getElem?_getD, List.getElem?_eq_getElem (by omega)]
  simpa using this
theorem at_of {n : Int} {z : List Int} (h : Pm n z) {i : Nat} (hi : i < z.length) : at_ z (z.getD i 0) = i := by
  have hm : z.getD i 0 ∈ z := by rw [List.getD_eq_getElem?_getD, List.getElem?_eq_getElem hi]; exact List.getElem_mem _
  exact h.inj (at_lt hm) hi (at_val hm)

/-- The number to which a letter maps a number. -/
def act (zss : List (List Int)) (g x : Int) : Int := if 0 < g then (zss.getD (g - 1).toNat []).getD x.toNat 0 else (at_ (zss.getD (-g - 1).toNat []) x : Int)
/-- The number to which a word maps a number. -/
def run (zss : List (List Int)) (w : List Int) (x : Int) : Int := w.foldl (fun x g => act zss g x) x
/-- The letters of a word have permutations. -/
def Fits (m : Nat) (w : List Int) : Prop := ∀ g ∈ w, g ≠ 0 ∧ -(m : Int) ≤ g ∧ g ≤ m
theorem act_in {n : Int} {zss : List (List Int)} {g x : Int} (h : ∀ z ∈ zss, Pm n z) (hg0 : g ≠ 0) (hg1 : -(zss.length : Int) ≤ g) (hg2 : g ≤ zss.length) (h0 : 0 ≤ x) (h1 : x < n) : 0 ≤ act zss g x ∧ act zss g x < n := by
  have key : ∀ i : Nat, i < zss.length → Pm n (zss.getD i []) := fun i hi => by
    rw [List.getD_eq_getElem?_getD, List.getElem?_eq_getElem hi]
    exact h _ (List.getElem_mem _)
  unfold act
  split
  · have hz := key (g - 1).toNat (by omega)
    exact (hz.2 x.toNat (by have := hz.1; omega)).1
  · have hz := key (-g - 1).toNat (by omega)
    have := at_lt (hz.mem h0 h1)
    have := hz.1
    omega
theorem run_snoc (zss : List (List Int)) (w : List Int) (g x : Int) : run zss (w ++ [g]) x = act zss g (run zss w x) := by simp [run]
theorem run_inside {n : Int} {zss : List (List Int)} {w : List Int} {x : Int} (h : ∀ z ∈ zss, Pm n z) (hw : Fits zss.length w) (h0 : 0 ≤ x) (h1 : x < n) : 0 ≤ run zss w x ∧ run zss w x < n := by
  induction w using Wd.snoc_ind with
  | h0 => exact ⟨h0, h1⟩
  | h1 l g ih =>
    rw [run_snoc]
    have hg := hw g (by simp)
    have := ih fun y hy => hw y (by simp [hy])
    exact act_in h hg.1 hg.2.1 hg.2.2 this.1 this.2
theorem Fits.take {m : Nat} {w : List Int} (h : Fits m w) (k : Nat) : Fits m (w.take k) := fun g hg => h g (List.mem_of_mem_take hg)
end Rp
end Go.Proofs.YtjendlfophdfeaaDoor

namespace Go.Proofs.YtjendlfophdfeaaDoor
open Go.RowKit

def PmK (n : Int) (z : List Int) (k : Nat) : Prop := ∀ i, i < k → (0 ≤ z.getD i 0 ∧ z.getD i 0 < n) ∧ ∀ j, j < i → z.getD j 0 ≠ z.getD i 0
theorem PmK.snoc {n : Int} {z : List Int} {k : Nat} (h : PmK n z k) (h1 : 0 ≤ z.getD k 0 ∧ z.getD k 0 < n) (h2 : ∀ j, j < k → z.getD j 0 ≠ z.getD k 0) : PmK n z (k + 1) := fun i hi => by
  by_cases e : i = k
  · subst e; exact ⟨h1, h2⟩
  · exact h i (by omega)
theorem mem_take_iff {z : List Int} {k : Nat} (hk : k ≤ z.length) (x : Int) : x ∈ Lau.cut z 0 k ↔ ∃ j, j < k ∧ z.getD j 0 = x := by
  unfold Lau.cut
  rw [List.drop_zero]
  constructor
  · intro h
    obtain ⟨j, hj, e⟩ := List.mem_iff_getElem.1 h
    have hj2 : j < k := by simp at hj; omega
    refine ⟨j, hj2, ?_⟩
    rw [List.getD_eq_getElem?_getD, List.getElem?_eq_getElem (by omega)]
    rw [List.getElem_take] at e
    simpa using e
  · rintro ⟨j, hj, rfl⟩
    rw [List.getD_eq_getElem?_getD, List.getElem?_eq_getElem (by omega)]
    exact List.mem_iff_getElem.2 ⟨j, by simp; omega, by simp⟩
theorem infoB : (Tryd.prog.info? 4).map (fun i => (i.zero, i.size, i.bytes)) = some (some (.bool false), 1, 1) := by kernel_rfl
theorem run_make_bools (n : Nat) (hn : n ≤ 1048576) (w : World) :
    (Instr.makeSlice 170 (.int .i64 (n : Int)) (.int .i64 (n : Int))).run Tryd.prog w = .ok (.slice (some ⟨w.heap.size, 0, none⟩) n n) (w.alloc (.cells ((List.replicate n false).map Value.bool).toArray 4)) := by
  obtain ⟨i0, hi, hz0, hz1, hz2⟩ := info_parts infoB
  have hr := run_make (P := Tryd.prog) w 170 4 i0 _ Tryd.underlying170 hi hz0 .i64 .i64 n n (by omega) (by omega) (by rw [hz2]; omega) (by omega)
  simp only [Int.toNat_natCast] at hr
  have e : madeCells (Value.bool false).cells (n * 1) = ((List.replicate n false).map Value.bool).toArray := by
    apply Array.ext
    · simp [madeCells]
    · intro i h1 h2
      simp [madeCells, Value.cells, Nat.mod_one]
  rw [hz1, e] at hr
  exact hr
/-- A block of truth values that is known whole. -/
def BlkB (W : World) (g : Nat) (d : List Bool) : Prop := W.heap[g]? = some (.cells (d.map Value.bool).toArray 4 (0, 0))
theorem BlkB.lt {W : World} {g : Nat} {d : List Bool} (h : BlkB W g d) : g < W.heap.size := by
  rcases Nat.lt_or_ge g W.heap.size with hlt | hge
  · exact hlt
  · unfold BlkB at h; rw [Array.getElem?_eq_none hge] at h; cases h
theorem BlkB.cell {W : World} {g : Nat} {d : List Bool} (h : BlkB W g d) {i : Nat} (hi : i < d.length) : W.cell? ⟨g, i, none⟩ = some (.bool (d.getD i false)) := by
  rw [cell_of_row W g i _ _ (0, 0) h]
  simp [List.getElem?_eq_getElem hi]
theorem BlkB.frozen {W : World} {g : Nat} {d : List Bool} (h : BlkB W g d) (i : Nat) : W.frozen? ⟨g, i, none⟩ = false := by
  unfold BlkB at h
  simp [World.frozen?, h]
theorem BlkB.set_ {W : World} {g : Nat} {d : List Bool} (h : BlkB W g d) (i : Nat) (u : Bool) : BlkB (W.setCell ⟨g, i, none⟩ (.bool u)) g (d.set i u) := by
  unfold BlkB at h ⊢
  simp [World.setCell, Array.getElem?_modify, h]
theorem getD_setB {d : List Bool} {i j : Nat} {u : Bool} (hj : j < d.length) : (d.set i u).getD j false = if i = j then u else d.getD j false := by
  rw [List.getD_eq_getElem?_getD, List.getD_eq_getElem?_getD, List.getElem?_set]
  by_cases e : i = j
  · subst e
    simp [hj]
  · simp [e]

set_option maxHeartbeats 4000000 in
theorem perm_impl (N : Nat) (A : Option Addr) (m c : Nat) (z : List Int) (w : World) (h : Ints w w.heap.size A m z) (hm : m ≤ 1048576) :
    Calls Tryd.prog 110 #[.int .i64 N, .slice A m c] w fun e w' => e = .returned (.bool (decide (Rp.Pm (N : Int) z))) ∧ Below w.heap.size w w' := by
  have hl := Lib.hid h.1
  have H := Lib.hid h
  clear h
  by_cases hmn : m = N
  case neg =>
    have NO := Lib.hid (show decide (Rp.Pm (N : Int) z) = false from by
      rw [decide_eq_false_iff_not]
      intro hp
      have := hp.1
      rw [hl.out] at this
      omega)
    have t0 : ((m : Int) != (N : Int)) = true := by simp; omega
    clear hmn
    go_enter Tryd.func110, Tryd.ntmps110
    go_wp2
    go_ret
    exact ⟨ret_b NO.out, Below.refl _ _⟩
  · subst hmn
    have t0 : ((m : Int) != (m : Int)) = false := by simp
    have MK := run_make_bools m hm
    go_enter Tryd.func110, Tryd.ntmps110
    go_wp2
    go_loopw [16] (fun i W => ∃ (k : Nat) (d : List Bool), k ≤ m ∧ i = .int .i64 k ∧ BlkB W w.heap.size d ∧ d.length = m ∧ PmK (m : Int) z k ∧ (∀ y, y < m → (d.getD y false = true ↔ ∃ j, j < k ∧ z.getD j 0 = (y : Int))) ∧ Below w.heap.size w W) (fun i _ => m - (intOf i).toNat)
    case atStart => exact ⟨0, List.replicate m false, Nat.zero_le _, rfl, by (have h9 := heap_alloc_new w (Obj.cells (Array.replicate m (Value.bool false)) 4)); unfold BlkB; simpa using h9, List.length_replicate .., (fun i hi => by omega), (fun y hy => by simp [List.getD_eq_getElem?_getD, hy]), al1 _ _⟩
    case round =>
      obtain ⟨k, d, hk, rfl, hbk, hdl, hpk, hfd, hbel⟩ := hrel
      have BK := Lib.hid hbk
      have PK := Lib.hid hpk
      have FD := Lib.hid hfd
      have DB := Lib.hid hbel
      have DL := Lib.hid hdl
      have bl := hbk.lt
      clear hbk hpk hfd hbel hdl
      by_cases hlt : k < m
      · obtain ⟨b, off, v, rfl, hb, hz, hck⟩ := (H.out.below DB.out).at_z hlt
        have Z := Lib.hid hz
        have i1 : (k : Int) < (m : Int) := by omega
        by_cases hin : 0 ≤ v ∧ v < m
        · obtain ⟨y, rfl⟩ : ∃ y : Nat, v = y := ⟨v.toNat, by omega⟩
          have hy : y < m := by omega
          have hcy := BK.out.cell (i := y) (by rw [DL.out]; exact hy)
          have hfy := BK.out.frozen y
          obtain ⟨bv, hbv⟩ : ∃ bv, d.getD y false = bv := ⟨_, rfl⟩
          have BV := Lib.hid hbv
          rw [hbv] at hcy
          have t1 : decide ((y : Int) < 0) = false := by simp
          have t2 : decide ((m : Int) ≤ (y : Int)) = false := by simp; omega
          have t3 : ¬ (y : Int) < 0 := by omega
          have t4 : ¬ (m : Int) ≤ (y : Int) := by omega
          have t5 : (y : Int) < (m : Int) := by omega
          clear hz hbv hin
          cases bv
          · have NP := Lib.hid (show PmK (m : Int) z (k + 1) from PK.out.snoc (by rw [Z.out]; omega) fun j hj e => by
              have := (FD.out y hy).2 ⟨j, hj, by rw [← Z.out]; exact e⟩
              rw [BV.out] at this
              cases this)
            have NF := Lib.hid (show ∀ x, x < m → ((d.set y true).getD x false = true ↔ ∃ j, j < k + 1 ∧ z.getD j 0 = (x : Int)) from fun x hx => by
              rw [getD_setB (by rw [DL.out]; exact hx)]
              by_cases e : y = x
              · subst e
                rw [if_pos rfl]
                exact ⟨fun _ => ⟨k, by omega, Z.out⟩, fun _ => rfl⟩
              · rw [if_neg e, FD.out x hx]
                constructor
                · rintro ⟨j, hj, hj2⟩; exact ⟨j, by omega, hj2⟩
                · rintro ⟨j, hj, hj2⟩
                  by_cases e2 : j = k
                  · rw [e2, Z.out] at hj2; omega
                  · exact ⟨j, by omega, hj2⟩)
            go_wp2
            go_roundw
            case rel => exact ⟨k + 1, _, by omega, by go_num, BK.out.set_ _ _, by rw [List.length_set]; exact DL.out, NP.out, NF.out, DB.out.setCell (Nat.le_refl _) _⟩
            case measure => simp [intOf]; omega
          · have NO := Lib.hid (show decide (Rp.Pm (m : Int) z) = false from by
              rw [decide_eq_false_iff_not]
              intro hp
              obtain ⟨j, hj, e⟩ := (FD.out y hy).1 BV.out
              exact (hp.2 k (by rw [hl.out]; exact hlt)).2 j hj (e.trans Z.out.symm))
            go_wp2
            go_ret
            exact ⟨ret_b NO.out, DB.out⟩
        · have NO := Lib.hid (show decide (Rp.Pm (m : Int) z) = false from by
            rw [decide_eq_false_iff_not]
            intro hp
            have := (hp.2 k (by rw [hl.out]; exact hlt)).1
            rw [Z.out] at this
            exact hin this)
          clear hz
          by_cases h0 : v < 0
          · clear hin
            go_wp2
            go_ret
            exact ⟨ret_b NO.out, DB.out⟩
          · have h4 : (m : Int) ≤ v := by omega
            clear hin
            go_wp2
            go_ret
            exact ⟨ret_b NO.out, DB.out⟩
      · have hkm : k = m := by omega
        have i1 : ¬ (k : Int) < (m : Int) := by omega
        have YES := Lib.hid (show decide (Rp.Pm (m : Int) z) = true from by
          rw [decide_eq_true_iff]
          exact ⟨by rw [hl.out], by rw [hl.out, ← hkm]; exact hkm ▸ PK.out⟩)
        clear hkm
        go_wp2
        go_ret
        exact ⟨ret_b YES.out, DB.out⟩


namespace Fc
/-- All numbers are permutations of vertices. -/
def AllP (pl : List Int) : Prop := ∀ i, i < pl.length → 0 ≤ pl.getD i 0 ∧ pl.getD i 0 < 24
instance (pl : List Int) : Decidable (AllP pl) := by unfold AllP; infer_instance
set_option maxRecDepth 100000 in
set_option maxHeartbeats 4000000 in
theorem arePerms_impl (A : Option Addr) (m c : Nat) (pl : List Int) (w : World) (h : Ints w w.heap.size A m pl) (hm : m ≤ 1048576) :
    Calls Tryd.prog 111 #[.slice A m c] w fun e w' => e = .returned (.bool (decide (AllP pl))) ∧ w' = w := by
  have hl := Lib.hid h.1
  have H := Lib.hid h
  clear h
  go_enter Tryd.func111, Tryd.ntmps111
  go_wp2
  go_loopw [7] (fun i W => ∃ k : Nat, k ≤ m ∧ i = .int .i64 k ∧ (∀ i, i < k → 0 ≤ pl.getD i 0 ∧ pl.getD i 0 < 24) ∧ W = w) (fun i _ => m - (intOf i).toNat)
  case atStart => exact ⟨0, Nat.zero_le _, rfl, fun i hi => absurd hi (Nat.not_lt_zero _), rfl⟩
  case round =>
    obtain ⟨k, hk, rfl, hall, rfl⟩ := hrel
    have AL := Lib.hid hall
    clear hall
    by_cases hlt : k < m
    case neg =>
      obtain rfl : m = k := by omega
      have Y := Lib.hid (show decide (AllP pl) = true from decide_eq_true (fun i hi => AL.out i (by rw [hl.out] at hi; exact hi)))
      have i1 : ¬ (m : Int) < (m : Int) := by omega
      go_wp2
      go_ret
      exact ⟨ret_b Y.out, rfl⟩
    have i1 : (k : Int) < (m : Int) := by omega
    have i0 : (0 : Int) ≤ (k : Int) := by omega
    obtain ⟨b, off, v, rfl, hb, hz, hck⟩ := H.out.at_z hlt
    by_cases hin : 0 ≤ v ∧ v < 24
    · have NX := Lib.hid (show ∀ i, i < k + 1 → 0 ≤ pl.getD i 0 ∧ pl.getD i 0 < 24 from fun i hi => by
        by_cases e : i = k
        · subst e; rw [hz]; exact hin
        · exact AL.out i (by omega))
      clear hz
      go_wp2_with fail
      refine (isPerm4_yes v _ hin.1 hin.2).mono ?_
      rintro e w1 ⟨rfl, rfl⟩
      clear hin
      go_wp2
      go_roundw
      case rel => exact ⟨k + 1, by omega, by go_num, NX.out, by first | rfl | trivial⟩
      case measure => simp [intOf]; omega
    · have NO := Lib.hid (show decide (AllP pl) = false from decide_eq_false fun e => hin (by rw [← hz]; exact e k (by rw [hl.out]; exact hlt)))
      clear hz
      go_wp2_with fail
      refine (isPerm4_no v _ hin).mono ?_
      rintro e w1 ⟨rfl, rfl⟩
      clear hin
      go_wp2
      go_ret
      exact ⟨ret_b NO.out, rfl⟩

end Fc
end Go.Proofs.YtjendlfophdfeaaDoor

namespace Go.Proofs.YtjendlfophdfeaaDoor
open Go.RowKit
namespace Sk
/-- The cells of a boundary face, and of all boundary faces among the first. -/
def clsV (a f : Nat) : Nat → List Nat
  | 0 => []
  | k + 1 => if k = f then clsV a f k else clsV a f k ++ [4 * a + k]
def clsE (a f : Nat) : Nat → List Nat
  | 0 => []
  | k + 1 => if inF k f then clsE a f k ++ [6 * a + k] else clsE a f k
theorem vM_bd (F : FS) (a f k j : Nat) : (vM F a f k).bd j = (F.bd j || decide (j ∈ clsV a f k)) := by
  induction k with
  | zero => simp [vM, clsV]
  | succ k ih =>
    simp only [vM, clsV]
    split
    · exact ih
    · simp only [FS.mark, ih, List.mem_append, List.mem_singleton]
      by_cases e : j = 4 * a + k
      · rw [if_pos e]; simp [e]
      · rw [if_neg e]; simp [e]
theorem eM_bd (F : FS) (a f k j : Nat) : (eM F a f k).bd j = (F.bd j || decide (j ∈ clsE a f k)) := by
  induction k with
  | zero => simp [eM, clsE]
  | succ k ih =>
    simp only [eM, clsE]
    split
    · simp only [FS.mark, ih, List.mem_append, List.mem_singleton]
      by_cases e : j = 6 * a + k
      · rw [if_pos e]; simp [e]
      · rw [if_neg e]; simp [e]
    · exact ih
theorem vI_bd (F : FS) (a f tb p k : Nat) : (vI F a f tb p k).bd = F.bd := by
  induction k with
  | zero => rfl
  | succ k ih => simp only [vI]; split
                 · exact ih
                 · rw [FS.join_bd, ih]
theorem eI_bd (F : FS) (a f tb p k : Nat) : (eI F a f tb p k).bd = F.bd := by
  induction k with
  | zero => rfl
  | succ k ih => simp only [eI]; split
                 · rw [FS.join_bd, ih]
                 · exact ih
/-- The marked cells after so many faces. -/
def mrV (T : List (List Int)) : Nat → List Nat
  | 0 => []
  | k + 1 => if Tr.tt T (k / 4) (k % 4) < 0 then mrV T k ++ clsV (k / 4) (k % 4) 4 else mrV T k
def mrE (T : List (List Int)) : Nat → List Nat
  | 0 => []
  | k + 1 => if Tr.tt T (k / 4) (k % 4) < 0 then mrE T k ++ clsE (k / 4) (k % 4) 6 else mrE T k
def mrF (T : List (List Int)) : Nat → List Nat
  | 0 => []
  | k + 1 => if Tr.tt T (k / 4) (k % 4) < 0 then mrF T k ++ [4 * (k / 4) + k % 4] else mrF T k
theorem upto_bd (T : List (List Int)) (S : S3) (k j : Nat) : (upto T S k).v.bd j = (S.v.bd j || decide (j ∈ mrV T k)) ∧ (upto T S k).e.bd j = (S.e.bd j || decide (j ∈ mrE T k)) ∧ (upto T S k).f.bd j = (S.f.bd j || decide (j ∈ mrF T k)) := by
  induction k with
  | zero => simp [upto, mrV, mrE, mrF]
  | succ k ih =>
    obtain ⟨h1, h2, h3⟩ := ih
    simp only [upto, mrV, mrE, mrF]
    unfold step
    split
    · refine ⟨?_, ?_, ?_⟩
      · rw [vM_bd, h1, Bool.or_assoc]; congr 1; simp [Bool.decide_or]
      · rw [eM_bd, h2, Bool.or_assoc]; congr 1; simp [Bool.decide_or]
      · simp only [FS.mark]
        by_cases e : j = 4 * (k / 4) + k % 4
        · rw [if_pos e]; simp [e]
        · rw [if_neg e, h3]; simp [e]
    · refine ⟨by simp only [vI_bd]; exact h1, by simp only [eI_bd]; exact h2, by simp only [FS.join_bd]; exact h3⟩
theorem FT_bd (T : List (List Int)) (j : Nat) : (FT T).v.bd j = decide (j ∈ mrV T (T.length * 4)) ∧ (FT T).e.bd j = decide (j ∈ mrE T (T.length * 4)) ∧ (FT T).f.bd j = decide (j ∈ mrF T (T.length * 4)) := by
  have h := upto_bd T (S3.start T.length) (T.length * 4) j
  have e : ∀ N, (FS.start N).bd j = false := fun _ => rfl
  unfold FT
  refine ⟨?_, ?_, ?_⟩
  · rw [h.1]; simp [S3.start, e]
  · rw [h.2.1]; simp [S3.start, e]
  · rw [h.2.2]; simp [S3.start, e]
/-- Only roots are turned by numbering, and not ahead of their own turn. -/
theorem nB_self {F : FS} (hm : Mk F.m) : ∀ k, k ≤ F.m.length → ∀ j, k ≤ j → nB F k j = F.bd j := by
  intro k
  induction k with
  | zero => intro _ j _; rfl
  | succ k ih =>
    intro hk j hj
    obtain ⟨r, e, hr, -⟩ := hm.lo k (by omega)
    simp only [nB]
    rw [e, Int.toNat_natCast, if_neg (by omega)]
    exact ih (by omega) j (by omega)
theorem nB_iff {F : FS} (hm : Mk F.m) (r : Nat) : ∀ k, k ≤ F.m.length → (nB F k r = true ↔ F.bd r = true ∨ ∃ i, i < k ∧ F.m.getD i 0 = (r : Int) ∧ F.bd i = true) := by
  intro k
  induction k with
  | zero => intro _; simp [nB]
  | succ k ih =>
    intro hk
    obtain ⟨q, e, hq, -⟩ := hm.lo k (by omega)
    have h1 := nB_self hm k (by omega) k (Nat.le_refl _)
    have h2 := ih (by omega)
    simp only [nB]
    rw [e, Int.toNat_natCast]
    by_cases hr : r = q
    · subst hr
      rw [if_pos rfl, Bool.or_eq_true, h1, h2]
      constructor
      · rintro ((h | ⟨i, a, b, c⟩) | h)
        · exact .inl h
        · exact .inr ⟨i, by omega, b, c⟩
        · exact .inr ⟨k, by omega, e, h⟩
      · rintro (h | ⟨i, a, b, c⟩)
        · exact .inl (.inl h)
        · by_cases hik : i = k
          · subst hik; exact .inr c
          · exact .inl (.inr ⟨i, by omega, b, c⟩)
    · rw [if_neg hr, h2]
      constructor
      · rintro (h | ⟨i, a, b, c⟩)
        · exact .inl h
        · exact .inr ⟨i, by omega, b, c⟩
      · rintro (h | ⟨i, a, b, c⟩)
        · exact .inl h
        · by_cases hik : i = k
          · subst hik; rw [e] at b; omega
          · exact .inr ⟨i, by omega, b, c⟩
/-- The roots in order, by the numbers of their classes. -/
theorem rtl_at (m : List Int) : ∀ k c, c < rk m k → ∃ r, (rtl m k)[c]? = some r ∧ r < k ∧ m.getD r 0 = (r : Int) ∧ rk m r = c := by
  intro k
  induction k with
  | zero => intro c h; simp [rk] at h
  | succ k ih =>
    intro c h
    by_cases e : m.getD k 0 = (k : Int)
    · simp only [rk, if_pos e] at h
      simp only [rtl, if_pos e]
      by_cases hc : c < rk m k
      · obtain ⟨r, h1, h2, h3, h4⟩ := ih c hc
        exact ⟨r, by rw [List.getElem?_append_left (by rw [rtl_len]; exact hc)]; exact h1, by omega, h3, h4⟩
      · obtain rfl : c = rk m k := by omega
        exact ⟨k, by rw [List.getElem?_append_right (by rw [rtl_len]; exact Nat.le_refl _), rtl_len, Nat.sub_self]; rfl, by omega, e, rfl⟩
    · simp only [rk, if_neg e] at h
      simp only [rtl, if_neg e]
      obtain ⟨r, h1, h2, h3, h4⟩ := ih c (by omega)
      exact ⟨r, h1, by omega, h3, h4⟩
theorem rk_inj {m : List Int} {r q : Nat} (hr : m.getD r 0 = (r : Int)) (hq : m.getD q 0 = (q : Int)) (h : rk m r = rk m q) : r = q := by
  rcases Nat.lt_trichotomy r q with l | l | l
  · have := rk_lt l hr; omega
  · exact l
  · have := rk_lt l hq; omega
/-- The list of classes whose flags are set. -/
def lst (p : Nat → Bool) : Nat → List Int
  | 0 => []
  | c + 1 => if p c then lst p c ++ [(c : Int)] else lst p c
theorem lst_eq {p q : Nat → Bool} : ∀ {n : Nat}, (∀ c, c < n → p c = q c) → lst p n = lst q n
  | 0, _ => rfl
  | n + 1, h => by simp only [lst]; rw [h n (by omega), lst_eq (n := n) fun c hc => h c (by omega)]
theorem lst_len (p : Nat → Bool) (n : Nat) : (lst p n).length ≤ n := by
  induction n with
  | zero => exact Nat.le_refl _
  | succ n ih => simp only [lst]; split
                 · simp; omega
                 · omega
/-- What the program lists, and what the specification lists. -/
def bcP (F : FS) : List Int := lst (fun c => nB F F.m.length ((rtl F.m F.m.length).getD c 0)) (rk F.m F.m.length)
def bcS (m : List Int) (L : List Nat) : List Int := lst (fun c => decide (∃ j ∈ L, cls m j = c)) (rk m m.length)
theorem bc_same {F : FS} {L : List Nat} (hm : Mk F.m) (hL : ∀ j ∈ L, j < F.m.length) (hb : ∀ j, F.bd j = decide (j ∈ L)) : bcP F = bcS F.m L := by
  unfold bcP bcS
  refine lst_eq fun c hc => ?_
  obtain ⟨r, h1, h2, h3, h4⟩ := rtl_at F.m _ c hc
  have hg : (rtl F.m F.m.length).getD c 0 = r := by rw [List.getD_eq_getElem?_getD, h1]; rfl
  rw [hg, Bool.eq_iff_iff, nB_iff hm r _ (Nat.le_refl _), decide_eq_true_iff]
  have key : ∀ j, j < F.m.length → (cls F.m j = c ↔ F.m.getD j 0 = (r : Int)) := fun j hj => by
    obtain ⟨q, e, hq, e2⟩ := hm.lo j hj
    unfold cls
    rw [e, Int.toNat_natCast]
    constructor
    · intro h
      have := rk_inj e2 h3 (h.trans h4.symm)
      omega
    · intro h
      obtain rfl : q = r := by omega
      exact h4
  constructor
  · rintro (h | ⟨i, a, b, d⟩)
    · rw [hb, decide_eq_true_iff] at h
      exact ⟨r, h, (key r h2).2 h3⟩
    · rw [hb, decide_eq_true_iff] at d
      exact ⟨i, d, (key i a).2 b⟩
  · rintro ⟨j, hj, e⟩
    exact .inr ⟨j, hL j hj, (key j (hL j hj)).1 e, by rw [hb, decide_eq_true_iff]; exact hj⟩
end Sk
end Go.Proofs.YtjendlfophdfeaaDoor

namespace Go.Proofs.YtjendlfophdfeaaDoor
open Go.RowKit
namespace Sk
theorem lst_yes {p : Nat → Bool} {c : Nat} (h : p c = true) : lst p (c + 1) = lst p c ++ [(c : Int)] := by simp only [lst]; rw [if_pos h]
theorem lst_no {p : Nat → Bool} {c : Nat} (h : p c = false) : lst p (c + 1) = lst p c := by simp only [lst]; rw [if_neg (by rw [h]; decide)]
set_option maxRecDepth 100000 in
set_option maxHeartbeats 8000000 in
theorem bcl_impl (g N wd l0 : Nat) (F : FS) (w : World) (h : FoN w g N wd l0 F) (_hm : Mk F.m) (hl : F.m.length = N) (hN : N ≤ 48) :
    Calls Tryd.prog 130 #[.pointer (some ⟨g + 1, 0, none⟩)] w (ResLM w (bcP F)) := by
  obtain ⟨A0, c0, lo, hi, ⟨x0, x1, x2⟩, hP, ⟨l1, l2, l3⟩, ⟨par, sg, hF⟩, hgz⟩ := h
  have FF := Lib.hid hF
  have PP := Lib.hid hP
  have HL := Lib.hid hl
  have rN := rk_le F.m N
  have RT := Lib.hid (fun c (hc : c < rk F.m N) => rtl_at F.m N c hc)
  have BC := Lib.hid (show bcP F = lst (fun c => nB F N ((rtl F.m N).getD c 0)) (rk F.m N) from by unfold bcP; rw [hl])
  obtain ⟨R, hR⟩ : ∃ R, rk F.m N = R := ⟨_, rfl⟩
  rw [hR] at x2 PP rN RT BC
  clear hF hP hl l1 l2 l3 x0 x1 hR
  go_enter Tryd.func130, Tryd.ntmps130
  go_wp2
  go_loopw [11, 3] (fun i v W => ∃ (c n3 c3 : Nat) (A3 : Option Addr), i = .int .i64 c ∧ v = .slice A3 n3 c3 ∧ c ≤ R ∧ Own W w.heap.size W.heap.size A3 n3 c3 (lst (fun c => nB F N ((rtl F.m N).getD c 0)) c) ∧ Below w.heap.size w W) (fun i _ _ => R - (intOf i).toNat)
  case atStart => exact ⟨0, 0, 0, none, rfl, rfl, Nat.zero_le _, Own.none_ _ _ _, Below.refl _ _⟩
  case round =>
    obtain ⟨W, rfl⟩ : ∃ W : World, W = wr := ⟨_, rfl⟩
    obtain ⟨c, n3, c3, A3, rfl, rfl, hc, ho, hb⟩ := hrel
    have O := Lib.hid ho
    have D := Lib.hid hb
    have n3c : n3 ≤ c := by rw [← ho.len]; exact lst_len _ _
    have LE := Lib.hid ho.len
    have zW := hb.size
    have i0 : (0 : Int) ≤ (c : Int) := by omega
    clear ho hb
    by_cases hlt : c < R
    case neg =>
      obtain rfl : R = c := by omega
      have i1 : ¬ (R : Int) < (R : Int) := by omega
      go_wp2
      go_ret
      rw [BC.out]
      exact ⟨A3, c3, by rw [LE.out]; rfl, by rw [LE.out]; exact Wd.own_caps O.out, by rw [LE.out]; exact O.out.mine, D.out⟩
    have i1 : (c : Int) < (R : Int) := by omega
    obtain ⟨r, hr1, hr2, hr3, hr4⟩ := RT.out c hlt
    have HG := Lib.hid (show (rtl F.m N).getD c 0 = r from by rw [List.getD_eq_getElem?_getD, hr1]; rfl)
    obtain ⟨b, v, rfl, hb1, hb2, hv, hcv⟩ := PP.out.at_ hlt
    have hve : v = .pointer (some ⟨g, r * 6, none⟩) := by
      unfold rts at hv
      rw [List.getElem?_map, hr1] at hv
      exact (Option.some.inj hv).symm
    subst hve
    have hcv := (D.out.cell (p := ⟨b, c, none⟩) (World.block_lt_of_cell? w _ hcv)).trans hcv
    have c5 := (D.out.cell (p := ⟨g, r * 6 + 5, none⟩) (by dsimp only; omega)).trans (FF.out.cell r hr2).bnd
    dsimp only at c5
    obtain ⟨t, ht⟩ : ∃ t, nB F N r = t := ⟨_, rfl⟩
    rw [ht] at c5
    have TT := Lib.hid (show (fun c => nB F N ((rtl F.m N).getD c 0)) c = t from by show nB F N ((rtl F.m N).getD c 0) = t; rw [HG.out, ht])
    clear hr1 hr2 hr3 hr4 hv ht
    cases t
    · have NY := Lib.hid (lst_no (p := fun c => nB F N ((rtl F.m N).getD c 0)) (c := c) TT.out)
      go_wp2
      go_roundw
      case rel => exact ⟨c + 1, n3, c3, A3, by go_num, rfl, by omega, by rw [NY.out]; exact O.out, D.out⟩
      case measure => simp [intOf]; omega
    · have NY := Lib.hid (lst_yes (p := fun c => nB F N ((rtl F.m N).getD c 0)) (c := c) TT.out)
      go_wp2_with (at_builtin; refine Wd.push_int rfl _ _ rfl w.heap.size W.heap.size c3 W.heap.size n3 A3 _ c rfl (by exact O.out.below (al1 W _) (Nat.le_refl _)) rfl (by exact Wd.alloc_first _ _ _ _ rfl) (by simp; omega) (by omega) ?_; intro A7 c7 w7 h5 h6; have O7 := Lib.hid h5; have D7 := Lib.hid ((D.out.trans ((al1 W _).mono zW)).trans (h6.below (Nat.le_refl _) (by simp; omega))); clear h5 h6)
      go_roundw
      case rel => exact ⟨c + 1, n3 + 1, c7, A7, by go_num, rfl, by omega, by rw [NY.out]; exact O7.out, D7.out⟩
      case measure => simp [intOf]; omega
set_option maxRecDepth 100000 in
set_option maxHeartbeats 8000000 in
theorem listed_spec (g N : Nat) (d : List Bool) (p : Nat → Bool) (w : World) (h : BlkB w g d) (hd : d.length = N) (hp : ∀ c, c < N → d.getD c false = p c) (hN : N ≤ 1000) :
    Calls Tryd.prog 129 #[.slice (some ⟨g, 0, none⟩) N N] w (ResLM w (lst p N)) := by
  have hg := h.lt
  have B := Lib.hid h
  have HD := Lib.hid hd
  have HP := Lib.hid hp
  clear h hd hp
  go_enter Tryd.func129, Tryd.ntmps129
  go_wp2
  obtain ⟨W5, hW5⟩ : ∃ W5, W5 = w.alloc (Obj.cells #[] 2) := ⟨_, rfl⟩
  have E5 := Lib.hid (show Own W5 w.heap.size W5.heap.size (some ⟨w.heap.size, 0, none⟩) 0 0 (lst p 0) from by rw [hW5]; exact (Wd.own_nil w).wide (Nat.le_refl _) (by simp))
  have D5 := Lib.hid (show Below w.heap.size w W5 from by rw [hW5]; exact al1 w _)
  rw [← hW5]
  clear hW5
  go_loopw [4, 3] (fun i v W => ∃ (c n3 c3 : Nat) (A3 : Option Addr), i = .int .i64 c ∧ v = .slice A3 n3 c3 ∧ c ≤ N ∧ Own W w.heap.size W.heap.size A3 n3 c3 (lst p c) ∧ Below w.heap.size w W) (fun i _ _ => N - (intOf i).toNat)
  case atStart => exact ⟨0, 0, 0, _, rfl, rfl, Nat.zero_le _, E5.out, D5.out⟩
  case round =>
    obtain ⟨W, rfl⟩ : ∃ W : World, W = wr := ⟨_, rfl⟩
    obtain ⟨c, n3, c3, A3, rfl, rfl, hc, ho, hb⟩ := hrel
    have O := Lib.hid ho
    have D := Lib.hid hb
    have n3c : n3 ≤ c := by rw [← ho.len]; exact lst_len _ _
    have LE := Lib.hid ho.len
    have zW := hb.size
    have i0 : (0 : Int) ≤ (c : Int) := by omega
    clear ho hb E5 D5
    by_cases hlt : c < N
    case neg =>
      obtain rfl : N = c := by omega
      have i1 : ¬ (N : Int) < (N : Int) := by omega
      go_wp2
      go_ret
      exact ⟨A3, c3, by rw [LE.out]; rfl, by rw [LE.out]; exact Wd.own_caps O.out, by rw [LE.out]; exact O.out.mine, D.out⟩
    have i1 : (c : Int) < (N : Int) := by omega
    have hcv := (D.out.cell (p := ⟨g, c, none⟩) hg).trans (B.out.cell (i := c) (by rw [HD.out]; exact hlt))
    rw [HP.out c hlt] at hcv
    obtain ⟨t, ht⟩ : ∃ t, p c = t := ⟨_, rfl⟩
    rw [ht] at hcv
    have TT := Lib.hid ht
    clear ht
    cases t
    · have NY := Lib.hid (lst_no TT.out)
      go_wp2
      go_roundw
      case rel => exact ⟨c + 1, n3, c3, A3, by go_num, rfl, by omega, by rw [NY.out]; exact O.out, D.out⟩
      case measure => simp [intOf]; omega
    · have NY := Lib.hid (lst_yes TT.out)
      go_wp2_with (at_builtin; refine Wd.push_int rfl _ _ rfl w.heap.size W.heap.size c3 W.heap.size n3 A3 _ c rfl (by exact O.out.below (al1 W _) (Nat.le_refl _)) rfl (by exact Wd.alloc_first _ _ _ _ rfl) (by simp; omega) (by omega) ?_; intro A7 c7 w7 h5 h6; have O7 := Lib.hid h5; have D7 := Lib.hid ((D.out.trans ((al1 W _).mono zW)).trans (h6.below (Nat.le_refl _) (by simp; omega))); clear h5 h6)
      go_roundw
      case rel => exact ⟨c + 1, n3 + 1, c7, A7, by go_num, rfl, by omega, by rw [NY.out]; exact O7.out, D7.out⟩
      case measure => simp [intOf]; omega
end Sk
end Go.Proofs.YtjendlfophdfeaaDoor

namespace Go.Proofs.YtjendlfophdfeaaDoor
open Go.RowKit
namespace Sk
def ResB (w : World) (a b d : List Int) (e : Ending) (w' : World) : Prop :=
  ∃ A1 c1 A2 c2 A3 c3 u v, e = .returned (.tuple #[.slice A1 a.length c1, .slice A2 b.length c2, .slice A3 d.length c3]) ∧ (w.heap.size ≤ u ∧ u ≤ v ∧ v ≤ w'.heap.size) ∧ Mine w' w.heap.size u A1 a.length a ∧ Mine w' u v A2 b.length b ∧ Mine w' v w'.heap.size A3 d.length d ∧ (a.length ≤ c1 ∧ c1 ≤ maxLen) ∧ (b.length ≤ c2 ∧ c2 ≤ maxLen) ∧ (d.length ≤ c3 ∧ c3 ≤ maxLen) ∧ Below w.heap.size w w'
def bcV (T : List (List Int)) : List Int := if Tr.Is T then bcP (FT T).v else []
def bcE (T : List (List Int)) : List Int := if Tr.Is T then bcP (FT T).e else []
def bcF (T : List (List Int)) : List Int := if Tr.Is T then bcP (FT T).f else []
theorem bc_no {T : List (List Int)} (h : ¬ Tr.Is T) : bcV T = [] ∧ bcE T = [] ∧ bcF T = [] := by unfold bcV bcE bcF; rw [if_neg h, if_neg h, if_neg h]; exact ⟨rfl, rfl, rfl⟩
theorem bc_yes {T : List (List Int)} (h : Tr.Is T) : bcV T = bcP (FT T).v ∧ bcE T = bcP (FT T).e ∧ bcF T = bcP (FT T).f := by unfold bcV bcE bcF; rw [if_pos h, if_pos h, if_pos h]; exact ⟨rfl, rfl, rfl⟩
theorem resB_nil (w w' : World) (h : Below w.heap.size w w') : ResB w [] [] [] (.returned (.tuple #[.slice none 0 0, .slice none 0 0, .slice none 0 0])) w' :=
  ⟨none, 0, none, 0, none, 0, w.heap.size, w.heap.size, rfl, ⟨Nat.le_refl _, Nat.le_refl _, h.size⟩, Mine.none_ _ _ _ _, Mine.none_ _ _ _ _, Mine.none_ _ _ _ _, ⟨Nat.le_refl _, by decide⟩, ⟨Nat.le_refl _, by decide⟩, ⟨Nat.le_refl _, by decide⟩, h⟩
theorem FT_mk {T : List (List Int)} (hT : Tr.Is T) : (Mk (FT T).v.m ∧ (FT T).v.m.length = 4 * T.length) ∧ (Mk (FT T).e.m ∧ (FT T).e.m.length = 6 * T.length) ∧ (Mk (FT T).f.m ∧ (FT T).f.m.length = 4 * T.length) := by
  have h := upto_good hT _ (Nat.le_refl _)
  exact ⟨⟨h.1.mk, h.1.len⟩, ⟨h.2.1.mk, h.2.1.len⟩, ⟨h.2.2.mk, h.2.2.len⟩⟩
set_option maxRecDepth 100000 in
set_option maxHeartbeats 8000000 in
theorem bounds_impl (A : Option Addr) (n c : Nat) (T : List (List Int)) (w : World) (h : Fc.RdT w w.heap.size A n T) (hv : Ws w) (hn : n ≤ 1048576) :
    Calls Tryd.prog 64 #[.agg #[.slice A n c]] w (ResB w (bcV T) (bcE T) (bcF T)) := by
  obtain ⟨U, hU⟩ : ∃ U, U = w.alloc (Obj.cells #[.slice A n c] 29) := ⟨_, rfl⟩
  have hB : Below w.heap.size w U := by rw [hU]; exact al1 _ _
  obtain ⟨z, zb⟩ : U.heap.size ≤ w.heap.size + 1 ∧ w.heap.size + 1 ≤ U.heap.size := by rw [hU]; simp
  have k0 : U.cell? ⟨w.heap.size, 0, none⟩ = some (.slice A n c) := by rw [hU]; simp [go_sem]
  have LN := Lib.hid h.len
  have DU := Lib.hid hB
  have HT := Lib.hid h
  have HV := Lib.hid hv
  have TI := Lib.hid (Fc.isTri_implT A n c T U (h.into hB) (hv.below hB (Nat.le_refl _)).1 hn)
  clear h hv hB
  by_cases hok : Tr.Is T
  case neg =>
    have R := Lib.hid (bc_no hok)
    rw [decide_eq_false hok] at TI
    clear hok
    go_enter Tryd.func64, Tryd.ntmps64
    go_upto_region 1 with fail
    rw [← hU]
    clear hU
    go_wp2_with fail
    (with_reducible refine TI.out.mono ?_)
    rintro e w1 ⟨rfl, hb⟩
    have D1 := Lib.hid (DU.out.trans (hb.mono (by omega)))
    clear hb
    go_wp2
    refine bodyPost_ret (v := .tuple #[.slice none 0 0, .slice none 0 0, .slice none 0 0]) (by simp [results, Tryd.results64, go_sem]) rfl ?_
    obtain ⟨a, b, d⟩ := R.out
    rw [a, b, d]
    exact resB_nil _ _ D1.out
  rw [decide_eq_true hok] at TI
  have h8 : n ≤ 8 := by rw [← LN.out]; exact hok.1
  have R := Lib.hid (bc_yes hok)
  have IS := Lib.hid hok
  clear hok
  go_enter Tryd.func64, Tryd.ntmps64
  go_upto_region 1 with fail
  rw [← hU]
  clear hU
  go_wp2_with fail
  (with_reducible refine TI.out.mono ?_)
  rintro e w1 ⟨rfl, hb⟩
  have D1 := Lib.hid (DU.out.trans (hb.mono (by omega)))
  have k0 := (hb.cell (p := ⟨w.heap.size, 0, none⟩) (by dsimp only; omega)).trans k0
  have z1 := hb.size
  have FI := Lib.hid (forest_impl A n c T w1 (HT.out.into D1.out) (HV.out.below D1.out (Nat.le_refl _)).1 (HV.out.below D1.out (Nat.le_refl _)).2 IS.out)
  clear hb TI
  go_wp2_with fail
  (with_reducible refine FI.out.mono ?_)
  rintro e w2 ⟨zz, rfl, hz, hS, hb⟩
  have D2 := Lib.hid (D1.out.trans (hb.mono (by omega)))
  have z2 := hb.size
  obtain ⟨V, hV⟩ : ∃ V, V = w2.alloc (Obj.cells #[.pointer (some ⟨zz + 1, 0, none⟩), .pointer (some ⟨zz + 3, 0, none⟩), .pointer (some ⟨zz + 5, 0, none⟩)] 149) := ⟨_, rfl⟩
  have BV : Below w2.heap.size w2 V := by rw [hV]; exact al1 _ _
  have D3 := Lib.hid (D2.out.trans (BV.mono (by omega)))
  have zV := BV.size
  have s0 : V.cell? ⟨w2.heap.size, 0, none⟩ = some (.pointer (some ⟨zz + 1, 0, none⟩)) := by rw [hV]; simp [go_sem]
  have s1 : V.cell? ⟨w2.heap.size, 1, none⟩ = some (.pointer (some ⟨zz + 3, 0, none⟩)) := by rw [hV]; simp [go_sem]
  have s2 : V.cell? ⟨w2.heap.size, 2, none⟩ = some (.pointer (some ⟨zz + 5, 0, none⟩)) := by rw [hV]; simp [go_sem]
  have lV : w2.heap.size < V.heap.size := World.block_lt_of_cell? V _ s0
  have SV := Lib.hid (hS.below BV)
  have mk : ((Mk (FT T).v.m ∧ (FT T).v.m.length = 4 * T.length) ∧ (Mk (FT T).e.m ∧ (FT T).e.m.length = 6 * T.length) ∧ (Mk (FT T).f.m ∧ (FT T).f.m.length = 4 * T.length)) := FT_mk IS.out
  have C1 := Lib.hid (show Calls Tryd.prog 130 #[.pointer (some ⟨zz + 1, 0, none⟩)] V.drew (ResLM V.drew (bcV T)) from by rw [R.out.1]; exact bcl_impl zz (4 * n) 4 _ (FT T).v V.drew (SV.out.1.below (Below.refl _ _).drew) mk.1.1 (mk.1.2.trans (by rw [LN.out])) (by omega))
  have C2 := Lib.hid (fun (Y : World) (hb : Below V.heap.size V Y) => (show Calls Tryd.prog 130 #[.pointer (some ⟨zz + 3, 0, none⟩)] Y (ResLM Y (bcE T)) from by rw [R.out.2.1]; exact bcl_impl (zz + 2) (6 * n) 6 _ (FT T).e Y (SV.out.2.1.below hb) mk.2.1.1 (mk.2.1.2.trans (by rw [LN.out])) (by omega)))
  have C3 := Lib.hid (fun (Y : World) (hb : Below V.heap.size V Y) => (show Calls Tryd.prog 130 #[.pointer (some ⟨zz + 5, 0, none⟩)] Y (ResLM Y (bcF T)) from by rw [R.out.2.2]; exact bcl_impl (zz + 4) (4 * n) 4 _ (FT T).f Y (SV.out.2.2.below hb) mk.2.2.1 (mk.2.2.2.trans (by rw [LN.out])) (by omega)))
  have SF := Lib.hid (fun (Y : World) (hb : Below V.heap.size V Y) => (show Y.cell? ⟨w2.heap.size, 0, none⟩ = some (.pointer (some ⟨zz + 1, 0, none⟩)) ∧ Y.cell? ⟨w2.heap.size, 1, none⟩ = some (.pointer (some ⟨zz + 3, 0, none⟩)) ∧ Y.cell? ⟨w2.heap.size, 2, none⟩ = some (.pointer (some ⟨zz + 5, 0, none⟩)) from
    ⟨(hb.cell (p := ⟨w2.heap.size, 0, none⟩) lV).trans s0, (hb.cell (p := ⟨w2.heap.size, 1, none⟩) lV).trans s1, (hb.cell (p := ⟨w2.heap.size, 2, none⟩) lV).trans s2⟩))
  clear hS hb BV FI mk
  go_upto_region 4 with fail
  rw [← hV]
  clear hV
  go_region_held3 (fun Y => Y.cell? ⟨w2.heap.size, 0, none⟩ = some (.pointer (some ⟨zz + 1, 0, none⟩)) ∧ Y.cell? ⟨w2.heap.size, 1, none⟩ = some (.pointer (some ⟨zz + 3, 0, none⟩)) ∧ Y.cell? ⟨w2.heap.size, 2, none⟩ = some (.pointer (some ⟨zz + 5, 0, none⟩))) (go_keep) (first
    | (go_at_call 130; (with_reducible refine C1.out.mono ?_); rintro e y6 ⟨A6, c6, rfl, q6, o6, hb6'⟩; have hb6 := undrew hb6'; have O6 := Lib.hid (show Mine y6 V.heap.size y6.heap.size A6 (bcV T).length (bcV T) from o6); have Q6 := Lib.hid q6; have Z6 := Lib.hid hb6.size; have CUR := Lib.hid hb6; obtain ⟨s0, s1, s2⟩ := SF.out _ hb6; clear o6 q6 hb6 hb6')
    | (go_at_call 130; (with_reducible refine (C2.out _ CUR.out).mono ?_); rintro e y7 ⟨A7, c7, rfl, q7, o7, hb7⟩; have O67 := Lib.hid (O6.out.below hb7 (Nat.le_refl _)); have Z67 := Lib.hid hb7.size; have O7 := Lib.hid o7; have Q7 := Lib.hid q7; replace CUR := Lib.hid (CUR.out.trans (hb7.mono CUR.out.size)); obtain ⟨s0, s1, s2⟩ := SF.out _ CUR.out; clear o7 q7 hb7)
    | (go_at_call 130; (with_reducible refine (C3.out _ CUR.out).mono ?_); rintro e y8 ⟨A8, c8, rfl, q8, o8, hb8⟩; have O68 := Lib.hid (O67.out.below hb8 Z67.out); have O78 := Lib.hid (O7.out.below hb8 (Nat.le_refl _)); have Z78 := Lib.hid hb8.size; have O8 := Lib.hid o8; have Q8 := Lib.hid q8; replace CUR := Lib.hid (CUR.out.trans (hb8.mono CUR.out.size)); obtain ⟨s0, s1, s2⟩ := SF.out _ CUR.out; clear o8 q8 hb8))
  all_goals
    have z6 : V.heap.size ≤ y6.heap.size := Z6.out
    have z67 := Z67.out
    have z78 := Z78.out
    have zw : w.heap.size ≤ V.heap.size := by omega
    have DY := Lib.hid (D3.out.trans (CUR.out.mono zw))
    go_wp2
    refine bodyPost_ret (v := .tuple #[.slice A6 (bcV T).length c6, .slice A7 (bcE T).length c7, .slice A8 (bcF T).length c8]) (by simp [results, Tryd.results64, go_sem]) rfl ?_
    exact ⟨A6, c6, A7, c7, A8, c8, y6.heap.size, y7.heap.size, rfl, ⟨by omega, z67, z78⟩, O68.out.wide zw (Nat.le_refl _), O78.out, O8.out, Q6.out, Q7.out, Q8.out, DY.out⟩
end Sk
end Go.Proofs.YtjendlfophdfeaaDoor

namespace Go.Proofs.YtjendlfophdfeaaDoor
open Go.RowKit
namespace Sk
theorem cls_lt {m : List Int} {N j : Nat} (hm : Mk m) (hl : m.length = N) (hj : j < N) : cls m j < rk m N := by
  obtain ⟨r, e, hr, e2⟩ := hm.lo j (by omega)
  unfold cls
  rw [e, Int.toNat_natCast]
  exact rk_lt (by omega) e2
/-- Flags of the classes of some cells, in a block. -/
def BF (W : World) (g : Nat) (m : List Int) (cnt : Nat) (L : List Nat) : Prop := ∃ d, BlkB W g d ∧ d.length = cnt ∧ ∀ c, c < cnt → d.getD c false = decide (∃ j ∈ L, cls m j = c)
theorem BF.keep {W W' : World} {g : Nat} {m : List Int} {cnt : Nat} {L : List Nat} (h : BF W g m cnt L) (hk : W'.heap[g]? = W.heap[g]?) : BF W' g m cnt L := by
  obtain ⟨d, h1, h2, h3⟩ := h
  exact ⟨d, by unfold BlkB at h1 ⊢; rw [hk]; exact h1, h2, h3⟩
theorem BF.lt {W : World} {g : Nat} {m : List Int} {cnt : Nat} {L : List Nat} (h : BF W g m cnt L) : g < W.heap.size := by obtain ⟨d, h1, -⟩ := h; exact h1.lt
theorem BF.far {W : World} {g : Nat} {m : List Int} {cnt : Nat} {L : List Nat} (h : BF W g m cnt L) {p : Addr} (hp : p.block ≠ g) (u : Value) : BF (W.setCell p u) g m cnt L := h.keep (Below.heap_setCell W p u g (by omega))
theorem BF.start (W : World) (m : List Int) (cnt : Nat) : BF (W.alloc (Obj.cells ((List.replicate cnt false).map Value.bool).toArray 4)) W.heap.size m cnt [] :=
  ⟨List.replicate cnt false, heap_alloc_new W _, by simp, fun c hc => by simp [hc]⟩
theorem BF.at_ {W : World} {g : Nat} {m : List Int} {cnt : Nat} {L : List Nat} (h : BF W g m cnt L) {c : Nat} (hc : c < cnt) : ∃ b, W.cell? ⟨g, c, none⟩ = some (.bool b) ∧ W.frozen? ⟨g, c, none⟩ = false := by
  obtain ⟨d, h1, h2, -⟩ := h
  exact ⟨_, h1.cell (by omega), h1.frozen _⟩
theorem BF.set_ {W : World} {g : Nat} {m : List Int} {cnt : Nat} {L : List Nat} (h : BF W g m cnt L) {j c : Nat} (hj : cls m j = c) (_hc : c < cnt) : BF (W.setCell ⟨g, c, none⟩ (.bool true)) g m cnt (L ++ [j]) := by
  obtain ⟨d, h1, h2, h3⟩ := h
  refine ⟨d.set c true, h1.set_ c true, by simp [h2], fun c' hc' => ?_⟩
  rw [getD_setB (by omega)]
  by_cases e : c = c'
  · rw [if_pos e]
    symm
    rw [decide_eq_true_iff]
    exact ⟨j, by simp, hj.trans e⟩
  · rw [if_neg e, h3 c' hc', Bool.eq_iff_iff, decide_eq_true_iff, decide_eq_true_iff]
    constructor
    · rintro ⟨i, hi, x⟩
      exact ⟨i, by simp [hi], x⟩
    · rintro ⟨i, hi, x⟩
      rcases List.mem_append.1 hi with h | h
      · exact ⟨i, h, x⟩
      · simp at h; subst h; exact absurd (hj.symm.trans x) e
/-- The three blocks of flags. -/
structure B3 (W : World) (g : Nat) (T : List (List Int)) (L1 L2 L3 : List Nat) : Prop where
  v : BF W g (MT T).v (cntV T) L1
  e : BF W (g + 1) (MT T).e (cntE T) L2
  f : BF W (g + 2) (MT T).f (cntF T) L3
theorem B3.keep {W W' : World} {g : Nat} {T : List (List Int)} {L1 L2 L3 : List Nat} (h : B3 W g T L1 L2 L3) (hk : ∀ k, g ≤ k → k < g + 3 → W'.heap[k]? = W.heap[k]?) : B3 W' g T L1 L2 L3 :=
  ⟨h.v.keep (hk _ (by omega) (by omega)), h.e.keep (hk _ (by omega) (by omega)), h.f.keep (hk _ (by omega) (by omega))⟩
theorem B3.below {W W' : World} {g B : Nat} {T : List (List Int)} {L1 L2 L3 : List Nat} (h : B3 W g T L1 L2 L3) (hb : Below B W W') (hB : g + 3 ≤ B) : B3 W' g T L1 L2 L3 := h.keep fun k _ h2 => hb.block k (by omega)
/-- The cells of a list of pairs. -/
def pc (G : Nat → Nat → List Nat) (zs : List (List Int)) : List Nat := zs.flatMap fun z => G (z.getD 0 0).toNat (z.getD 1 0).toNat
theorem pc_app (G : Nat → Nat → List Nat) (a b : List (List Int)) : pc G (a ++ b) = pc G a ++ pc G b := by simp [pc]
theorem pc_one (G : Nat → Nat → List Nat) (a f : Nat) : pc G [[(a : Int), (f : Int)]] = G a f := by simp [pc]
theorem pc_bd4 (G : Nat → Nat → List Nat) (T : List (List Int)) (M : Nat → List Nat) (hs : ∀ k, M (k + 1) = if Tr.tt T (k / 4) (k % 4) < 0 then M k ++ G (k / 4) (k % 4) else M k) (a : Nat) : ∀ f, f ≤ 4 → M (a * 4 + f) = M (a * 4) ++ pc G (Tr.bd4 T a f) := by
  intro f
  induction f with
  | zero => intro _; simp [Tr.bd4, pc]
  | succ f ih =>
    intro hf
    rw [show a * 4 + (f + 1) = a * 4 + f + 1 from rfl, hs, show (a * 4 + f) / 4 = a by omega, show (a * 4 + f) % 4 = f by omega, ih (by omega)]
    by_cases h : Tr.tt T a f < 0
    · rw [if_pos h, Tr.bd4_yes h, pc_app, pc_one, List.append_assoc]
    · rw [if_neg h, Tr.bd4_no h]
theorem pc_bdl (G : Nat → Nat → List Nat) (T : List (List Int)) (M : Nat → List Nat) (h0 : M 0 = []) (hs : ∀ k, M (k + 1) = if Tr.tt T (k / 4) (k % 4) < 0 then M k ++ G (k / 4) (k % 4) else M k) : ∀ a, M (a * 4) = pc G (Tr.bdl T a) := by
  intro a
  induction a with
  | zero => simpa [Tr.bdl, pc] using h0
  | succ a ih => rw [show (a + 1) * 4 = a * 4 + 4 by omega, pc_bd4 G T M hs a 4 (Nat.le_refl _), ih, Tr.bdl, pc_app]
def gV (a f : Nat) : List Nat := clsV a f 4
def gE (a f : Nat) : List Nat := clsE a f 6
def gF (a f : Nat) : List Nat := [4 * a + f]
theorem mr_pc (T : List (List Int)) (a : Nat) : mrV T (a * 4) = pc gV (Tr.bdl T a) ∧ mrE T (a * 4) = pc gE (Tr.bdl T a) ∧ mrF T (a * 4) = pc gF (Tr.bdl T a) :=
  ⟨pc_bdl gV T (mrV T) rfl (fun _ => rfl) a, pc_bdl gE T (mrE T) rfl (fun _ => rfl) a, pc_bdl gF T (mrF T) rfl (fun _ => rfl) a⟩
theorem bdl_at {T : List (List Int)} : ∀ {n : Nat} {z : List Int}, z ∈ Tr.bdl T n → ∃ a f : Nat, z = [(a : Int), (f : Int)] ∧ a < n ∧ f < 4 := by
  intro n
  induction n with
  | zero => intro z hz; simp [Tr.bdl] at hz
  | succ n ih =>
    intro z hz
    simp only [Tr.bdl] at hz
    rcases List.mem_append.1 hz with h | h
    · obtain ⟨a, f, h1, h2, h3⟩ := ih h
      exact ⟨a, f, h1, by omega, h3⟩
    · have key : ∀ k, k ≤ 4 → z ∈ Tr.bd4 T n k → ∃ f : Nat, z = [(n : Int), (f : Int)] ∧ f < 4 := by
        intro k
        induction k with
        | zero => intro _ h; simp [Tr.bd4] at h
        | succ k ih2 =>
          intro hk h
          simp only [Tr.bd4] at h
          rcases List.mem_append.1 h with h | h
          · exact ih2 (by omega) h
          · unfold Tr.bp at h
            split at h
            · simp at h; exact ⟨k, h, by omega⟩
            · simp at h
      obtain ⟨f, h1, h2⟩ := key 4 (Nat.le_refl _) h
      exact ⟨n, f, h1, by omega, h2⟩
theorem clsV_in (a f n : Nat) (ha : a < n) : ∀ k, k ≤ 4 → ∀ j ∈ clsV a f k, j < 4 * n := by
  intro k
  induction k with
  | zero => intro _ j h; simp [clsV] at h
  | succ k ih =>
    intro hk j h
    simp only [clsV] at h
    split at h
    · exact ih (by omega) j h
    · rcases List.mem_append.1 h with h | h
      · exact ih (by omega) j h
      · simp at h; omega
theorem clsE_in (a f n : Nat) (ha : a < n) : ∀ k, k ≤ 6 → ∀ j ∈ clsE a f k, j < 6 * n := by
  intro k
  induction k with
  | zero => intro _ j h; simp [clsE] at h
  | succ k ih =>
    intro hk j h
    simp only [clsE] at h
    split at h
    · rcases List.mem_append.1 h with h | h
      · exact ih (by omega) j h
      · simp at h; omega
    · exact ih (by omega) j h
theorem pc_in {G : Nat → Nat → List Nat} {T : List (List Int)} {n N : Nat} (h : ∀ a f, a < n → f < 4 → ∀ j ∈ G a f, j < N) : ∀ j ∈ pc G (Tr.bdl T n), j < N := by
  intro j hj
  obtain ⟨z, hz, h2⟩ := List.mem_flatMap.1 hj
  obtain ⟨a, f, rfl, ha, hf⟩ := bdl_at hz
  simp at h2
  exact h a f ha hf j h2
theorem bc_all {T : List (List Int)} (hT : Tr.Is T) : bcP (FT T).v = lst (fun c => decide (∃ j ∈ pc gV (Tr.bdl T T.length), cls (MT T).v j = c)) (cntV T) ∧ bcP (FT T).e = lst (fun c => decide (∃ j ∈ pc gE (Tr.bdl T T.length), cls (MT T).e j = c)) (cntE T) ∧ bcP (FT T).f = lst (fun c => decide (∃ j ∈ pc gF (Tr.bdl T T.length), cls (MT T).f j = c)) (cntF T) := by
  obtain ⟨⟨k1, l1⟩, ⟨k2, l2⟩, k3, l3⟩ := FT_mk hT
  have hp := mr_pc T T.length
  have ev : (FT T).v.m = (MT T).v := by show (FT T).ms.v = _; rw [FT_ms]
  have ee : (FT T).e.m = (MT T).e := by show (FT T).ms.e = _; rw [FT_ms]
  have ef : (FT T).f.m = (MT T).f := by show (FT T).ms.f = _; rw [FT_ms]
  have b := FT_bd T
  refine ⟨?_, ?_, ?_⟩
  · rw [bc_same (L := pc gV (Tr.bdl T T.length)) k1 (fun j hj => by rw [l1]; exact pc_in (N := 4 * T.length) (fun a f ha hf => clsV_in a f _ ha 4 (Nat.le_refl _)) j hj) (fun j => by rw [(b j).1, hp.1])]
    unfold bcS; rw [l1, ev]; rfl
  · rw [bc_same (L := pc gE (Tr.bdl T T.length)) k2 (fun j hj => by rw [l2]; exact pc_in (N := 6 * T.length) (fun a f ha hf => clsE_in a f _ ha 6 (Nat.le_refl _)) j hj) (fun j => by rw [(b j).2.1, hp.2.1])]
    unfold bcS; rw [l2, ee]; rfl
  · rw [bc_same (L := pc gF (Tr.bdl T T.length)) k3 (fun j hj => by rw [l3]; exact pc_in (N := 4 * T.length) (fun a f ha hf j hj => by simp [gF] at hj; omega) j hj) (fun j => by rw [(b j).2.2, hp.2.2])]
    unfold bcS; rw [l3, ef]; rfl
/-- A class in a table in memory. -/
theorem tbl_row {m : List Int} {wd n a : Nat} (ha : a < n) : (tblS m wd n).getD a [] = rowS m wd a wd := by simp [tblS, ha]
theorem row_at {m : List Int} {wd a k : Nat} (hk : k < wd) : (rowS m wd a wd).getD k 0 = (cls m (a * wd + k) : Int) := by simp [rowS, hk]
theorem tbl_cell {W : World} {B : Nat} {A : Option Addr} {rs : List Rw} {m : List Int} {wd n : Nat} (h : RdS W B A rs) (hv : vals rs = tblS m wd n) {a : Nat} (ha : a < n) (hw : 0 < wd) :
    ∃ b off Bj oj cj, A = some ⟨b, off, none⟩ ∧ W.cell? ⟨b, off + a, none⟩ = some (.slice (some ⟨Bj, oj, none⟩) wd cj) ∧ wd ≤ cj ∧ cj ≤ maxLen ∧ ∀ k, k < wd → W.cell? ⟨Bj, oj + k, none⟩ = some (.int .i64 (cls m (a * wd + k) : Int)) := by
  have hl : rs.length = n := by have := congrArg List.length hv; rwa [vals_len, tblS_len] at this
  obtain ⟨b, off, Aj, cj, zj, h1, h2, h3, h4, h5, h6, h7⟩ := h.at_ (j := a) (by omega)
  have e : zj = rowS m wd a wd := by
    have h9 : (vals rs).getD a [] = zj := by
      have : (vals rs).getD a [] = (rs.getD a nilRw).zs := by
        unfold vals
        simp [List.getD_eq_getElem?_getD, show a < rs.length by omega]
      rw [this, h3]
    rw [← h9, hv, tbl_row ha]
  subst e
  rw [rowS_len] at h4 h5 h7
  obtain ⟨b', off', rfl, -, h8⟩ := h7.2 hw
  exact ⟨b, off, b', off', cj, h1, h4, h5, h6, fun k hk => by rw [← row_at hk]; exact h8 k hk⟩
end Sk
end Go.Proofs.YtjendlfophdfeaaDoor

namespace Go.Proofs.YtjendlfophdfeaaDoor
open Go.RowKit
namespace Sk
theorem isB {cntX : Nat} {m : List Int} {L : List Nat} {W : World} {g : Nat} (h : BF W g m cntX L) (hc : cntX ≤ 1000) :
    Calls Tryd.prog 129 #[.slice (some ⟨g, 0, none⟩) cntX cntX] W (ResLM W (lst (fun c => decide (∃ j ∈ L, cls m j = c)) cntX)) := by
  obtain ⟨d, h1, h2, h3⟩ := h
  exact listed_spec g cntX d _ W h1 h2 h3 hc
set_option maxRecDepth 100000 in
set_option maxHeartbeats 8000000 in
theorem bounds_spec (A : Option Addr) (n c : Nat) (T : List (List Int)) (w : World) (h : Fc.RdT w w.heap.size A n T) (hn : n ≤ 1048576) :
    Calls Tryd.prog 63 #[.agg #[.slice A n c]] w (ResB w (bcV T) (bcE T) (bcF T)) := by
  obtain ⟨U, hU⟩ : ∃ U, U = w.alloc (Obj.cells #[.slice A n c] 29) := ⟨_, rfl⟩
  have hB : Below w.heap.size w U := by rw [hU]; exact al1 _ _
  obtain ⟨z, zb⟩ : U.heap.size ≤ w.heap.size + 1 ∧ w.heap.size + 1 ≤ U.heap.size := by rw [hU]; simp
  have k0 : U.cell? ⟨w.heap.size, 0, none⟩ = some (.slice A n c) := by rw [hU]; simp [go_sem]
  have LN := Lib.hid h.len
  have DU := Lib.hid hB
  have HT := Lib.hid h
  have TI := Lib.hid (Fc.isTri_specT A n c T U (h.into hB) hn)
  clear h hB
  by_cases hok : Tr.Is T
  case neg =>
    have R := Lib.hid (bc_no hok)
    rw [decide_eq_false hok] at TI
    clear hok
    go_enter Tryd.func63, Tryd.ntmps63
    go_upto_region 1 with fail
    rw [← hU]
    clear hU
    go_wp2_with fail
    (with_reducible refine TI.out.mono ?_)
    rintro e w1 ⟨rfl, hb⟩
    have D1 := Lib.hid (DU.out.trans (hb.mono (by omega)))
    clear hb
    go_wp2
    refine bodyPost_ret (v := .tuple #[.slice none 0 0, .slice none 0 0, .slice none 0 0]) (by simp [results, Tryd.results63, go_sem]) rfl ?_
    obtain ⟨a, b, d⟩ := R.out
    rw [a, b, d]
    exact resB_nil _ _ D1.out
  rw [decide_eq_true hok] at TI
  have h8 : n ≤ 8 := by rw [← LN.out]; exact hok.1
  have R := Lib.hid (bc_yes hok)
  have RA := Lib.hid (bc_all hok)
  have IS := Lib.hid hok
  have H4 := Lib.hid hok.2.1
  have MKS := Lib.hid (MT_mk hok)
  clear hok
  go_enter Tryd.func63, Tryd.ntmps63
  go_upto_region 1 with fail
  rw [← hU]
  clear hU
  go_wp2_with fail
  (with_reducible refine TI.out.mono ?_)
  rintro e w1 ⟨rfl, hb⟩
  have D1 := Lib.hid (DU.out.trans (hb.mono (by omega)))
  have k0 := (hb.cell (p := ⟨w.heap.size, 0, none⟩) (by dsimp only; omega)).trans k0
  have z1 := hb.size
  have CI := Lib.hid (count_spec A n c T w1 (HT.out.into D1.out) IS.out)
  clear hb TI
  go_wp2_with fail
  (with_reducible refine CI.out.mono ?_)
  rintro e w2 ⟨Av, cv, Ae, ce, Af, cf, Ac, cc, rv, re, rf, rfl, ⟨l1, u1, ⟨y1, x1⟩, h1, v1⟩, ⟨l2, u2, ⟨y2, x2⟩, h2, v2⟩, ⟨l3, u3, ⟨y3, x3⟩, h3, v3⟩, ⟨hcc, hM⟩, hb⟩
  have D2 := Lib.hid (D1.out.trans (hb.mono (by omega)))
  have z2 := hb.size
  have k0 := (hb.cell (p := ⟨w.heap.size, 0, none⟩) (by dsimp only; omega)).trans k0
  have hcc1 := hcc.1
  have hcc2 := hcc.2
  obtain ⟨bc, oc, rfl, hbc1, hbc2, hcell⟩ := hM.2 (by omega)
  have c0 : w2.cell? ⟨bc, oc, none⟩ = some (.int .i64 (cntV T : Int)) := by simpa using (hcell 0 (by omega)).1
  have c1 : w2.cell? ⟨bc, oc + 1, none⟩ = some (.int .i64 (cntE T : Int)) := by simpa using (hcell 1 (by omega)).1
  have c2 : w2.cell? ⟨bc, oc + 2, none⟩ = some (.int .i64 (cntF T : Int)) := by simpa using (hcell 2 (by omega)).1
  have qv : cntV T ≤ 32 := by have := rk_le (MT T).v (4 * T.length); have := LN.out; unfold cntV; omega
  have qe : cntE T ≤ 48 := by have := rk_le (MT T).e (6 * T.length); have := LN.out; unfold cntE; omega
  have qf : cntF T ≤ 32 := by have := rk_le (MT T).f (4 * T.length); have := LN.out; unfold cntF; omega
  have TR := Lib.hid (show RdS w2 w2.heap.size Av rv ∧ RdS w2 w2.heap.size Ae re ∧ RdS w2 w2.heap.size Af rf from ⟨h1.rd.more x1, h2.rd.more x2, h3.rd.more x3⟩)
  have VV := Lib.hid (show vals rv = tblS (MT T).v 4 n ∧ vals re = tblS (MT T).e 6 n ∧ vals rf = tblS (MT T).f 4 n from by rw [v1, v2, v3]; unfold tabV tabE tabF; rw [LN.out]; exact ⟨rfl, rfl, rfl⟩)
  clear hb CI h1 h2 h3 v1 v2 v3 hM hcell
  obtain ⟨V1, hV1⟩ : ∃ V, V = w2.alloc (Obj.cells #[.slice Av rv.length cv, .slice Ae re.length ce, .slice Af rf.length cf] 59) := ⟨_, rfl⟩
  obtain ⟨V2, hV2⟩ : ∃ V, V = V1.alloc (Obj.cells (Array.replicate (cntV T) (Value.bool false)) 4) := ⟨_, rfl⟩
  obtain ⟨V3, hV3⟩ : ∃ V, V = V2.alloc (Obj.cells (Array.replicate (cntE T) (Value.bool false)) 4) := ⟨_, rfl⟩
  obtain ⟨V4, hV4⟩ : ∃ V, V = V3.alloc (Obj.cells (Array.replicate (cntF T) (Value.bool false)) 4) := ⟨_, rfl⟩
  have b1 : Below w2.heap.size w2 V1 := by rw [hV1]; exact al1 _ _
  have b2 : Below V1.heap.size V1 V2 := by rw [hV2]; exact al1 _ _
  have b3 : Below V2.heap.size V2 V3 := by rw [hV3]; exact al1 _ _
  have b4 : Below V3.heap.size V3 V4 := by rw [hV4]; exact al1 _ _
  obtain ⟨zz1, zz1'⟩ : V1.heap.size ≤ w2.heap.size + 1 ∧ w2.heap.size + 1 ≤ V1.heap.size := by rw [hV1]; simp
  obtain ⟨zz2, zz2'⟩ : V2.heap.size ≤ V1.heap.size + 1 ∧ V1.heap.size + 1 ≤ V2.heap.size := by rw [hV2]; simp
  obtain ⟨zz3, zz3'⟩ : V3.heap.size ≤ V2.heap.size + 1 ∧ V2.heap.size + 1 ≤ V3.heap.size := by rw [hV3]; simp
  obtain ⟨zz4, zz4'⟩ : V4.heap.size ≤ V3.heap.size + 1 ∧ V3.heap.size + 1 ≤ V4.heap.size := by rw [hV4]; simp
  have b12 := b1.trans (b2.mono (by omega))
  have b13 := b12.trans (b3.mono (by omega))
  have b14 := b13.trans (b4.mono (by omega))
  have s0 : V1.cell? ⟨w2.heap.size, 0, none⟩ = some (.slice Av rv.length cv) := by rw [hV1]; simp [go_sem]
  have s1 : V1.cell? ⟨w2.heap.size, 1, none⟩ = some (.slice Ae re.length ce) := by rw [hV1]; simp [go_sem]
  have s2 : V1.cell? ⟨w2.heap.size, 2, none⟩ = some (.slice Af rf.length cf) := by rw [hV1]; simp [go_sem]
  have c0 := (b1.cell (p := ⟨bc, oc, none⟩) hbc2).trans c0
  have c1 := (b12.cell (p := ⟨bc, oc + 1, none⟩) hbc2).trans c1
  have c2 := (b13.cell (p := ⟨bc, oc + 2, none⟩) hbc2).trans c2
  have b24 := (b2.trans (b3.mono (by omega))).trans (b4.mono (by omega))
  have s0 := (b24.cell (p := ⟨w2.heap.size, 0, none⟩) (by dsimp only; omega)).trans s0
  have s1 := (b24.cell (p := ⟨w2.heap.size, 1, none⟩) (by dsimp only; omega)).trans s1
  have s2 := (b24.cell (p := ⟨w2.heap.size, 2, none⟩) (by dsimp only; omega)).trans s2
  obtain ⟨g, hg⟩ : ∃ g, V1.heap.size = g := ⟨_, rfl⟩
  have g2 : V2.heap.size = g + 1 := by omega
  have g3 : V3.heap.size = g + 2 := by omega
  have g4 : V4.heap.size = g + 3 := by omega
  have B0 := Lib.hid (show B3 V4 g T [] [] [] from by
    refine ⟨?_, ?_, ?_⟩
    · have := BF.start V1 (MT T).v (cntV T)
      rw [hg] at this
      have e : V2 = V1.alloc (Obj.cells ((List.replicate (cntV T) false).map Value.bool).toArray 4) := by rw [hV2]; simp
      rw [← e] at this
      exact this.keep ((b3.trans (b4.mono (by omega))).block g (by omega))
    · have := BF.start V2 (MT T).e (cntE T)
      rw [g2] at this
      have e : V3 = V2.alloc (Obj.cells ((List.replicate (cntE T) false).map Value.bool).toArray 4) := by rw [hV3]; simp
      rw [← e] at this
      exact this.keep (b4.block (g + 1) (by omega))
    · have := BF.start V3 (MT T).f (cntF T)
      rw [g3] at this
      have e : V4 = V3.alloc (Obj.cells ((List.replicate (cntF T) false).map Value.bool).toArray 4) := by rw [hV4]; simp
      rw [← e] at this
      exact this)
  have D4 := Lib.hid (D2.out.trans (b14.mono (by omega)))
  have TR4 := Lib.hid (show RdS V4 g Av rv ∧ RdS V4 g Ae re ∧ RdS V4 g Af rf from ⟨((TR.out.1.below b14).more (by omega)), ((TR.out.2.1.below b14).more (by omega)), ((TR.out.2.2.below b14).more (by omega))⟩)
  have k1 := (b1.cell (p := ⟨w.heap.size, 0, none⟩) (by dsimp only; omega)).trans k0
  have k4 := (b14.cell (p := ⟨w.heap.size, 0, none⟩) (by dsimp only; omega)).trans k0
  have BD := Lib.hid (boundary_specT A n c T V4 (HT.out.into D4.out) h8 H4.out)
  have MK1 := run_make_bools (cntV T) (by omega)
  have MK2 := run_make_bools (cntE T) (by omega)
  have MK3 := run_make_bools (cntF T) (by omega)
  clear b1 b2 b3 b4 b12 b13 b14 b24 TR
  go_upto_region 4 with fail
  rw [← hV1]
  clear hV1
  go_upto_region 5 with fail
  rw [← hV2]
  clear hV2
  go_upto_region 6 with fail
  rw [← hV3]
  clear hV3
  go_upto_region 7 with fail
  rw [← hV4]
  clear hV4 MK1 MK2 MK3 c0 c1 c2
  go_wp2_with fail
  (with_reducible refine BD.out.mono ?_)
  rintro e w4 ⟨Ap, cp, rs, rfl, hOp, hVp, hb⟩
  have zw4 := hb.size
  have D5 := Lib.hid (D4.out.trans (hb.mono (by omega)))
  have RL := Lib.hid (show rs.length = (Tr.bdl T n).length from by rw [← hVp, vals_len])
  have rl8 : rs.length ≤ 32 := by have := Tr.bdl_len T n; have := RL.out; omega
  have VP := Lib.hid hVp
  have OP := Lib.hid hOp
  have B5 := Lib.hid (B0.out.below hb (by omega))
  have TR5 := Lib.hid (show RdS w4 g Av rv ∧ RdS w4 g Ae re ∧ RdS w4 g Af rf from ⟨TR4.out.1.below (hb.mono (by omega)), TR4.out.2.1.below (hb.mono (by omega)), TR4.out.2.2.below (hb.mono (by omega))⟩)
  have k5 := (hb.cell (p := ⟨w.heap.size, 0, none⟩) (by dsimp only; omega)).trans k4
  have s0 := (hb.cell (p := ⟨w2.heap.size, 0, none⟩) (by dsimp only; omega)).trans s0
  have s1 := (hb.cell (p := ⟨w2.heap.size, 1, none⟩) (by dsimp only; omega)).trans s1
  have s2 := (hb.cell (p := ⟨w2.heap.size, 2, none⟩) (by dsimp only; omega)).trans s2
  have gw : g + 3 ≤ w4.heap.size := by omega
  have lv : rv.length = n := by have := congrArg List.length VV.out.1; rwa [vals_len, tblS_len] at this
  have le : re.length = n := by have := congrArg List.length VV.out.2.1; rwa [vals_len, tblS_len] at this
  have lf : rf.length = n := by have := congrArg List.length VV.out.2.2; rwa [vals_len, tblS_len] at this
  rw [lv] at s0
  rw [le] at s1
  rw [lf] at s2
  obtain ⟨o4, ho4⟩ : ∃ o4, V4.heap.size = o4 := ⟨_, rfl⟩
  rw [ho4] at OP
  have o43 : g + 3 ≤ o4 := by omega
  have wg : w.heap.size < g := by omega
  have w2g : w2.heap.size < g := by omega
  have wg' : w.heap.size ≤ g := by omega
  clear hb hOp hVp BD B0 TR4 D4 k0 k1 k4 D1 D2 DU HT ho4 zz1 zz1' zz2 zz2' zz3 zz3' zz4 zz4'
  go_wp2
  go_loopw [11] (fun i W => ∃ k : Nat, k ≤ rs.length ∧ i = .int .i64 k ∧ B3 W g T (pc gV ((Tr.bdl T n).take k)) (pc gE ((Tr.bdl T n).take k)) (pc gF ((Tr.bdl T n).take k)) ∧ Kept g (g + 3) w4 W) (fun i _ => rs.length - (intOf i).toNat)
  case atStart => exact ⟨0, Nat.zero_le _, rfl, by simpa [pc] using B5.out, Kept.refl _ _ _⟩
  case round =>
    obtain ⟨W, rfl⟩ : ∃ W : World, W = wr := ⟨_, rfl⟩
    obtain ⟨k, hk, rfl, hM, hK⟩ := hrel
    have MW := Lib.hid hM
    have KW := Lib.hid hK
    have zW := hK.size
    have hBg := hK.below (B := g) (Nat.le_refl _) (by omega)
    have DW := Lib.hid (D5.out.trans (hBg.mono wg'))
    have i0 : (0 : Int) ≤ (k : Int) := by omega
    clear hM hK B5
    by_cases hlt : k < rs.length
    case neg =>
      obtain rfl : k = rs.length := by omega
      have i1 : ¬ (rs.length : Int) < (rs.length : Int) := by omega
      have ETK := Lib.hid (show (Tr.bdl T n).take rs.length = Tr.bdl T T.length from by rw [RL.out, List.take_length, LN.out])
      rw [ETK.out] at MW
      have kW := (hBg.cell (p := ⟨w.heap.size, 0, none⟩) (by dsimp only; omega)).trans k5
      have gW : g + 3 ≤ W.heap.size := by omega
      have hwW : w.heap.size < W.heap.size := by omega
      have EV := Lib.hid (show bcV T = _ from R.out.1.trans RA.out.1)
      have EE := Lib.hid (show bcE T = _ from R.out.2.1.trans RA.out.2.1)
      have EF := Lib.hid (show bcF T = _ from R.out.2.2.trans RA.out.2.2)
      have C1 := Lib.hid (show Calls Tryd.prog 129 #[.slice (some ⟨g, 0, none⟩) (cntV T) (cntV T)] W (ResLM W (bcV T)) from by rw [EV.out]; exact isB MW.out.v (by omega))
      have C2 := Lib.hid (fun (Y : World) (hb : Below W.heap.size W Y) => (show Calls Tryd.prog 129 #[.slice (some ⟨g + 1, 0, none⟩) (cntE T) (cntE T)] Y (ResLM Y (bcE T)) from by rw [EE.out]; exact isB (MW.out.e.keep (hb.block _ (by omega))) (by omega)))
      have C3 := Lib.hid (fun (Y : World) (hb : Below W.heap.size W Y) => (show Calls Tryd.prog 129 #[.slice (some ⟨g + 2, 0, none⟩) (cntF T) (cntF T)] Y (ResLM Y (bcF T)) from by rw [EF.out]; exact isB (MW.out.f.keep (hb.block _ (by omega))) (by omega)))
      have SF := Lib.hid (fun (Y : World) (hb : Below W.heap.size W Y) => (show Y.cell? ⟨w.heap.size, 0, none⟩ = some (.slice A n c) from (hb.cell (p := ⟨w.heap.size, 0, none⟩) hwW).trans kW))
      clear hBg KW MW k5 s0 s1 s2
      go_upto_region 25 with fail
      go_wp2_with fail
      (with_reducible refine C1.out.mono ?_)
      rintro e y6 ⟨A6, c6, rfl, q6, o6, hb6⟩
      have O6 := Lib.hid (show Mine y6 W.heap.size y6.heap.size A6 (bcV T).length (bcV T) from o6)
      have Q6 := Lib.hid q6
      have Z6 := Lib.hid hb6.size
      have CUR := Lib.hid hb6
      clear o6 q6 hb6
      go_wp2_with fail
      (with_reducible refine (C2.out _ CUR.out).mono ?_)
      rintro e y7 ⟨A7, c7, rfl, q7, o7, hb7⟩
      have O67 := Lib.hid (O6.out.below hb7 (Nat.le_refl _))
      have Z67 := Lib.hid hb7.size
      have O7 := Lib.hid o7
      have Q7 := Lib.hid q7
      replace CUR := Lib.hid (CUR.out.trans (hb7.mono CUR.out.size))
      clear o7 q7 hb7
      go_wp2_with fail
      (with_reducible refine (C3.out _ CUR.out).mono ?_)
      rintro e y8 ⟨A8, c8, rfl, q8, o8, hb8⟩
      have O68 := Lib.hid (O67.out.below hb8 Z67.out)
      have O78 := Lib.hid (O7.out.below hb8 (Nat.le_refl _))
      have Z78 := Lib.hid hb8.size
      have O8 := Lib.hid o8
      have Q8 := Lib.hid q8
      replace CUR := Lib.hid (CUR.out.trans (hb8.mono CUR.out.size))
      clear o8 q8 hb8
      have z6 : W.heap.size ≤ y6.heap.size := Z6.out
      have z67 := Z67.out
      have z78 := Z78.out
      have zwW : w.heap.size ≤ W.heap.size := by omega
      have DY := Lib.hid (DW.out.trans (CUR.out.mono zwW))
      go_wp2
      refine bodyPost_ret (v := .tuple #[.slice A6 (bcV T).length c6, .slice A7 (bcE T).length c7, .slice A8 (bcF T).length c8]) (by simp [results, Tryd.results63, go_sem]) rfl ?_
      exact ⟨A6, c6, A7, c7, A8, c8, y6.heap.size, y7.heap.size, rfl, ⟨by omega, z67, z78⟩, O68.out.wide zwW (Nat.le_refl _), O78.out, O8.out, Q6.out, Q7.out, Q8.out, DY.out⟩
    have i1 : (k : Int) < (rs.length : Int) := by omega
    obtain ⟨a, f, hz, ha, hf⟩ := bdl_at (List.getElem_mem (l := Tr.bdl T n) (n := k) (by rw [← RL.out]; exact hlt))
    have OPW := (OP.out.kept KW.out (Nat.le_refl _) (Or.inr o43)).rd
    obtain ⟨bp, op, Aj, cj, zj, rfl, e2, e3, e4, e5, e6, e7⟩ := OPW.at_ hlt
    have ez : zj = [(a : Int), (f : Int)] := by
      have h9 : (vals rs).getD k [] = zj := by
        have : (vals rs).getD k [] = (rs.getD k nilRw).zs := by
          unfold vals
          simp [List.getD_eq_getElem?_getD, hlt]
        rw [this, e3]
      rw [← h9, VP.out, List.getD_eq_getElem?_getD, List.getElem?_eq_getElem (by rw [← RL.out]; exact hlt)]
      exact hz
    subst ez
    have TK := Lib.hid (show (Tr.bdl T n).take (k + 1) = (Tr.bdl T n).take k ++ [[(a : Int), (f : Int)]] from by rw [List.take_succ_eq_append_getElem (by rw [← RL.out]; exact hlt), hz])
    obtain ⟨bj, oj, rfl, hbj, hj⟩ := e7.2 (by simp)
    have p0 : W.cell? ⟨bj, oj, none⟩ = some (.int .i64 (a : Int)) := by simpa using hj 0 (by simp)
    have p1 : W.cell? ⟨bj, oj + 1, none⟩ = some (.int .i64 (f : Int)) := by simpa using hj 1 (by simp)
    simp only [List.length_cons, List.length_nil] at e4 e5
    obtain ⟨bF, oF, rF, pF, cF, rfl, f1, f2, f3, f4⟩ := tbl_cell (TR5.out.2.2.below hBg) VV.out.2.2 ha (by omega)
    have f4 := f4 f hf
    obtain ⟨x, hx⟩ : ∃ x, cls (MT T).f (a * 4 + f) = x := ⟨_, rfl⟩
    rw [hx] at f4
    have xlt : x < cntF T := by rw [← hx]; have := cls_lt (N := 4 * T.length) (j := a * 4 + f) MKS.out.2.2 (MT_len T).2.2 (by rw [LN.out]; omega); exact this
    have hx : cls (MT T).f (4 * a + f) = x := by rw [show 4 * a + f = a * 4 + f by omega]; exact hx
    obtain ⟨b0, q1, q2⟩ := MW.out.f.at_ xlt
    have s2W := (hBg.cell (p := ⟨w2.heap.size, 2, none⟩) w2g).trans s2
    have a0 : (0 : Int) ≤ (a : Int) := by omega
    have a1 : (a : Int) < (n : Int) := by omega
    have j0 : (0 : Int) ≤ (f : Int) := by omega
    have j1 : (f : Int) < 4 := by omega
    have x0 : (0 : Int) ≤ (x : Int) := by omega
    have x1 : (x : Int) < (cntF T : Int) := by omega
    obtain ⟨W1, hW1⟩ : ∃ W1, W1 = W.setCell ⟨g + 2, x, none⟩ (.bool true) := ⟨_, rfl⟩
    have M1 := Lib.hid (show B3 W1 g T (pc gV ((Tr.bdl T n).take k) ++ clsV a f 0) (pc gE ((Tr.bdl T n).take k)) (pc gF ((Tr.bdl T n).take k) ++ [4 * a + f]) from by
      rw [hW1]
      exact ⟨by simpa [clsV] using MW.out.v.far (p := ⟨g + 2, x, none⟩) (by dsimp only; omega) _, MW.out.e.far (p := ⟨g + 2, x, none⟩) (by dsimp only; omega) _, MW.out.f.set_ hx xlt⟩)
    have K1 := Lib.hid (show Kept g (g + 3) w4 W1 from by rw [hW1]; exact KW.out.set_ (by dsimp only; omega) (by dsimp only; omega) _)
    clear hx hj e7 e3 OPW hz e2 hbj
    go_upto_region 14 with fail
    rw [← hW1]
    clear hW1 MW KW hBg DW zW p0 p1 q1 q2 f1 f4 s2W e4
    go_wp2
    go_loopw [14] (fun i W => ∃ v : Nat, v ≤ 4 ∧ i = .int .i64 v ∧ B3 W g T (pc gV ((Tr.bdl T n).take k) ++ clsV a f v) (pc gE ((Tr.bdl T n).take k)) (pc gF ((Tr.bdl T n).take k) ++ [4 * a + f]) ∧ Kept g (g + 3) w4 W) (fun i _ => 4 - (intOf i).toNat)
    case atStart => exact ⟨0, by omega, rfl, M1.out, K1.out⟩
    case round =>
      obtain ⟨Y, rfl⟩ : ∃ W : World, W = wr := ⟨_, rfl⟩
      obtain ⟨v, hv, rfl, hM, hK⟩ := hrel
      have MY := Lib.hid hM
      have KY := Lib.hid hK
      have hBg := hK.below (B := g) (Nat.le_refl _) (by omega)
      have v0 : (0 : Int) ≤ (v : Int) := by omega
      clear hM hK M1 K1
      by_cases hv4 : v < 4
      case neg =>
        obtain rfl : v = 4 := by omega
        have v1 : ¬ (4 : Int) < 4 := by omega
        have M3 := Lib.hid (show B3 Y g T (pc gV ((Tr.bdl T n).take k) ++ clsV a f 4) (pc gE ((Tr.bdl T n).take k) ++ clsE a f 0) (pc gF ((Tr.bdl T n).take k) ++ [4 * a + f]) from by simpa [clsE] using MY.out)
        clear hBg MY
        go_wp2
        go_loopw [15] (fun i W => ∃ v : Nat, v ≤ 6 ∧ i = .int .i64 v ∧ B3 W g T (pc gV ((Tr.bdl T n).take k) ++ clsV a f 4) (pc gE ((Tr.bdl T n).take k) ++ clsE a f v) (pc gF ((Tr.bdl T n).take k) ++ [4 * a + f]) ∧ Kept g (g + 3) w4 W) (fun i _ => 6 - (intOf i).toNat)
        case atStart => exact ⟨0, by omega, rfl, M3.out, KY.out⟩
        case round =>
          clear M3 KY
          obtain ⟨Z, rfl⟩ : ∃ W : World, W = wr := ⟨_, rfl⟩
          obtain ⟨v, hv, rfl, hM, hK⟩ := hrel
          have MZ := Lib.hid hM
          have KZ := Lib.hid hK
          have v0 : (0 : Int) ≤ (v : Int) := by omega
          have zZ := hK.size
          clear hM hK
          by_cases hv6 : v < 6
          case neg =>
            obtain rfl : v = 6 := by omega
            have v1 : ¬ (6 : Int) < 6 := by omega
            go_wp2
            go_roundw
            case rel => exact ⟨k + 1, by omega, by go_num, by rw [TK.out, pc_app, pc_app, pc_app, pc_one, pc_one, pc_one]; exact MZ.out, KZ.out⟩
            case measure => simp [intOf]; omega
          have v1 : (v : Int) < 6 := by omega
          obtain ⟨en0, en1, u4, v4⟩ := eN_all v hv6
          have NXY := Lib.hid (show inF v f = true → clsE a f (v + 1) = clsE a f v ++ [6 * a + v] from fun h => by simp only [clsE]; rw [if_pos h])
          have NXN := Lib.hid (show inF v f = false → clsE a f (v + 1) = clsE a f v from fun h => by simp only [clsE]; rw [if_neg (by rw [h]; decide)])
          have EN := Lib.hid (fun (Z : World) => Eg.l08Ends_spec v Z hv6)
          have IFE := Lib.hid (show inF v f = (decide ((eN v).1 ≠ f) && decide ((eN v).2 ≠ f)) from rfl)
          obtain ⟨p, hp⟩ : ∃ u, (eN v).1 = u := ⟨_, rfl⟩
          obtain ⟨q, hq⟩ : ∃ u, (eN v).2 = u := ⟨_, rfl⟩
          rw [hp] at en0 u4
          rw [hq] at en1 v4
          rw [hp, hq] at IFE
          rw [en0, en1] at EN
          clear hp hq en0 en1
          go_wp2_with fail
          (with_reducible refine (EN.out _).mono ?_)
          rintro e X2 ⟨rfl, hX2⟩
          have M2 := Lib.hid (MZ.out.below hX2 (by omega))
          have K2 := Lib.hid (KZ.out.trans (Kept.of_below hX2 _ _))
          have hBg := K2.out.below (B := g) (Nat.le_refl _) (by omega)
          clear hX2 MZ KZ EN
          by_cases hpf : p = f
          · have t1 : ((p : Int) != (f : Int)) = false := by simp [hpf]
            have NX := Lib.hid (NXN.out (by rw [IFE.out]; simp [hpf]))
            clear hpf NXY NXN IFE
            go_wp2
            go_roundw
            case rel => exact ⟨v + 1, by omega, by go_num, by rw [NX.out]; exact M2.out, K2.out⟩
            case measure => simp [intOf]; omega
          have t1 : ((p : Int) != (f : Int)) = true := by simp; omega
          by_cases hqf : q = f
          · have t2 : ((q : Int) != (f : Int)) = false := by simp [hqf]
            have NX := Lib.hid (NXN.out (by rw [IFE.out]; simp [hqf]))
            clear hpf hqf NXY NXN IFE
            go_wp2
            go_roundw
            case rel => exact ⟨v + 1, by omega, by go_num, by rw [NX.out]; exact M2.out, K2.out⟩
            case measure => simp [intOf]; omega
          have t2 : ((q : Int) != (f : Int)) = true := by simp; omega
          have NX := Lib.hid (NXY.out (by rw [IFE.out]; simp [hpf, hqf]))
          clear hpf hqf NXY NXN IFE
          obtain ⟨bV, oV, rV, pV, cV, rfl, f1, f2', f3', f4⟩ := tbl_cell (TR5.out.2.1.below hBg) VV.out.2.1 ha (by omega)
          have f4 := f4 v hv6
          obtain ⟨y, hy⟩ : ∃ y, cls (MT T).e (a * 6 + v) = y := ⟨_, rfl⟩
          rw [hy] at f4
          have ylt : y < cntE T := by rw [← hy]; have := cls_lt (N := 6 * T.length) (j := a * 6 + v) MKS.out.2.1 (MT_len T).2.1 (by rw [LN.out]; omega); exact this
          have hy : cls (MT T).e (6 * a + v) = y := by rw [show 6 * a + v = a * 6 + v by omega]; exact hy
          obtain ⟨b0, q1, q2⟩ := M2.out.e.at_ ylt
          have s1Y := (hBg.cell (p := ⟨w2.heap.size, 1, none⟩) w2g).trans s1
          have y0 : (0 : Int) ≤ (y : Int) := by omega
          have y1 : (y : Int) < (cntE T : Int) := by omega
          have M9 := Lib.hid (show B3 (X2.setCell ⟨g + 1, y, none⟩ (.bool true)) g T (pc gV ((Tr.bdl T n).take k) ++ clsV a f 4) (pc gE ((Tr.bdl T n).take k) ++ clsE a f (v + 1)) (pc gF ((Tr.bdl T n).take k) ++ [4 * a + f]) from by
            rw [NX.out, ← List.append_assoc]
            exact ⟨M2.out.v.far (p := ⟨g + 1, y, none⟩) (by dsimp only; omega) _, M2.out.e.set_ hy ylt, M2.out.f.far (p := ⟨g + 1, y, none⟩) (by dsimp only; omega) _⟩)
          have K9 := Lib.hid (show Kept g (g + 3) w4 (X2.setCell ⟨g + 1, y, none⟩ (.bool true)) from K2.out.set_ (by dsimp only; omega) (by dsimp only; omega) _)
          clear hy NX M2 K2 hBg
          go_wp2
          go_roundw
          case rel => exact ⟨v + 1, by omega, by go_num, M9.out, K9.out⟩
          case measure => simp [intOf]; omega
      have v1 : (v : Int) < 4 := by omega
      by_cases hvf : v = f
      · have t1 : ((v : Int) != (f : Int)) = false := by simp [hvf]
        have NX := Lib.hid (show clsV a f (v + 1) = clsV a f v from by simp only [clsV]; rw [if_pos hvf])
        clear hvf
        go_wp2
        go_roundw
        case rel => exact ⟨v + 1, by omega, by go_num, by rw [NX.out]; exact MY.out, KY.out⟩
        case measure => simp [intOf]; omega
      have t1 : ((v : Int) != (f : Int)) = true := by simp; omega
      have NX := Lib.hid (show clsV a f (v + 1) = clsV a f v ++ [4 * a + v] from by simp only [clsV]; rw [if_neg hvf])
      obtain ⟨bV, oV, rV, pV, cV, rfl, f1, f2', f3', f4⟩ := tbl_cell (TR5.out.1.below hBg) VV.out.1 ha (by omega)
      have f4 := f4 v hv4
      obtain ⟨y, hy⟩ : ∃ y, cls (MT T).v (a * 4 + v) = y := ⟨_, rfl⟩
      rw [hy] at f4
      have ylt : y < cntV T := by rw [← hy]; have := cls_lt (N := 4 * T.length) (j := a * 4 + v) MKS.out.1 (MT_len T).1 (by rw [LN.out]; omega); exact this
      have hy : cls (MT T).v (4 * a + v) = y := by rw [show 4 * a + v = a * 4 + v by omega]; exact hy
      obtain ⟨b0, q1, q2⟩ := MY.out.v.at_ ylt
      have s0Y := (hBg.cell (p := ⟨w2.heap.size, 0, none⟩) w2g).trans s0
      have y0 : (0 : Int) ≤ (y : Int) := by omega
      have y1 : (y : Int) < (cntV T : Int) := by omega
      have M2 := Lib.hid (show B3 (Y.setCell ⟨g, y, none⟩ (.bool true)) g T (pc gV ((Tr.bdl T n).take k) ++ clsV a f (v + 1)) (pc gE ((Tr.bdl T n).take k)) (pc gF ((Tr.bdl T n).take k) ++ [4 * a + f]) from by
        rw [NX.out, ← List.append_assoc]
        exact ⟨MY.out.v.set_ hy ylt, MY.out.e.far (p := ⟨g, y, none⟩) (by dsimp only; omega) _, MY.out.f.far (p := ⟨g, y, none⟩) (by dsimp only; omega) _⟩)
      have K2 := Lib.hid (show Kept g (g + 3) w4 (Y.setCell ⟨g, y, none⟩ (.bool true)) from KY.out.set_ (by dsimp only; omega) (by dsimp only; omega) _)
      clear hy hvf NX MY KY hBg
      go_wp2
      go_roundw
      case rel => exact ⟨v + 1, by omega, by go_num, M2.out, K2.out⟩
      case measure => simp [intOf]; omega
end Sk
end Go.Proofs.YtjendlfophdfeaaDoor

namespace Go.Proofs.YtjendlfophdfeaaDoor
open Go Go.ChangeShapes Go.WideShapes Go.ChangeAt Go.RowKit

set_option maxRecDepth 100000 in
set_option maxHeartbeats 16000000 in
theorem exactBoundaryClasses (Aa : Option Addr) (ca : Nat) (rsa : List Fc.Rw) (la lb ld : List Int) (w : World) (ha : Fc.RdS w w.heap.size Aa rsa) (hna : rsa.length + Fc.cnt rsa ≤ 1048576) (hz : la.length ≤ 1048576 ∧ lb.length ≤ 1048576 ∧ ld.length ≤ 1048576)
    (hs : ∀ (W : World) (A : Option Addr) (c : Nat) (qs : List Fc.Rw), Fc.RdS W W.heap.size A qs → Fc.vals qs = Fc.vals rsa → Below w.heap.size w W → Calls Tryd.prog 63 #[.agg #[.slice A qs.length c]] W (Sk.ResB W la lb ld))
    (hi : ∀ (W : World) (A : Option Addr) (c : Nat) (qs : List Fc.Rw), Fc.RdS W W.heap.size A qs → Fc.vals qs = Fc.vals rsa → Below w.heap.size w W → Calls Tryd.prog 64 #[.agg #[.slice A qs.length c]] W (Sk.ResB W la lb ld)) :
    Calls Tryd.prog 13 #[.agg #[.slice Aa rsa.length ca]] w fun e w' => e = .returned (.bool true) ∧ Below w.heap.size w w' := by
  have HS := Lib.hid hs
  have HI := Lib.hid hi
  clear hs hi
  have HB := Lib.hid (Below.refl w.heap.size w)
  have Ha := Lib.hid ha
  obtain ⟨hza, hzb, hzd⟩ := hz
  clear ha
  have hnl : rsa.length ≤ 1048576 := by omega
  have hml : rsa.length ≤ maxLen := Nat.le_trans hnl (by unfold maxLen; omega)
  have ROW := Lib.hid (show ∀ r ∈ rsa, r.zs.length / 2 ≤ 1048576 from fun r hr => by have := Fc.row_le_cnt hr; omega)
  have EV := Lib.hid (show ∀ r ∈ rsa, r.zs.length % 2 = 0 from fun r hr => (Ha.out.1 r hr).le.2)
  have TT := Lib.hid (show Fc.tot rsa = 2 * Fc.cnt rsa from Fc.tot_cnt EV.out)
  have tl0 : decide ((1048576 : Int) - (rsa.length : Int) - (Fc.cnt rsa : Int) < 0) = false := by simp; omega
  go_enter Tryd.func13, Tryd.ntmps13
  go_wp2_with fail
  refine (Fc.szT_any Aa ca rsa _ _ (Ha.out.into (al1 _ _)) hml (by omega) (by omega)).mono ?_
  rintro e w1 ⟨rfl, hb⟩
  rw [if_neg (by omega)]
  have D1 := Lib.hid (on1 _ hb)
  have s1 : w.heap.size + 1 ≤ w1.heap.size := by have := hb.size; (try simp at this); omega
  have aa_1 := Lib.hid ((Box1.new w 24 (.slice Aa rsa.length ca)).below hb (by simp))
  have HB1 := Lib.hid (HB.out.trans (D1.out.mono (by omega)))
  clear HB
  have HB := HB1
  clear HB1 hb
  have z_aa : w.heap.size < w1.heap.size := by omega
  obtain ⟨qaa0⟩ := aa_1.out
  go_wp2_with fail
  refine (Fc.toT_any Aa ca rsa _ (Ha.out.into HB.out) hnl ROW.out).mono ?_
  rintro e w2 ⟨g2, c2, rs2, rfl, hk, hv, hb⟩
  clear qaa0
  have X2_2 := Lib.hid (hk.wide (lo' := w1.heap.size) (hi' := w2.heap.size) (by simp) (Nat.le_refl _))
  have V2 := Lib.hid hv
  clear hk hv
  have D2 := Lib.hid (hb)
  have s2 : w1.heap.size + 0 ≤ w2.heap.size := by have := hb.size; (try simp at this); omega
  have aa_2 := Lib.hid (aa_1.out.below D2.out (by omega))
  clear aa_1
  have HB2 := Lib.hid (HB.out.trans (D2.out.mono (by omega)))
  clear HB
  have HB := HB2
  clear HB2 hb
  clear z_aa
  have z_aa : w.heap.size < w2.heap.size := by omega
  obtain ⟨qaa0⟩ := aa_2.out
  go_wp2_with fail
  refine (HS.out _ _ _ _ (X2_2.out.rd.more (by (try simp) <;> omega)) V2.out HB.out).mono ?_
  rintro e w3 ⟨Ra3, ta3, Rb3, tb3, Rc3, tc3, u3, v3, rfl, ⟨hq1, hq2, hq3⟩, hoa, hob, hod, _, _, _, hb⟩
  clear qaa0
  have U3 : w2.heap.size ≤ u3 := by (try simp at hq1); omega
  have UV3 : u3 ≤ v3 := hq2
  have VH3 : v3 ≤ w3.heap.size := hq3
  clear hq1 hq2 hq3
  have Ya3_3 := Lib.hid (hoa.wide (lo' := w2.heap.size) (hi' := u3) (by simp) (Nat.le_refl _))
  have Yb3_3 := Lib.hid hob
  have Yc3_3 := Lib.hid hod
  clear hoa hob hod
  have D3 := Lib.hid (hb)
  have s3 : w2.heap.size + 0 ≤ w3.heap.size := by have := hb.size; (try simp at this); omega
  have aa_3 := Lib.hid (aa_2.out.below D3.out (by omega))
  clear aa_2
  have X2_3 := Lib.hid (X2_2.out.below D3.out (by omega))
  clear X2_2
  have HB3 := Lib.hid (HB.out.trans (D3.out.mono (by omega)))
  clear HB
  have HB := HB3
  clear HB3 hb
  clear z_aa
  have z_aa : w.heap.size < w3.heap.size := by omega
  clear X2_3
  as_aux_lemma =>
    obtain ⟨qaa0⟩ := aa_3.out
    go_wp2_with fail
    refine (Fc.toT_any Aa ca rsa _ (Ha.out.into HB.out) hnl ROW.out).mono ?_
    rintro e w4 ⟨g4, c4, rs4, rfl, hk, hv, hb⟩
    clear qaa0
    have X4_4 := Lib.hid (hk.wide (lo' := w3.heap.size) (hi' := w4.heap.size) (by simp) (Nat.le_refl _))
    have V4 := Lib.hid hv
    clear hk hv
    have D4 := Lib.hid (hb)
    have s4 : w3.heap.size + 0 ≤ w4.heap.size := by have := hb.size; (try simp at this); omega
    have aa_4 := Lib.hid (aa_3.out.below D4.out (by omega))
    clear aa_3
    have Ya3_4 := Lib.hid (Ya3_3.out.below D4.out (by omega))
    clear Ya3_3
    have Yb3_4 := Lib.hid (Yb3_3.out.below D4.out (by omega))
    clear Yb3_3
    have Yc3_4 := Lib.hid (Yc3_3.out.below D4.out (by omega))
    clear Yc3_3
    have HB4 := Lib.hid (HB.out.trans (D4.out.mono (by omega)))
    clear HB
    have HB := HB4
    clear HB4 hb
    clear z_aa
    have z_aa : w.heap.size < w4.heap.size := by omega
    obtain ⟨qaa0⟩ := aa_4.out
    go_wp2_with fail
    refine (HI.out _ _ _ _ ((X4_4.out.al (by omega) (al1 _ _)).rd.more (by (try simp) <;> omega)) V4.out (HB.out.trans ((al1 _ _).mono (by omega)))).mono ?_
    rintro e w5 ⟨Ra5, ta5, Rb5, tb5, Rc5, tc5, u5, v5, rfl, ⟨hq1, hq2, hq3⟩, hoa, hob, hod, _, _, _, hb⟩
    clear qaa0
    have U5 : w4.heap.size + 1 ≤ u5 := by (try simp at hq1); omega
    have UV5 : u5 ≤ v5 := hq2
    have VH5 : v5 ≤ w5.heap.size := hq3
    clear hq1 hq2 hq3
    have Ya5_5 := Lib.hid (hoa.wide (lo' := w4.heap.size + 1) (hi' := u5) (by simp) (Nat.le_refl _))
    have Yb5_5 := Lib.hid hob
    have Yc5_5 := Lib.hid hod
    clear hoa hob hod
    have D5 := Lib.hid (on1 _ hb)
    have s5 : w4.heap.size + 1 ≤ w5.heap.size := by have := hb.size; (try simp at this); omega
    have aa_5 := Lib.hid (aa_4.out.below D5.out (by omega))
    clear aa_4
    have bx_5 := Lib.hid ((Box1.new w4 29 (.slice (some ⟨g4, 0, none⟩) rs4.length c4)).below hb (by simp))
    have Ya3_5 := Lib.hid (Ya3_4.out.below D5.out (by omega))
    clear Ya3_4
    have Yb3_5 := Lib.hid (Yb3_4.out.below D5.out (by omega))
    clear Yb3_4
    have Yc3_5 := Lib.hid (Yc3_4.out.below D5.out (by omega))
    clear Yc3_4
    have X4_5 := Lib.hid (X4_4.out.below D5.out (by omega))
    clear X4_4
    have HB5 := Lib.hid (HB.out.trans (D5.out.mono (by omega)))
    clear HB
    have HB := HB5
    clear HB5 hb
    clear z_aa
    have z_aa : w.heap.size < w5.heap.size := by omega
    have z_bx : w4.heap.size < w5.heap.size := by omega
    obtain ⟨qaa0⟩ := aa_5.out
    obtain ⟨qbx0⟩ := bx_5.out
    go_wp2_with fail
    refine (eqInts_any _ _ _ _ _ la (u5) (u3) _ Ya5_5.out.ints Ya3_5.out.ints hza).mono ?_
    rintro e w6 ⟨rfl, hm⟩
    have hb : Below w5.heap.size w5 w6 := by obtain ⟨m, rfl⟩ := hm; exact Go.Joins.below_draws _ _ _
    clear hm
    clear qaa0 qbx0
    have D6 := Lib.hid (hb)
    have s6 : w5.heap.size + 0 ≤ w6.heap.size := by have := hb.size; (try simp at this); omega
    have aa_6 := Lib.hid (aa_5.out.below D6.out (by omega))
    clear aa_5
    have bx_6 := Lib.hid (bx_5.out.below D6.out (by omega))
    clear bx_5
    have Ya3_6 := Lib.hid (Ya3_5.out.below D6.out (by omega))
    clear Ya3_5
    have Yb3_6 := Lib.hid (Yb3_5.out.below D6.out (by omega))
    clear Yb3_5
    have Yc3_6 := Lib.hid (Yc3_5.out.below D6.out (by omega))
    clear Yc3_5
    have X4_6 := Lib.hid (X4_5.out.below D6.out (by omega))
    clear X4_5
    have Ya5_6 := Lib.hid (Ya5_5.out.below D6.out (by omega))
    clear Ya5_5
    have Yb5_6 := Lib.hid (Yb5_5.out.below D6.out (by omega))
    clear Yb5_5
    have Yc5_6 := Lib.hid (Yc5_5.out.below D6.out (by omega))
    clear Yc5_5
    have HB6 := Lib.hid (HB.out.trans (D6.out.mono (by omega)))
    clear HB
    have HB := HB6
    clear HB6 hb
    clear z_aa
    have z_aa : w.heap.size < w6.heap.size := by omega
    clear z_bx
    have z_bx : w4.heap.size < w6.heap.size := by omega
    obtain ⟨qaa0⟩ := aa_6.out
    obtain ⟨qbx0⟩ := bx_6.out
    go_wp2_with fail
    refine (eqInts_any _ _ _ _ _ lb (v5) (v3) _ Yb5_6.out.ints Yb3_6.out.ints hzb).mono ?_
    rintro e w7 ⟨rfl, hm⟩
    have hb : Below w6.heap.size w6 w7 := by obtain ⟨m, rfl⟩ := hm; exact Go.Joins.below_draws _ _ _
    clear hm
    clear qaa0 qbx0
    have D7 := Lib.hid (hb)
    have s7 : w6.heap.size + 0 ≤ w7.heap.size := by have := hb.size; (try simp at this); omega
    have aa_7 := Lib.hid (aa_6.out.below D7.out (by omega))
    clear aa_6
    have bx_7 := Lib.hid (bx_6.out.below D7.out (by omega))
    clear bx_6
    have Ya3_7 := Lib.hid (Ya3_6.out.below D7.out (by omega))
    clear Ya3_6
    have Yb3_7 := Lib.hid (Yb3_6.out.below D7.out (by omega))
    clear Yb3_6
    have Yc3_7 := Lib.hid (Yc3_6.out.below D7.out (by omega))
    clear Yc3_6
    have X4_7 := Lib.hid (X4_6.out.below D7.out (by omega))
    clear X4_6
    have Ya5_7 := Lib.hid (Ya5_6.out.below D7.out (by omega))
    clear Ya5_6
    have Yb5_7 := Lib.hid (Yb5_6.out.below D7.out (by omega))
    clear Yb5_6
    have Yc5_7 := Lib.hid (Yc5_6.out.below D7.out (by omega))
    clear Yc5_6
    have HB7 := Lib.hid (HB.out.trans (D7.out.mono (by omega)))
    clear HB
    have HB := HB7
    clear HB7 hb
    clear z_aa
    have z_aa : w.heap.size < w7.heap.size := by omega
    clear z_bx
    have z_bx : w4.heap.size < w7.heap.size := by omega
    obtain ⟨qaa0⟩ := aa_7.out
    obtain ⟨qbx0⟩ := bx_7.out
    go_wp2_with fail
    refine (eqInts_any _ _ _ _ _ ld (w5.heap.size) (w3.heap.size) _ Yc5_7.out.ints Yc3_7.out.ints hzd).mono ?_
    rintro e w8 ⟨rfl, hm⟩
    have hb : Below w7.heap.size w7 w8 := by obtain ⟨m, rfl⟩ := hm; exact Go.Joins.below_draws _ _ _
    clear hm
    clear qaa0 qbx0
    have D8 := Lib.hid (hb)
    have s8 : w7.heap.size + 0 ≤ w8.heap.size := by have := hb.size; (try simp at this); omega
    have aa_8 := Lib.hid (aa_7.out.below D8.out (by omega))
    clear aa_7
    have bx_8 := Lib.hid (bx_7.out.below D8.out (by omega))
    clear bx_7
    have Ya3_8 := Lib.hid (Ya3_7.out.below D8.out (by omega))
    clear Ya3_7
    have Yb3_8 := Lib.hid (Yb3_7.out.below D8.out (by omega))
    clear Yb3_7
    have Yc3_8 := Lib.hid (Yc3_7.out.below D8.out (by omega))
    clear Yc3_7
    have X4_8 := Lib.hid (X4_7.out.below D8.out (by omega))
    clear X4_7
    have Ya5_8 := Lib.hid (Ya5_7.out.below D8.out (by omega))
    clear Ya5_7
    have Yb5_8 := Lib.hid (Yb5_7.out.below D8.out (by omega))
    clear Yb5_7
    have Yc5_8 := Lib.hid (Yc5_7.out.below D8.out (by omega))
    clear Yc5_7
    have HB8 := Lib.hid (HB.out.trans (D8.out.mono (by omega)))
    clear HB
    have HB := HB8
    clear HB8 hb
    clear z_aa
    have z_aa : w.heap.size < w8.heap.size := by omega
    clear z_bx
    have z_bx : w4.heap.size < w8.heap.size := by omega
    as_aux_lemma =>
      obtain ⟨qaa0⟩ := aa_8.out
      obtain ⟨qbx0⟩ := bx_8.out
      go_wp2_with fail
      go_region_held3 (fun W => (W.cell? ⟨w4.heap.size, 0, none⟩ = some (.slice (some ⟨g4, 0, none⟩) rs4.length c4)) ∧ (W.cell? ⟨w.heap.size, 0, none⟩ = some (.slice Aa rsa.length ca))) (go_keep)
        (first
          | (go_at_call 16; (with_reducible refine (Fc.toT_any Aa ca rsa _ (by exact Ha.out.into HB.out.drew) hnl ROW.out).mono ?_); rintro e w9 ⟨g9, c9, rs9, rfl, hk6, hv6, hb6'⟩; have hb6 := undrew hb6'; have K6 := Lib.hid hk6; have B6 := Lib.hid hb6; have V6 := Lib.hid hv6; have z6 := hb6.size; have e0 := (hb6.cell (p := ⟨w4.heap.size, 0, none⟩) (by dsimp only; omega)).trans bx_8.out.c; have f0 := (hb6.cell (p := ⟨w.heap.size, 0, none⟩) (by dsimp only; omega)).trans aa_8.out.c; clear hk6 hv6 hb6 hb6')
          | (go_at_call 18; (with_reducible refine (Fc.eqT_any _ _ _ _ rs4 _ (w4.heap.size) _ _ (by exact X4_8.out.rd.below (B6.out.mono (by omega))) (by exact K6.out.rd) (V4.out.trans V6.out.symm) (by have := B6.out.size; omega) (Nat.le_refl _) (by have := Fc.vals_same V4.out; omega) (Fc.rows_same V4.out ROW.out)).mono ?_); rintro e w10 ⟨rfl, hb7⟩; have m0 := (hb7.cell (p := ⟨w4.heap.size, 0, none⟩) (by dsimp only; omega)).trans e0; have y0 := (hb7.cell (p := ⟨w.heap.size, 0, none⟩) (by dsimp only; omega)).trans f0))
      clear e0 f0 m0 y0 K6 V6
      clear qaa0 qbx0
      have hb6 := B6.out
      clear B6
      have D9 := Lib.hid (hb6)
      have s9 : w8.heap.size + 0 ≤ w9.heap.size := by have := hb6.size; (try simp at this); omega
      have aa_9 := Lib.hid (aa_8.out.below D9.out (by omega))
      clear aa_8
      have bx_9 := Lib.hid (bx_8.out.below D9.out (by omega))
      clear bx_8
      have Ya3_9 := Lib.hid (Ya3_8.out.below D9.out (by omega))
      clear Ya3_8
      have Yb3_9 := Lib.hid (Yb3_8.out.below D9.out (by omega))
      clear Yb3_8
      have Yc3_9 := Lib.hid (Yc3_8.out.below D9.out (by omega))
      clear Yc3_8
      have X4_9 := Lib.hid (X4_8.out.below D9.out (by omega))
      clear X4_8
      have Ya5_9 := Lib.hid (Ya5_8.out.below D9.out (by omega))
      clear Ya5_8
      have Yb5_9 := Lib.hid (Yb5_8.out.below D9.out (by omega))
      clear Yb5_8
      have Yc5_9 := Lib.hid (Yc5_8.out.below D9.out (by omega))
      clear Yc5_8
      have HB9 := Lib.hid (HB.out.trans (D9.out.mono (by omega)))
      clear HB
      have HB := HB9
      clear HB9 hb6
      clear z_aa
      have z_aa : w.heap.size < w9.heap.size := by omega
      clear z_bx
      have z_bx : w4.heap.size < w9.heap.size := by omega
      have D10 := Lib.hid (hb7)
      have s10 : w9.heap.size + 0 ≤ w10.heap.size := by have := hb7.size; (try simp at this); omega
      have aa_10 := Lib.hid (aa_9.out.below D10.out (by omega))
      clear aa_9
      have bx_10 := Lib.hid (bx_9.out.below D10.out (by omega))
      clear bx_9
      have Ya3_10 := Lib.hid (Ya3_9.out.below D10.out (by omega))
      clear Ya3_9
      have Yb3_10 := Lib.hid (Yb3_9.out.below D10.out (by omega))
      clear Yb3_9
      have Yc3_10 := Lib.hid (Yc3_9.out.below D10.out (by omega))
      clear Yc3_9
      have X4_10 := Lib.hid (X4_9.out.below D10.out (by omega))
      clear X4_9
      have Ya5_10 := Lib.hid (Ya5_9.out.below D10.out (by omega))
      clear Ya5_9
      have Yb5_10 := Lib.hid (Yb5_9.out.below D10.out (by omega))
      clear Yb5_9
      have Yc5_10 := Lib.hid (Yc5_9.out.below D10.out (by omega))
      clear Yc5_9
      have HB10 := Lib.hid (HB.out.trans (D10.out.mono (by omega)))
      clear HB
      have HB := HB10
      clear HB10 hb7
      clear z_aa
      have z_aa : w.heap.size < w10.heap.size := by omega
      clear z_bx
      have z_bx : w4.heap.size < w10.heap.size := by omega
      as_aux_lemma =>
        obtain ⟨qaa0⟩ := aa_10.out
        obtain ⟨qbx0⟩ := bx_10.out
        go_wp2_with fail
        have tx := Fc.tot_vals V4.out
        have lx := Fc.vals_same V4.out
        have tt2 := TT.out
        refine (Fc.markT_any (some ⟨g4, 0, none⟩) c4 1 rs4 (w3.heap.size) (w4.heap.size) _ X4_10.out (by omega) (by omega) (by omega) (by omega)).mono ?_
        rintro e w11 ⟨rfl, hown, hk⟩
        have TX := Lib.hid (show Fc.tot rs4 ≤ 2097152 from by omega)
        clear X4_10 hown lx tx tt2
        clear qaa0 qbx0
        have D11 := Lib.hid (hk)
        have s11 : w10.heap.size ≤ w11.heap.size := hk.size
        have aa_11 := Lib.hid (aa_10.out.kept D11.out (by omega) (by omega))
        clear aa_10
        have bx_11 := Lib.hid (bx_10.out.kept D11.out (by omega) (by omega))
        clear bx_10
        have Ya3_11 := Lib.hid (Ya3_10.out.kept D11.out (by omega) (by omega))
        clear Ya3_10
        have Yb3_11 := Lib.hid (Yb3_10.out.kept D11.out (by omega) (by omega))
        clear Yb3_10
        have Yc3_11 := Lib.hid (Yc3_10.out.kept D11.out (by omega) (by omega))
        clear Yc3_10
        have Ya5_11 := Lib.hid (Ya5_10.out.kept D11.out (by omega) (by omega))
        clear Ya5_10
        have Yb5_11 := Lib.hid (Yb5_10.out.kept D11.out (by omega) (by omega))
        clear Yb5_10
        have Yc5_11 := Lib.hid (Yc5_10.out.kept D11.out (by omega) (by omega))
        clear Yc5_10
        have HB11 := Lib.hid (HB.out.trans (D11.out.below (by omega) (by omega)))
        clear HB
        have HB := HB11
        clear HB11 hk
        clear z_aa
        have z_aa : w.heap.size < w11.heap.size := by omega
        clear z_bx
        have z_bx : w4.heap.size < w11.heap.size := by omega
        have tx9 : Fc.tot rs4 ≤ 2097152 := TX.out
        have tx1 : decide ((1 : Int) + (Fc.tot rs4 : Int) < 0) = false := by simp; omega
        clear tx9
        obtain ⟨qaa0⟩ := aa_11.out
        obtain ⟨qbx0⟩ := bx_11.out
        go_wp2_with fail
        refine (eqInts_any _ _ _ _ _ la (u5) (u3) _ Ya5_11.out.ints Ya3_11.out.ints hza).mono ?_
        rintro e w12 ⟨rfl, hm⟩
        have hb : Below w11.heap.size w11 w12 := by obtain ⟨m, rfl⟩ := hm; exact Go.Joins.below_draws _ _ _
        clear hm
        clear qaa0 qbx0
        have D12 := Lib.hid (hb)
        have s12 : w11.heap.size + 0 ≤ w12.heap.size := by have := hb.size; (try simp at this); omega
        have aa_12 := Lib.hid (aa_11.out.below D12.out (by omega))
        clear aa_11
        have bx_12 := Lib.hid (bx_11.out.below D12.out (by omega))
        clear bx_11
        have Ya3_12 := Lib.hid (Ya3_11.out.below D12.out (by omega))
        clear Ya3_11
        have Yb3_12 := Lib.hid (Yb3_11.out.below D12.out (by omega))
        clear Yb3_11
        have Yc3_12 := Lib.hid (Yc3_11.out.below D12.out (by omega))
        clear Yc3_11
        have Ya5_12 := Lib.hid (Ya5_11.out.below D12.out (by omega))
        clear Ya5_11
        have Yb5_12 := Lib.hid (Yb5_11.out.below D12.out (by omega))
        clear Yb5_11
        have Yc5_12 := Lib.hid (Yc5_11.out.below D12.out (by omega))
        clear Yc5_11
        have HB12 := Lib.hid (HB.out.trans (D12.out.mono (by omega)))
        clear HB
        have HB := HB12
        clear HB12 hb
        clear z_aa
        have z_aa : w.heap.size < w12.heap.size := by omega
        clear z_bx
        have z_bx : w4.heap.size < w12.heap.size := by omega
        obtain ⟨qaa0⟩ := aa_12.out
        obtain ⟨qbx0⟩ := bx_12.out
        go_wp2_with fail
        refine (eqInts_any _ _ _ _ _ lb (v5) (v3) _ Yb5_12.out.ints Yb3_12.out.ints hzb).mono ?_
        rintro e w13 ⟨rfl, hm⟩
        have hb : Below w12.heap.size w12 w13 := by obtain ⟨m, rfl⟩ := hm; exact Go.Joins.below_draws _ _ _
        clear hm
        clear qaa0 qbx0
        have D13 := Lib.hid (hb)
        have s13 : w12.heap.size + 0 ≤ w13.heap.size := by have := hb.size; (try simp at this); omega
        have aa_13 := Lib.hid (aa_12.out.below D13.out (by omega))
        clear aa_12
        have bx_13 := Lib.hid (bx_12.out.below D13.out (by omega))
        clear bx_12
        have Ya3_13 := Lib.hid (Ya3_12.out.below D13.out (by omega))
        clear Ya3_12
        have Yb3_13 := Lib.hid (Yb3_12.out.below D13.out (by omega))
        clear Yb3_12
        have Yc3_13 := Lib.hid (Yc3_12.out.below D13.out (by omega))
        clear Yc3_12
        have Ya5_13 := Lib.hid (Ya5_12.out.below D13.out (by omega))
        clear Ya5_12
        have Yb5_13 := Lib.hid (Yb5_12.out.below D13.out (by omega))
        clear Yb5_12
        have Yc5_13 := Lib.hid (Yc5_12.out.below D13.out (by omega))
        clear Yc5_12
        have HB13 := Lib.hid (HB.out.trans (D13.out.mono (by omega)))
        clear HB
        have HB := HB13
        clear HB13 hb
        clear z_aa
        have z_aa : w.heap.size < w13.heap.size := by omega
        clear z_bx
        have z_bx : w4.heap.size < w13.heap.size := by omega
        obtain ⟨qaa0⟩ := aa_13.out
        obtain ⟨qbx0⟩ := bx_13.out
        go_wp2_with fail
        refine (eqInts_any _ _ _ _ _ ld (w5.heap.size) (w3.heap.size) _ Yc5_13.out.ints Yc3_13.out.ints hzd).mono ?_
        rintro e w14 ⟨rfl, hm⟩
        have hb : Below w13.heap.size w13 w14 := by obtain ⟨m, rfl⟩ := hm; exact Go.Joins.below_draws _ _ _
        clear hm
        clear qaa0 qbx0
        have D14 := Lib.hid (hb)
        have s14 : w13.heap.size + 0 ≤ w14.heap.size := by have := hb.size; (try simp at this); omega
        have aa_14 := Lib.hid (aa_13.out.below D14.out (by omega))
        clear aa_13
        have bx_14 := Lib.hid (bx_13.out.below D14.out (by omega))
        clear bx_13
        have Ya3_14 := Lib.hid (Ya3_13.out.below D14.out (by omega))
        clear Ya3_13
        have Yb3_14 := Lib.hid (Yb3_13.out.below D14.out (by omega))
        clear Yb3_13
        have Yc3_14 := Lib.hid (Yc3_13.out.below D14.out (by omega))
        clear Yc3_13
        have Ya5_14 := Lib.hid (Ya5_13.out.below D14.out (by omega))
        clear Ya5_13
        have Yb5_14 := Lib.hid (Yb5_13.out.below D14.out (by omega))
        clear Yb5_13
        have Yc5_14 := Lib.hid (Yc5_13.out.below D14.out (by omega))
        clear Yc5_13
        have HB14 := Lib.hid (HB.out.trans (D14.out.mono (by omega)))
        clear HB
        have HB := HB14
        clear HB14 hb
        clear z_aa
        have z_aa : w.heap.size < w14.heap.size := by omega
        clear z_bx
        have z_bx : w4.heap.size < w14.heap.size := by omega
        as_aux_lemma =>
          obtain ⟨qaa0⟩ := aa_14.out
          obtain ⟨qbx0⟩ := bx_14.out
          go_wp2_with fail
          refine (markMine_any Ra5 la.length _ 1 la (w4.heap.size + 1) (u5) _ Ya5_14.out hza (by omega) (by omega)).mono ?_
          rintro e w15 ⟨rfl, hown, hk⟩
          have Ya5_15 := Lib.hid hown
          clear Ya5_14 hown
          clear qaa0 qbx0
          have D15 := Lib.hid (hk)
          have s15 : w14.heap.size ≤ w15.heap.size := hk.size
          have aa_15 := Lib.hid (aa_14.out.kept D15.out (by omega) (by omega))
          clear aa_14
          have bx_15 := Lib.hid (bx_14.out.kept D15.out (by omega) (by omega))
          clear bx_14
          have Ya3_15 := Lib.hid (Ya3_14.out.kept D15.out (by omega) (by omega))
          clear Ya3_14
          have Yb3_15 := Lib.hid (Yb3_14.out.kept D15.out (by omega) (by omega))
          clear Yb3_14
          have Yc3_15 := Lib.hid (Yc3_14.out.kept D15.out (by omega) (by omega))
          clear Yc3_14
          have Yb5_15 := Lib.hid (Yb5_14.out.kept D15.out (by omega) (by omega))
          clear Yb5_14
          have Yc5_15 := Lib.hid (Yc5_14.out.kept D15.out (by omega) (by omega))
          clear Yc5_14
          have HB15 := Lib.hid (HB.out.trans (D15.out.below (by omega) (by omega)))
          clear HB
          have HB := HB15
          clear HB15 hk
          clear z_aa
          have z_aa : w.heap.size < w15.heap.size := by omega
          clear z_bx
          have z_bx : w4.heap.size < w15.heap.size := by omega
          obtain ⟨qaa0⟩ := aa_15.out
          obtain ⟨qbx0⟩ := bx_15.out
          go_wp2_with fail
          refine (markMine_any Rb5 lb.length _ (1 + (la.length : Int)) lb (u5) (v5) _ Yb5_15.out hzb (by omega) (by omega)).mono ?_
          rintro e w16 ⟨rfl, hown, hk⟩
          have Yb5_16 := Lib.hid hown
          clear Yb5_15 hown
          clear qaa0 qbx0
          have D16 := Lib.hid (hk)
          have s16 : w15.heap.size ≤ w16.heap.size := hk.size
          have aa_16 := Lib.hid (aa_15.out.kept D16.out (by omega) (by omega))
          clear aa_15
          have bx_16 := Lib.hid (bx_15.out.kept D16.out (by omega) (by omega))
          clear bx_15
          have Ya3_16 := Lib.hid (Ya3_15.out.kept D16.out (by omega) (by omega))
          clear Ya3_15
          have Yb3_16 := Lib.hid (Yb3_15.out.kept D16.out (by omega) (by omega))
          clear Yb3_15
          have Yc3_16 := Lib.hid (Yc3_15.out.kept D16.out (by omega) (by omega))
          clear Yc3_15
          have Ya5_16 := Lib.hid (Ya5_15.out.kept D16.out (by omega) (by omega))
          clear Ya5_15
          have Yc5_16 := Lib.hid (Yc5_15.out.kept D16.out (by omega) (by omega))
          clear Yc5_15
          have HB16 := Lib.hid (HB.out.trans (D16.out.below (by omega) (by omega)))
          clear HB
          have HB := HB16
          clear HB16 hk
          clear z_aa
          have z_aa : w.heap.size < w16.heap.size := by omega
          clear z_bx
          have z_bx : w4.heap.size < w16.heap.size := by omega
          obtain ⟨qaa0⟩ := aa_16.out
          obtain ⟨qbx0⟩ := bx_16.out
          go_wp2_with fail
          refine (markMine_any Rc5 ld.length _ (1 + (la.length : Int) + (lb.length : Int)) ld (v5) (w5.heap.size) _ Yc5_16.out hzd (by omega) (by omega)).mono ?_
          rintro e w17 ⟨rfl, hown, hk⟩
          have Yc5_17 := Lib.hid hown
          clear Yc5_16 hown
          clear qaa0 qbx0
          have D17 := Lib.hid (hk)
          have s17 : w16.heap.size ≤ w17.heap.size := hk.size
          have aa_17 := Lib.hid (aa_16.out.kept D17.out (by omega) (by omega))
          clear aa_16
          have bx_17 := Lib.hid (bx_16.out.kept D17.out (by omega) (by omega))
          clear bx_16
          have Ya3_17 := Lib.hid (Ya3_16.out.kept D17.out (by omega) (by omega))
          clear Ya3_16
          have Yb3_17 := Lib.hid (Yb3_16.out.kept D17.out (by omega) (by omega))
          clear Yb3_16
          have Yc3_17 := Lib.hid (Yc3_16.out.kept D17.out (by omega) (by omega))
          clear Yc3_16
          have Ya5_17 := Lib.hid (Ya5_16.out.kept D17.out (by omega) (by omega))
          clear Ya5_16
          have Yb5_17 := Lib.hid (Yb5_16.out.kept D17.out (by omega) (by omega))
          clear Yb5_16
          have HB17 := Lib.hid (HB.out.trans (D17.out.below (by omega) (by omega)))
          clear HB
          have HB := HB17
          clear HB17 hk
          clear z_aa
          have z_aa : w.heap.size < w17.heap.size := by omega
          clear z_bx
          have z_bx : w4.heap.size < w17.heap.size := by omega
          have tqa : decide ((1 : Int) + (la.length : Int) < 0) = false := by simp; omega
          have tqb : decide ((1 : Int) + (la.length : Int) + (lb.length : Int) < 0) = false := by simp; omega
          have tqd : decide ((1 : Int) + (la.length : Int) + (lb.length : Int) + (ld.length : Int) < 0) = false := by simp; omega
          obtain ⟨qaa0⟩ := aa_17.out
          obtain ⟨qbx0⟩ := bx_17.out
          go_wp2_with fail
          refine (heldInts_any Ra5 la.length _ 1 (u5) _ Ya5_17.out.ints hza (by omega) (by omega)).mono ?_
          rintro e w' ⟨rfl, rfl⟩
          clear qaa0 qbx0
          obtain ⟨qaa0⟩ := aa_17.out
          obtain ⟨qbx0⟩ := bx_17.out
          go_wp2_with fail
          refine (heldInts_any Rb5 lb.length _ (1 + (la.length : Int)) (v5) _ Yb5_17.out.ints hzb (by omega) (by omega)).mono ?_
          rintro e w' ⟨rfl, rfl⟩
          clear qaa0 qbx0
          obtain ⟨qaa0⟩ := aa_17.out
          obtain ⟨qbx0⟩ := bx_17.out
          go_wp2_with fail
          refine (heldInts_any Rc5 ld.length _ (1 + (la.length : Int) + (lb.length : Int)) (w5.heap.size) _ Yc5_17.out.ints hzd (by omega) (by omega)).mono ?_
          rintro e w' ⟨rfl, rfl⟩
          clear qaa0 qbx0
          as_aux_lemma =>
            obtain ⟨qaa0⟩ := aa_17.out
            obtain ⟨qbx0⟩ := bx_17.out
            go_wp2_with fail
            refine (Fc.toT_any Aa ca rsa _ (Ha.out.into HB.out) hnl ROW.out).mono ?_
            rintro e w18 ⟨g18, c18, rs18, rfl, hk, hv, hb⟩
            clear qaa0 qbx0
            have X18_18 := Lib.hid (hk.wide (lo' := w17.heap.size) (hi' := w18.heap.size) (by simp) (Nat.le_refl _))
            have V18 := Lib.hid hv
            clear hk hv
            have D18 := Lib.hid (hb)
            have s18 : w17.heap.size + 0 ≤ w18.heap.size := by have := hb.size; (try simp at this); omega
            have aa_18 := Lib.hid (aa_17.out.below D18.out (by omega))
            clear aa_17
            have bx_18 := Lib.hid (bx_17.out.below D18.out (by omega))
            clear bx_17
            have Ya3_18 := Lib.hid (Ya3_17.out.below D18.out (by omega))
            clear Ya3_17
            have Yb3_18 := Lib.hid (Yb3_17.out.below D18.out (by omega))
            clear Yb3_17
            have Yc3_18 := Lib.hid (Yc3_17.out.below D18.out (by omega))
            clear Yc3_17
            have Ya5_18 := Lib.hid (Ya5_17.out.below D18.out (by omega))
            clear Ya5_17
            have Yb5_18 := Lib.hid (Yb5_17.out.below D18.out (by omega))
            clear Yb5_17
            have Yc5_18 := Lib.hid (Yc5_17.out.below D18.out (by omega))
            clear Yc5_17
            have HB18 := Lib.hid (HB.out.trans (D18.out.mono (by omega)))
            clear HB
            have HB := HB18
            clear HB18 hb
            clear z_aa
            have z_aa : w.heap.size < w18.heap.size := by omega
            clear z_bx
            have z_bx : w4.heap.size < w18.heap.size := by omega
            obtain ⟨qaa0⟩ := aa_18.out
            obtain ⟨qbx0⟩ := bx_18.out
            go_wp2_with fail
            refine (HI.out _ _ _ _ (X18_18.out.rd.more (by (try simp) <;> omega)) V18.out HB.out).mono ?_
            rintro e w19 ⟨Ra19, ta19, Rb19, tb19, Rc19, tc19, u19, v19, rfl, ⟨hq1, hq2, hq3⟩, hoa, hob, hod, _, _, _, hb⟩
            clear qaa0 qbx0
            have U19 : w18.heap.size ≤ u19 := by (try simp at hq1); omega
            have UV19 : u19 ≤ v19 := hq2
            have VH19 : v19 ≤ w19.heap.size := hq3
            clear hq1 hq2 hq3
            have Ya19_19 := Lib.hid (hoa.wide (lo' := w18.heap.size) (hi' := u19) (by simp) (Nat.le_refl _))
            have Yb19_19 := Lib.hid hob
            have Yc19_19 := Lib.hid hod
            clear hoa hob hod
            have D19 := Lib.hid (hb)
            have s19 : w18.heap.size + 0 ≤ w19.heap.size := by have := hb.size; (try simp at this); omega
            have aa_19 := Lib.hid (aa_18.out.below D19.out (by omega))
            clear aa_18
            have bx_19 := Lib.hid (bx_18.out.below D19.out (by omega))
            clear bx_18
            have Ya3_19 := Lib.hid (Ya3_18.out.below D19.out (by omega))
            clear Ya3_18
            have Yb3_19 := Lib.hid (Yb3_18.out.below D19.out (by omega))
            clear Yb3_18
            have Yc3_19 := Lib.hid (Yc3_18.out.below D19.out (by omega))
            clear Yc3_18
            have Ya5_19 := Lib.hid (Ya5_18.out.below D19.out (by omega))
            clear Ya5_18
            have Yb5_19 := Lib.hid (Yb5_18.out.below D19.out (by omega))
            clear Yb5_18
            have Yc5_19 := Lib.hid (Yc5_18.out.below D19.out (by omega))
            clear Yc5_18
            have X18_19 := Lib.hid (X18_18.out.below D19.out (by omega))
            clear X18_18
            have HB19 := Lib.hid (HB.out.trans (D19.out.mono (by omega)))
            clear HB
            have HB := HB19
            clear HB19 hb
            clear z_aa
            have z_aa : w.heap.size < w19.heap.size := by omega
            clear z_bx
            have z_bx : w4.heap.size < w19.heap.size := by omega
            clear X18_19
            obtain ⟨qaa0⟩ := aa_19.out
            obtain ⟨qbx0⟩ := bx_19.out
            go_wp2_with fail
            refine (eqInts_any _ _ _ _ _ la (u19) (u3) _ Ya19_19.out.ints Ya3_19.out.ints hza).mono ?_
            rintro e w20 ⟨rfl, hm⟩
            have hb : Below w19.heap.size w19 w20 := by obtain ⟨m, rfl⟩ := hm; exact Go.Joins.below_draws _ _ _
            clear hm
            clear qaa0 qbx0
            have D20 := Lib.hid (hb)
            have s20 : w19.heap.size + 0 ≤ w20.heap.size := by have := hb.size; (try simp at this); omega
            have aa_20 := Lib.hid (aa_19.out.below D20.out (by omega))
            clear aa_19
            have bx_20 := Lib.hid (bx_19.out.below D20.out (by omega))
            clear bx_19
            have Ya3_20 := Lib.hid (Ya3_19.out.below D20.out (by omega))
            clear Ya3_19
            have Yb3_20 := Lib.hid (Yb3_19.out.below D20.out (by omega))
            clear Yb3_19
            have Yc3_20 := Lib.hid (Yc3_19.out.below D20.out (by omega))
            clear Yc3_19
            have Ya5_20 := Lib.hid (Ya5_19.out.below D20.out (by omega))
            clear Ya5_19
            have Yb5_20 := Lib.hid (Yb5_19.out.below D20.out (by omega))
            clear Yb5_19
            have Yc5_20 := Lib.hid (Yc5_19.out.below D20.out (by omega))
            clear Yc5_19
            have Ya19_20 := Lib.hid (Ya19_19.out.below D20.out (by omega))
            clear Ya19_19
            have Yb19_20 := Lib.hid (Yb19_19.out.below D20.out (by omega))
            clear Yb19_19
            have Yc19_20 := Lib.hid (Yc19_19.out.below D20.out (by omega))
            clear Yc19_19
            have HB20 := Lib.hid (HB.out.trans (D20.out.mono (by omega)))
            clear HB
            have HB := HB20
            clear HB20 hb
            clear z_aa
            have z_aa : w.heap.size < w20.heap.size := by omega
            clear z_bx
            have z_bx : w4.heap.size < w20.heap.size := by omega
            obtain ⟨qaa0⟩ := aa_20.out
            obtain ⟨qbx0⟩ := bx_20.out
            go_wp2_with fail
            refine (eqInts_any _ _ _ _ _ lb (v19) (v3) _ Yb19_20.out.ints Yb3_20.out.ints hzb).mono ?_
            rintro e w21 ⟨rfl, hm⟩
            have hb : Below w20.heap.size w20 w21 := by obtain ⟨m, rfl⟩ := hm; exact Go.Joins.below_draws _ _ _
            clear hm
            clear qaa0 qbx0
            have D21 := Lib.hid (hb)
            have s21 : w20.heap.size + 0 ≤ w21.heap.size := by have := hb.size; (try simp at this); omega
            have aa_21 := Lib.hid (aa_20.out.below D21.out (by omega))
            clear aa_20
            have bx_21 := Lib.hid (bx_20.out.below D21.out (by omega))
            clear bx_20
            have Ya3_21 := Lib.hid (Ya3_20.out.below D21.out (by omega))
            clear Ya3_20
            have Yb3_21 := Lib.hid (Yb3_20.out.below D21.out (by omega))
            clear Yb3_20
            have Yc3_21 := Lib.hid (Yc3_20.out.below D21.out (by omega))
            clear Yc3_20
            have Ya5_21 := Lib.hid (Ya5_20.out.below D21.out (by omega))
            clear Ya5_20
            have Yb5_21 := Lib.hid (Yb5_20.out.below D21.out (by omega))
            clear Yb5_20
            have Yc5_21 := Lib.hid (Yc5_20.out.below D21.out (by omega))
            clear Yc5_20
            have Ya19_21 := Lib.hid (Ya19_20.out.below D21.out (by omega))
            clear Ya19_20
            have Yb19_21 := Lib.hid (Yb19_20.out.below D21.out (by omega))
            clear Yb19_20
            have Yc19_21 := Lib.hid (Yc19_20.out.below D21.out (by omega))
            clear Yc19_20
            have HB21 := Lib.hid (HB.out.trans (D21.out.mono (by omega)))
            clear HB
            have HB := HB21
            clear HB21 hb
            clear z_aa
            have z_aa : w.heap.size < w21.heap.size := by omega
            clear z_bx
            have z_bx : w4.heap.size < w21.heap.size := by omega
            obtain ⟨qaa0⟩ := aa_21.out
            obtain ⟨qbx0⟩ := bx_21.out
            go_wp2_with fail
            refine (eqInts_any _ _ _ _ _ ld (w19.heap.size) (w3.heap.size) _ Yc19_21.out.ints Yc3_21.out.ints hzd).mono ?_
            rintro e w22 ⟨rfl, hm⟩
            have hb : Below w21.heap.size w21 w22 := by obtain ⟨m, rfl⟩ := hm; exact Go.Joins.below_draws _ _ _
            clear hm
            clear qaa0 qbx0
            have D22 := Lib.hid (hb)
            have s22 : w21.heap.size + 0 ≤ w22.heap.size := by have := hb.size; (try simp at this); omega
            have aa_22 := Lib.hid (aa_21.out.below D22.out (by omega))
            clear aa_21
            have bx_22 := Lib.hid (bx_21.out.below D22.out (by omega))
            clear bx_21
            have Ya3_22 := Lib.hid (Ya3_21.out.below D22.out (by omega))
            clear Ya3_21
            have Yb3_22 := Lib.hid (Yb3_21.out.below D22.out (by omega))
            clear Yb3_21
            have Yc3_22 := Lib.hid (Yc3_21.out.below D22.out (by omega))
            clear Yc3_21
            have Ya5_22 := Lib.hid (Ya5_21.out.below D22.out (by omega))
            clear Ya5_21
            have Yb5_22 := Lib.hid (Yb5_21.out.below D22.out (by omega))
            clear Yb5_21
            have Yc5_22 := Lib.hid (Yc5_21.out.below D22.out (by omega))
            clear Yc5_21
            have Ya19_22 := Lib.hid (Ya19_21.out.below D22.out (by omega))
            clear Ya19_21
            have Yb19_22 := Lib.hid (Yb19_21.out.below D22.out (by omega))
            clear Yb19_21
            have Yc19_22 := Lib.hid (Yc19_21.out.below D22.out (by omega))
            clear Yc19_21
            have HB22 := Lib.hid (HB.out.trans (D22.out.mono (by omega)))
            clear HB
            have HB := HB22
            clear HB22 hb
            clear z_aa
            have z_aa : w.heap.size < w22.heap.size := by omega
            clear z_bx
            have z_bx : w4.heap.size < w22.heap.size := by omega
            as_aux_lemma =>
              obtain ⟨qaa0⟩ := aa_22.out
              obtain ⟨qbx0⟩ := bx_22.out
              go_wp2_with fail
              refine (heldInts_any Ra5 la.length _ 1 (u5) _ Ya5_22.out.ints hza (by omega) (by omega)).mono ?_
              rintro e w' ⟨rfl, rfl⟩
              clear qaa0 qbx0
              obtain ⟨qaa0⟩ := aa_22.out
              obtain ⟨qbx0⟩ := bx_22.out
              go_wp2_with fail
              refine (heldInts_any Rb5 lb.length _ (1 + (la.length : Int)) (v5) _ Yb5_22.out.ints hzb (by omega) (by omega)).mono ?_
              rintro e w' ⟨rfl, rfl⟩
              clear qaa0 qbx0
              obtain ⟨qaa0⟩ := aa_22.out
              obtain ⟨qbx0⟩ := bx_22.out
              go_wp2_with fail
              refine (heldInts_any Rc5 ld.length _ (1 + (la.length : Int) + (lb.length : Int)) (w5.heap.size) _ Yc5_22.out.ints hzd (by omega) (by omega)).mono ?_
              rintro e w' ⟨rfl, rfl⟩
              clear qaa0 qbx0
              go_wp2
              go_ret
              exact ⟨rfl, HB.out⟩

end Go.Proofs.YtjendlfophdfeaaDoor

