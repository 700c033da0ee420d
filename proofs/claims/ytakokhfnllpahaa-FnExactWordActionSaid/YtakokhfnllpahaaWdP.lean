/- Which lists are reduced words, which presentations are valid: the program and the specification. No condition but those that each theorem names. -/
import Derived.Test.YtakokhfnllpahaaWdB
import Derived.Test.YtakokhfnllpahaaSsP
namespace Go.Proofs.Ytakokhfnllpahaa
open Go.RowKit

namespace Wd
/-- No letter is next to its negative, by places. -/
def RedI (l : List Int) : Prop := ∀ j, j < l.length - 1 → l.getD (j + 1) 0 ≠ -(l.getD j 0)
instance (l : List Int) : Decidable (RedI l) := inferInstanceAs (Decidable (∀ j, j < l.length - 1 → l.getD (j + 1) 0 ≠ -(l.getD j 0)))
/-- A list is a reduced word. -/
def isR (most : Int) (l : List Int) : Bool := isW most l && decide (RedI l)
theorem isR_iff {most : Int} {l : List Int} : isR most l = true ↔ isW most l = true ∧ RedI l := by simp [isR]
theorem isR_noW {most : Int} {l : List Int} (h : isW most l = false) : isR most l = false := by simp [isR, h]
theorem isR_yes {most : Int} {l : List Int} (h : isW most l = true) (h2 : RedI l) : isR most l = true := isR_iff.2 ⟨h, h2⟩
theorem isR_bad {most : Int} {l : List Int} {k : Nat} (hk : k < l.length - 1) (h : l.getD (k + 1) 0 = -(l.getD k 0)) : isR most l = false := by
  have : ¬ RedI l := fun h' => h' k hk h
  simp [isR, this]
/-- The first letters are fit, and none is next to its negative. -/
def FitR (most : Int) (l : List Int) (k : Nat) : Prop := Fit most l k ∧ ∀ j, j < k - 1 → l.getD (j + 1) 0 ≠ -(l.getD j 0)
theorem FitR.zero (most : Int) (l : List Int) : FitR most l 0 := ⟨Fit.zero most l, fun j h => by omega⟩
theorem FitR.next {most : Int} {l : List Int} {k : Nat} (h : FitR most l k) (h0 : l.getD k 0 ≠ 0) (h1 : -most ≤ l.getD k 0) (h2 : l.getD k 0 ≤ most) (h3 : 0 < k → l.getD k 0 ≠ -(l.getD (k - 1) 0)) : FitR most l (k + 1) :=
  ⟨h.1.next h0 h1 h2, fun j hj => by
    by_cases e : j + 1 = k
    · have := h3 (by omega)
      rw [show j = k - 1 by omega, show k - 1 + 1 = k by omega]
      exact this
    · exact h.2 j (by omega)⟩
theorem FitR.all {most : Int} {l : List Int} (h : FitR most l l.length) (h120 : l.length ≤ 120) : isR most l = true := isR_yes (isW_yes h120 h.1) h.2
theorem isR_long {most : Int} {l : List Int} (h : ¬ l.length ≤ 120) : isR most l = false := isR_noW (isW_long h)
theorem isR_badL {most : Int} {l : List Int} {k : Nat} (hk : k < l.length) (h : ¬ (l.getD k 0 ≠ 0 ∧ -most ≤ l.getD k 0 ∧ l.getD k 0 ≤ most)) : isR most l = false := isR_noW (isW_bad hk h)
/-- A presentation is valid. -/
def isP (r : Int) (zss : List (List Int)) : Bool := decide (0 ≤ r ∧ r ≤ 24 ∧ zss.length ≤ 48 ∧ ∀ z ∈ zss, isR r z = true)
theorem isP_iff {r : Int} {zss : List (List Int)} : isP r zss = true ↔ 0 ≤ r ∧ r ≤ 24 ∧ zss.length ≤ 48 ∧ ∀ z ∈ zss, isR r z = true := by simp [isP]
theorem isP_no {r : Int} {zss : List (List Int)} (h : ¬ (0 ≤ r ∧ r ≤ 24 ∧ zss.length ≤ 48)) : isP r zss = false := by
  simp only [isP, decide_eq_false_iff_not]
  exact fun h' => h ⟨h'.1, h'.2.1, h'.2.2.1⟩
theorem isP_row {r : Int} {zss : List (List Int)} {z : List Int} (hz : z ∈ zss) (h : isR r z = false) : isP r zss = false := by
  simp only [isP, decide_eq_false_iff_not]
  exact fun h' => by rw [h'.2.2.2 z hz] at h; cases h
end Wd
theorem vals_mem {rs : List Rw} {j : Nat} (h : j < rs.length) : (rs.getD j nilRw).zs ∈ vals rs := List.mem_map_of_mem (getD_mem h)
/-- The first k relators are fit. -/
def FitP (r : Int) (rs : List Rw) (k : Nat) : Prop := ∀ j, j < k → Wd.isR r (rs.getD j nilRw).zs = true
theorem FitP.zero (r : Int) (rs : List Rw) : FitP r rs 0 := fun j h => by omega
theorem FitP.next {r : Int} {rs : List Rw} {k : Nat} (h : FitP r rs k) (hk : Wd.isR r (rs.getD k nilRw).zs = true) : FitP r rs (k + 1) := fun j hj => by
  by_cases e : j = k
  · subst e; exact hk
  · exact h j (by omega)
theorem FitP.all {r : Int} {rs : List Rw} {n : Nat} (h : FitP r rs n) (hn : rs.length = n) (h0 : 0 ≤ r) (h1 : r ≤ 24) (h2 : n ≤ 48) : Wd.isP r (vals rs) = true :=
  Wd.isP_iff.2 ⟨h0, h1, by rw [vals_len, hn]; exact h2, fun z hz => by
    obtain ⟨q, hq, rfl⟩ := List.mem_map.1 hz
    obtain ⟨j, hj, rfl⟩ := List.mem_iff_getElem.1 hq
    have := h j (by omega)
    rwa [List.getD_eq_getElem?_getD, List.getElem?_eq_getElem hj] at this⟩

/-- A truth value; the world has at most drawn. -/
def ResQ (w : World) (b : Bool) (e : Ending) (w' : World) : Prop := e = .returned (.bool b) ∧ ∃ m, w' = w.drewN m
theorem drewN_more {w V : World} (h : ∃ m, V = w.drewN m) (k : Nat) : ∃ m, V.drewN k = w.drewN m := by
  obtain ⟨m, rfl⟩ := h
  exact ⟨m + k, by rw [World.drewN_drewN]⟩

set_option maxHeartbeats 2000000 in
theorem reducedUpTo_impl (A : Option Addr) (n c : Nat) (zs : List Int) (most : Int) (B : Nat) (w : World) (h : Ints w B A n zs) (hn : n ≤ 1048576) (hm : 0 ≤ most) (hm' : most ≤ 1000) :
    Calls Try.prog 88 #[.slice A n c, .int .i64 most] w (ResQ w (Wd.isR most zs)) := by
  have hl := Lib.hid h.1
  have H := Lib.hid h
  clear h
  rcases hw : Wd.isW most zs with _ | _
  · rw [Wd.isR_noW hw]
    have W := Lib.hid hw
    clear hw
    go_enter Try.func88, Try.ntmps88
    go_wp2_with fail
    refine (wordUpTo_impl A n c zs most B _ H.out hn hm hm').mono ?_
    rintro e w' ⟨rfl, rfl⟩
    rw [W.out]
    go_wp2
    go_ret
    exact ⟨rfl, 0, rfl⟩
  have W := Lib.hid hw
  have S := Lib.hid (Wd.isW_sm hw hm')
  clear hw
  go_enter Try.func88, Try.ntmps88
  go_wp2_with fail
  refine (wordUpTo_impl A n c zs most B _ H.out hn hm hm').mono ?_
  rintro e w' ⟨rfl, rfl⟩
  rw [W.out]
  go_wp2
  go_loopw [5] (fun i V => ∃ k : Nat, 1 ≤ k ∧ k ≤ n + 1 ∧ i = .int .i64 k ∧ (∀ j, j < k - 1 → zs.getD (j + 1) 0 ≠ -(zs.getD j 0)) ∧ ∃ m, V = w.drewN m) (fun i _ => n + 1 - (intOf i).toNat)
  case atStart => exact ⟨1, Nat.le_refl _, by omega, rfl, fun j h => by omega, 0, rfl⟩
  case round =>
    obtain ⟨k, k1, hk, rfl, hfit, hV⟩ := hrel
    have F := Lib.hid hfit
    have V := Lib.hid hV
    have HW := Lib.hid (show Ints wr B A n zs from by obtain ⟨m, rfl⟩ := hV; exact H.out)
    clear hfit hV
    by_cases hlt : k < n
    · obtain ⟨b, off, y, rfl, hb, hy, hcy⟩ := HW.out.at_z hlt
      obtain ⟨b', off', x, e', _, hx, hcx⟩ := HW.out.at_z (k := k - 1) (by omega)
      cases e'
      have hxb := S.out.at_ (k := k - 1) (by rw [hl.out]; omega)
      rw [hx] at hxb
      obtain ⟨x1, x2⟩ := hxb
      have X := Lib.hid hx
      have Y := Lib.hid hy
      have i0 : (0 : Int) ≤ (k : Int) - 1 := by omega
      have i0' : (1 : Int) ≤ (k : Int) := by omega
      have i1 : ((k : Int) - 1).toNat = k - 1 := by omega
      have i2 : IntKind.i64.wrap ((k : Int) - 1) = (k : Int) - 1 := IntWalk.i64_in _ (by omega)
      have i3 : (k : Int) - 1 < (n : Int) := by omega
      have i4 : (k : Int) < (n : Int) := by omega
      have i5 : (0 : Int) ≤ (k : Int) := by omega
      have NX : IntKind.i64.wrap (-x) = -x := IntWalk.i64_in _ (by omega)
      clear hx hy
      by_cases he : y = -x
      · have te : (y == -x) = true := by simpa using he
        have BAD := Lib.hid (Wd.isR_bad (most := most) (l := zs) (k := k - 1) (by rw [hl.out]; omega) (by rw [show k - 1 + 1 = k by omega, X.out, Y.out, he]))
        clear he
        go_wp2
        go_quiet (fail)
        all_goals
          go_wp2
          go_ret
          exact ⟨ret_b BAD.out, drewN_more V.out _⟩
      · have te : (y == -x) = false := by simpa using he
        have NEXT := Lib.hid (fun j (hj : j < k + 1 - 1) => (show zs.getD (j + 1) 0 ≠ -(zs.getD j 0) from by
          by_cases e : j + 1 = k
          · rw [show j = k - 1 by omega, show k - 1 + 1 = k by omega, X.out, Y.out]; exact he
          · exact F.out j (by omega)))
        clear he
        go_wp2
        go_quiet (fail)
        all_goals
          go_wp2
          go_roundw
          case rel => exact ⟨k + 1, by omega, by omega, by go_num, NEXT.out, drewN_more V.out _⟩
          case measure => simp [intOf]; omega
    · have i4 : ¬ (k : Int) < (n : Int) := by omega
      have Y := Lib.hid (Wd.isR_yes W.out (fun j hj => F.out j (by rw [hl.out] at hj; omega)))
      go_wp2
      go_ret
      exact ⟨ret_b Y.out, V.out⟩

set_option maxHeartbeats 4000000 in
theorem letters_spec (A : Option Addr) (n c : Nat) (zs : List Int) (most : Int) (B : Nat) (w : World) (h : Ints w B A n zs) (hn : n ≤ 1048576) (hm : 0 ≤ most) (hm' : most ≤ 1000) :
    Calls Try.prog 60 #[.slice A n c, .int .i64 most] w (ResQ w (Wd.isR most zs)) := by
  have hl := Lib.hid h.1
  have H := Lib.hid h
  clear h
  have NM : IntKind.i64.wrap (-most) = -most := IntWalk.i64_in _ (by omega)
  go_enter Try.func60, Try.ntmps60
  go_wp2
  go_loopw [5] (fun i V => ∃ k : Nat, k ≤ n ∧ i = .int .i64 k ∧ Wd.FitR most zs k ∧ ∃ m, V = w.drewN m) (fun i _ => n - (intOf i).toNat)
  case atStart => exact ⟨0, Nat.zero_le _, rfl, Wd.FitR.zero _ _, 0, rfl⟩
  case round =>
    obtain ⟨k, hk, rfl, hfit, hV⟩ := hrel
    have F := Lib.hid hfit
    have V := Lib.hid hV
    have HW := Lib.hid (show Ints wr B A n zs from by obtain ⟨m, rfl⟩ := hV; exact H.out)
    clear hfit hV
    have i5 : (0 : Int) ≤ (k : Int) := by omega
    by_cases hlt : k < n
    · obtain ⟨b, off, y, rfl, hb, hy, hcy⟩ := HW.out.at_z hlt
      have Y := Lib.hid hy
      have i4 : (k : Int) < (n : Int) := by omega
      clear hy
      by_cases h0 : y = 0
      · have BAD := Lib.hid (Wd.isR_badL (most := most) (l := zs) (k := k) (by rw [hl.out]; exact hlt) (by rw [Y.out]; omega))
        subst h0
        go_wp2
        go_quiet (fail)
        all_goals
          go_wp2
          go_ret
          exact ⟨ret_b BAD.out, drewN_more V.out _⟩
      have t1 : (y == (0 : Int)) = false := by simpa using h0
      by_cases h1 : -most ≤ y ∧ y ≤ most
      case neg =>
        have BAD := Lib.hid (Wd.isR_badL (most := most) (l := zs) (k := k) (by rw [hl.out]; exact hlt) (by rw [Y.out]; omega))
        have h1' := Lib.hid h1
        clear h0 h1
        go_wp2
        go_quiet ((go_at_call 59; exact Calls.quiet_of_same ((in_no _ _ _ _ h1'.out).mono fun _ _ h => ⟨h.1, h.2.symm⟩)))
        all_goals
          go_wp2
          go_ret
          exact ⟨ret_b BAD.out, drewN_more V.out _⟩
      have h1' := Lib.hid h1
      by_cases hk0 : k = 0
      · have NEXT := Lib.hid (F.out.next (by rw [Y.out]; exact h0) (by rw [Y.out]; omega) (by rw [Y.out]; omega) (fun h => by omega))
        subst hk0
        rw [Nat.add_zero] at hcy
        clear h0 h1
        go_wp2
        go_quiet ((go_at_call 59; exact Calls.quiet_of_same ((in_yes _ _ _ _ h1'.out.1 h1'.out.2).mono fun _ _ h => ⟨h.1, h.2.symm⟩)))
        all_goals
          go_wp2
          go_roundw
          case rel => exact ⟨0 + 1, by omega, by go_num, NEXT.out, drewN_more V.out _⟩
          case measure => simp [intOf]; omega
      obtain ⟨b', off', x, e', _, hx, hcx⟩ := HW.out.at_z (k := k - 1) (by omega)
      cases e'
      have xb : -most ≤ x ∧ x ≤ most := by have := F.out.1 (k - 1) (by omega); rw [hx] at this; exact this.2
      have X := Lib.hid hx
      obtain ⟨x1, x2⟩ := xb
      have i0 : (0 : Int) ≤ (k : Int) - 1 := by omega
      have i0' : (1 : Int) ≤ (k : Int) := by omega
      have i1 : ((k : Int) - 1).toNat = k - 1 := by omega
      have i2 : IntKind.i64.wrap ((k : Int) - 1) = (k : Int) - 1 := IntWalk.i64_in _ (by omega)
      have i3 : (k : Int) - 1 < (n : Int) := by omega
      have t2 : decide ((0 : Int) < (k : Int)) = true := by simp; omega
      have t2' : decide (0 < k) = true := by simp; omega
      have NX : IntKind.i64.wrap (-x) = -x := IntWalk.i64_in _ (by omega)
      clear hx
      by_cases he : y = -x
      · have te : (y == -x) = true := by simpa using he
        have BAD := Lib.hid (Wd.isR_bad (most := most) (l := zs) (k := k - 1) (by rw [hl.out]; omega) (by rw [show k - 1 + 1 = k by omega, X.out, Y.out, he]))
        clear he h0 h1 hk0
        go_wp2
        go_quiet ((go_at_call 59; exact Calls.quiet_of_same ((in_yes _ _ _ _ h1'.out.1 h1'.out.2).mono fun _ _ h => ⟨h.1, h.2.symm⟩)))
        all_goals
          go_wp2
          go_ret
          exact ⟨ret_b BAD.out, drewN_more V.out _⟩
      · have te : (y == -x) = false := by simpa using he
        have NEXT := Lib.hid (F.out.next (by rw [Y.out]; exact h0) (by rw [Y.out]; omega) (by rw [Y.out]; omega) (fun _ => by rw [X.out, Y.out]; exact he))
        clear he h0 h1 hk0
        go_wp2
        go_quiet ((go_at_call 59; exact Calls.quiet_of_same ((in_yes _ _ _ _ h1'.out.1 h1'.out.2).mono fun _ _ h => ⟨h.1, h.2.symm⟩)))
        all_goals
          go_wp2
          go_roundw
          case rel => exact ⟨k + 1, by omega, by go_num, NEXT.out, drewN_more V.out _⟩
          case measure => simp [intOf]; omega
    · obtain rfl : k = n := by omega
      have i4 : ¬ (k : Int) < (k : Int) := by omega
      by_cases h120 : k ≤ 120
      · have Y := Lib.hid (Wd.FitR.all (most := most) (l := zs) (by rw [hl.out]; exact F.out) (by rw [hl.out]; exact h120))
        have t0 : decide ((k : Int) ≤ (120 : Int)) = true := by simp; omega
        go_wp2
        go_ret
        exact ⟨ret_b Y.out, V.out⟩
      · have Y := Lib.hid (Wd.isR_long (most := most) (l := zs) (by rw [hl.out]; exact h120))
        have t0 : decide ((k : Int) ≤ (120 : Int)) = false := by simp; omega
        go_wp2
        go_ret
        exact ⟨ret_b Y.out, V.out⟩

set_option maxHeartbeats 2000000 in
theorem isPres_impl (r : Int) (A : Option Addr) (c : Nat) (rs : List Rw) (w : World) (h : RdS w w.heap.size A rs) (hn : rs.length ≤ 1048576) (hrow : ∀ r ∈ rs, r.zs.length ≤ 1048576) :
    Calls Try.prog 55 #[.agg #[.int .i64 r, .slice A rs.length c]] w (ResB w (Wd.isP r (vals rs))) := by
  have H := Lib.hid h
  have ROW := Lib.hid hrow
  have D0 := Lib.hid (al1 w (Obj.cells #[.int .i64 r, .slice A rs.length c] 29))
  have K0 := Lib.hid (BoxG.new w 29 (.int .i64 r) (.slice A rs.length c))
  obtain ⟨n, hrn⟩ : ∃ n, rs.length = n := ⟨_, rfl⟩
  have HN := Lib.hid hrn
  rw [hrn] at hn D0 K0 ⊢
  clear h hrow hrn
  by_cases hok : 0 ≤ r ∧ r ≤ 24 ∧ n ≤ 48
  case neg =>
    have NO := Lib.hid (Wd.isP_no (r := r) (zss := vals rs) (by rw [vals_len, HN.out]; exact hok))
    by_cases h1 : r < 0
    · clear hok
      go_enter Try.func55, Try.ntmps55
      go_wp2
      go_ret
      exact ⟨ret_b NO.out, D0.out⟩
    by_cases h2 : 24 < r
    · clear hok
      go_enter Try.func55, Try.ntmps55
      go_wp2
      go_ret
      exact ⟨ret_b NO.out, D0.out⟩
    · have h3 : decide ((48 : Int) < (n : Int)) = true := by simp; omega
      have h3' : decide (48 < n) = true := by simp; omega
      clear hok
      go_enter Try.func55, Try.ntmps55
      go_wp2
      go_ret
      exact ⟨ret_b NO.out, D0.out⟩
  obtain ⟨r0, r1, r2⟩ := hok
  have h3 : decide ((48 : Int) < (n : Int)) = false := by simp; omega
  go_enter Try.func55, Try.ntmps55
  go_wp2
  obtain ⟨V, hV⟩ : ∃ V, V = w.alloc (Obj.cells #[.int .i64 r, .slice A n c] 29) := ⟨_, rfl⟩
  have s0 : w.heap.size < V.heap.size := by rw [hV]; simp
  rw [← hV] at D0 K0
  rw [← hV]
  clear hV
  go_loopw [22] (fun i W => ∃ k : Nat, k ≤ n ∧ i = .int .i64 k ∧ FitP r rs k ∧ Below V.heap.size V W) (fun i _ => n - (intOf i).toNat)
  case atStart => exact ⟨0, Nat.zero_le _, rfl, FitP.zero _ _, Below.refl _ _⟩
  case round =>
    obtain ⟨k, hk, rfl, hfit, hbel⟩ := hrel
    have F := Lib.hid hfit
    have D := Lib.hid hbel
    clear hfit hbel
    obtain ⟨k0, k1⟩ := K0.out.below D.out s0
    by_cases hlt : k < n
    · obtain ⟨b, off, Aj, cj, zj, rfl, hb, hr, hc, hjc, hjm, hj⟩ := (H.out.below (D0.out.trans (D.out.mono (by omega)))).at_ (j := k) (by rw [HN.out]; exact hlt)
      have hl := ROW.out _ (getD_mem (rs := rs) (j := k) (by rw [HN.out]; exact hlt))
      have hv := vals_mem (rs := rs) (j := k) (by rw [HN.out]; exact hlt)
      rw [hr] at hl hv
      have HR := Lib.hid hr
      have HJ := Lib.hid hj
      have HV := Lib.hid hv
      dsimp only at hl
      clear hr hj hv
      go_wp2_with fail
      refine (reducedUpTo_impl Aj zj.length cj zj r _ _ HJ.out hl r0 (by omega)).mono ?_
      rintro e w1 ⟨rfl, hq⟩
      have D1 := Lib.hid (show Below V.heap.size V w1 from by obtain ⟨m, rfl⟩ := hq; exact D.out.trans (Go.Joins.below_draws _ _ _))
      clear hq
      rcases hres : Wd.isR r zj with _ | _
      · have BAD := Lib.hid (Wd.isP_row HV.out hres)
        clear hres
        go_wp2
        go_ret
        exact ⟨ret_b BAD.out, D0.out.trans (D1.out.mono (by omega))⟩
      · have NEXT := Lib.hid (F.out.next (by rw [HR.out]; exact hres))
        clear hres
        go_wp2
        go_roundw
        case rel => exact ⟨k + 1, by omega, by go_num, NEXT.out, D1.out⟩
        case measure => simp [intOf]; omega
    · obtain rfl : k = n := by omega
      have Y := Lib.hid (F.out.all HN.out r0 r1 r2)
      go_wp2
      go_ret
      exact ⟨ret_b Y.out, D0.out.trans (D.out.mono (by omega))⟩

set_option maxHeartbeats 2000000 in
theorem isPres_spec (r : Int) (A : Option Addr) (c : Nat) (rs : List Rw) (w : World) (h : RdS w w.heap.size A rs) (hn : rs.length ≤ 1048576) (hrow : ∀ r ∈ rs, r.zs.length ≤ 1048576) :
    Calls Try.prog 21 #[.agg #[.int .i64 r, .slice A rs.length c]] w (ResB w (Wd.isP r (vals rs))) := by
  have H := Lib.hid h
  have ROW := Lib.hid hrow
  have D0 := Lib.hid (al1 w (Obj.cells #[.int .i64 r, .slice A rs.length c] 29))
  have K0 := Lib.hid (BoxG.new w 29 (.int .i64 r) (.slice A rs.length c))
  obtain ⟨n, hrn⟩ : ∃ n, rs.length = n := ⟨_, rfl⟩
  have HN := Lib.hid hrn
  rw [hrn] at hn D0 K0 ⊢
  clear h hrow hrn
  by_cases hin : 0 ≤ r ∧ r ≤ 24
  case neg =>
    have NO := Lib.hid (Wd.isP_no (r := r) (zss := vals rs) (by rw [vals_len, HN.out]; omega))
    have HI := Lib.hid hin
    clear hin
    go_enter Try.func21, Try.ntmps21
    go_wp2_with fail
    refine (in_no r 0 24 _ HI.out).mono ?_
    rintro e w' ⟨rfl, rfl⟩
    go_wp2
    go_ret
    exact ⟨ret_b NO.out, D0.out⟩
  obtain ⟨r0, r1⟩ := hin
  by_cases r2 : n ≤ 48
  case neg =>
    have NO := Lib.hid (Wd.isP_no (r := r) (zss := vals rs) (by rw [vals_len, HN.out]; omega))
    have h3 : decide ((48 : Int) < (n : Int)) = true := by simp; omega
    go_enter Try.func21, Try.ntmps21
    go_wp2_with fail
    refine (in_yes r 0 24 _ r0 r1).mono ?_
    rintro e w' ⟨rfl, rfl⟩
    go_wp2
    go_ret
    exact ⟨ret_b NO.out, D0.out⟩
  have h3 : decide ((48 : Int) < (n : Int)) = false := by simp; omega
  go_enter Try.func21, Try.ntmps21
  go_wp2_with fail
  refine (in_yes r 0 24 _ r0 r1).mono ?_
  rintro e w' ⟨rfl, rfl⟩
  go_wp2
  obtain ⟨V, hV⟩ : ∃ V, V = w.alloc (Obj.cells #[.int .i64 r, .slice A n c] 29) := ⟨_, rfl⟩
  have s0 : w.heap.size < V.heap.size := by rw [hV]; simp
  rw [← hV] at D0 K0
  rw [← hV]
  clear hV
  go_loopw [3] (fun i W => ∃ k : Nat, k ≤ n ∧ i = .int .i64 k ∧ FitP r rs k ∧ Below V.heap.size V W) (fun i _ => n - (intOf i).toNat)
  case atStart => exact ⟨0, Nat.zero_le _, rfl, FitP.zero _ _, Below.refl _ _⟩
  case round =>
    obtain ⟨k, hk, rfl, hfit, hbel⟩ := hrel
    have F := Lib.hid hfit
    have D := Lib.hid hbel
    clear hfit hbel
    obtain ⟨k0, k1⟩ := K0.out.below D.out s0
    have i5 : (0 : Int) ≤ (k : Int) := by omega
    by_cases hlt : k < n
    · obtain ⟨b, off, Aj, cj, zj, rfl, hb, hr, hc, hjc, hjm, hj⟩ := (H.out.below (D0.out.trans (D.out.mono (by omega)))).at_ (j := k) (by rw [HN.out]; exact hlt)
      have hl := ROW.out _ (getD_mem (rs := rs) (j := k) (by rw [HN.out]; exact hlt))
      have hv := vals_mem (rs := rs) (j := k) (by rw [HN.out]; exact hlt)
      rw [hr] at hl hv
      have HR := Lib.hid hr
      have HV := Lib.hid hv
      dsimp only at hl
      have i4 : (k : Int) < (n : Int) := by omega
      have LT := Lib.hid (fun m : Nat => letters_spec Aj zj.length cj zj r _ (wr.drewN m) (hj.drewN m) hl r0 (by omega))
      clear hr hj hv
      rcases hres : Wd.isR r zj with _ | _
      · have BAD := Lib.hid (Wd.isP_row HV.out hres)
        rw [hres] at LT
        clear hres
        go_wp2
        go_quiet ((go_at_call 60; exact Calls.quiet_of (LT.out _)))
        all_goals
          go_wp2
          go_ret
          exact ⟨ret_b BAD.out, D0.out.trans ((D.out.trans (Go.Joins.below_draws _ _ _)).mono (by omega))⟩
      · have NEXT := Lib.hid (F.out.next (by rw [HR.out]; exact hres))
        rw [hres] at LT
        clear hres
        go_wp2
        go_quiet ((go_at_call 60; exact Calls.quiet_of (LT.out _)))
        all_goals
          go_wp2
          go_roundw
          case rel => exact ⟨k + 1, by omega, by go_num, NEXT.out, D.out.trans (Go.Joins.below_draws _ _ _)⟩
          case measure => simp [intOf]; omega
    · obtain rfl : k = n := by omega
      have i4 : ¬ (k : Int) < (k : Int) := by omega
      have Y := Lib.hid (F.out.all HN.out r0 r1 r2)
      go_wp2
      go_ret
      exact ⟨ret_b Y.out, D0.out.trans (D.out.mono (by omega))⟩

end Go.Proofs.Ytakokhfnllpahaa
