/- FreeReduce, InvertWord and CyclicReduce, the program's and the specification's. No condition but those that each theorem names. -/
import Derived.Test.YtpojkahlllochaaWdC
namespace Go.Proofs.Ytpojkahlllochaa
open Go.RowKit

theorem ResLM.nil (w : World) {W : World} (A : Option Addr) (hb : Below w.heap.size w W) : ResLM w [] (.returned (.slice A 0 0)) W := ⟨A, 0, rfl, ⟨Nat.le_refl _, Nat.zero_le _⟩, Mine.none_ _ _ _ _, hb⟩
/-- What is handed back for a list that is perhaps no word. -/
def Wd.ifW (l r : List Int) : List Int := if isW 24 l = true then r else []
theorem Wd.ifW_yes {l r : List Int} (h : isW 24 l = true) : ifW l r = r := if_pos h
theorem Wd.ifW_no {l r : List Int} (h : isW 24 l = false) : ifW l r = [] := if_neg (by rw [h]; simp)
theorem Wd.ifW_len {l r : List Int} (h : r.length ≤ l.length) : (ifW l r).length ≤ l.length := by
  unfold ifW
  split
  · exact h
  · simp

set_option maxRecDepth 100000 in
set_option maxHeartbeats 4000000 in
theorem free_impl (A : Option Addr) (n c : Nat) (zs : List Int) (w : World) (h : Ints w w.heap.size A n zs) (hn : n ≤ 1048576) :
    Calls Try.prog 15 #[.slice A n c] w (ResLM w (Wd.ifW zs (Wd.rd zs))) := by
  have H := Lib.hid h
  clear h
  rcases hw : Wd.isW 24 zs with _ | _
  · rw [Wd.ifW_no hw]
    have W := Lib.hid hw
    clear hw
    go_enter Try.func15, Try.ntmps15
    go_wp2_with fail
    refine (isWord_impl A n c zs _ _ H.out hn).mono ?_
    rintro e w' ⟨rfl, rfl⟩
    rw [W.out]
    go_wp2
    go_ret
    exact ResLM.nil _ _ (Below.refl _ _)
  · rw [Wd.ifW_yes hw]
    have W := Lib.hid hw
    clear hw
    go_enter Try.func15, Try.ntmps15
    go_wp2_with fail
    refine (isWord_impl A n c zs _ _ H.out hn).mono ?_
    rintro e w' ⟨rfl, rfl⟩
    rw [W.out]
    go_wp2_with fail
    refine (reduced_impl A n c zs _ H.out hn (Wd.isW_sm W.out (by omega))).mono ?_
    rintro e w1 ⟨R, t, rfl, hc, hm, hb⟩
    have C := Lib.hid hc
    have M := Lib.hid hm
    have D := Lib.hid hb
    clear hc hm hb
    go_wp2
    go_ret
    exact ⟨R, t, rfl, C.out, M.out, D.out⟩

set_option maxRecDepth 100000 in
set_option maxHeartbeats 4000000 in
theorem free_spec (A : Option Addr) (n c : Nat) (zs : List Int) (w : World) (h : Ints w w.heap.size A n zs) (hn : n ≤ 1048576) :
    Calls Try.prog 27 #[.slice A n c] w (ResLM w (Wd.ifW zs (Wd.rd zs))) := by
  have H := Lib.hid h
  clear h
  rcases hw : Wd.isW 24 zs with _ | _
  · rw [Wd.ifW_no hw]
    have W := Lib.hid hw
    clear hw
    go_enter Try.func27, Try.ntmps27
    go_wp2_with fail
    refine (isWord_spec A n c zs _ _ H.out hn).mono ?_
    rintro e w' ⟨rfl, rfl⟩
    rw [W.out]
    go_wp2
    go_ret
    exact ResLM.nil _ _ (al1 _ _)
  · rw [Wd.ifW_yes hw]
    have W := Lib.hid hw
    clear hw
    go_enter Try.func27, Try.ntmps27
    go_wp2_with fail
    refine (isWord_spec A n c zs _ _ H.out hn).mono ?_
    rintro e w' ⟨rfl, rfl⟩
    rw [W.out]
    go_wp2_with fail
    refine (reduced_spec A n c zs _ H.out hn (Wd.isW_sm W.out (by omega))).mono ?_
    rintro e w1 ⟨R, t, rfl, hc, hm, hb⟩
    have C := Lib.hid hc
    have M := Lib.hid hm
    have D := Lib.hid hb
    clear hc hm hb
    go_wp2
    go_ret
    exact ⟨R, t, rfl, C.out, M.out, D.out⟩

set_option maxRecDepth 100000 in
set_option maxHeartbeats 4000000 in
theorem invert_impl (A : Option Addr) (n c : Nat) (zs : List Int) (w : World) (h : Ints w w.heap.size A n zs) (hn : n ≤ 1048576) :
    Calls Try.prog 17 #[.slice A n c] w (ResLM w (Wd.ifW zs (Wd.inv zs))) := by
  have H := Lib.hid h
  clear h
  rcases hw : Wd.isW 24 zs with _ | _
  · rw [Wd.ifW_no hw]
    have W := Lib.hid hw
    clear hw
    go_enter Try.func17, Try.ntmps17
    go_wp2_with fail
    refine (isWord_impl A n c zs _ _ H.out hn).mono ?_
    rintro e w' ⟨rfl, rfl⟩
    rw [W.out]
    go_wp2
    go_ret
    exact ResLM.nil _ _ (Below.refl _ _)
  · rw [Wd.ifW_yes hw]
    have W := Lib.hid hw
    clear hw
    go_enter Try.func17, Try.ntmps17
    go_wp2_with fail
    refine (isWord_impl A n c zs _ _ H.out hn).mono ?_
    rintro e w' ⟨rfl, rfl⟩
    rw [W.out]
    go_wp2_with fail
    refine (inverse_impl A n c zs _ H.out hn (Wd.isW_sm W.out (by omega))).mono ?_
    rintro e w1 ⟨R, t, rfl, hc, hm, hb⟩
    have C := Lib.hid hc
    have M := Lib.hid hm
    have D := Lib.hid hb
    clear hc hm hb
    go_wp2
    go_ret
    exact ⟨R, t, rfl, C.out, M.out, D.out⟩

set_option maxRecDepth 100000 in
set_option maxHeartbeats 4000000 in
theorem invert_spec (A : Option Addr) (n c : Nat) (zs : List Int) (w : World) (h : Ints w w.heap.size A n zs) (hn : n ≤ 1048576) :
    Calls Try.prog 30 #[.slice A n c] w (ResLM w (Wd.ifW zs (Wd.inv zs))) := by
  have H := Lib.hid h
  clear h
  rcases hw : Wd.isW 24 zs with _ | _
  · rw [Wd.ifW_no hw]
    have W := Lib.hid hw
    clear hw
    go_enter Try.func30, Try.ntmps30
    go_wp2_with fail
    refine (isWord_spec A n c zs _ _ H.out hn).mono ?_
    rintro e w' ⟨rfl, rfl⟩
    rw [W.out]
    go_wp2
    go_ret
    exact ResLM.nil _ _ (al1 _ _)
  · rw [Wd.ifW_yes hw]
    have W := Lib.hid hw
    clear hw
    go_enter Try.func30, Try.ntmps30
    go_wp2_with fail
    refine (isWord_spec A n c zs _ _ H.out hn).mono ?_
    rintro e w' ⟨rfl, rfl⟩
    rw [W.out]
    go_wp2_with fail
    refine (inverse_spec A n c zs _ H.out hn (Wd.isW_sm W.out (by omega))).mono ?_
    rintro e w1 ⟨R, t, rfl, hc, hm, hb⟩
    have C := Lib.hid hc
    have M := Lib.hid hm
    have D := Lib.hid hb
    clear hc hm hb
    go_wp2
    go_ret
    exact ⟨R, t, rfl, C.out, M.out, D.out⟩

/-- How long a slice is. -/
def lenOf (v : Value) : Int := match v with | .slice _ n _ => (n : Int) | _ => 0
/-- A list from which ends are taken off: a part of memory of the call's own. -/
def CyS (w : World) (zs : List Int) (out : Value) (W : World) : Prop :=
  ∃ (A : Option Addr) (l : List Int) (c : Nat), out = .slice A l.length c ∧ l.length ≤ c ∧ c ≤ maxLen ∧ l.length ≤ 120 ∧ Wd.Sm l ∧ Mine W w.heap.size W.heap.size A l.length l ∧ Wd.cyc l = Wd.cyc (Wd.rd zs) ∧ Below w.heap.size w W
theorem Wd.mid_cut (l : List Int) (h : 1 < l.length) : l.tail.dropLast = Lau.cut l 1 (l.length - 1) := by
  have e : 1 + (l.length - 1 - 1) = l.length - 1 := by omega
  rw [Lau.cut, List.dropLast_eq_take, List.length_tail, ← List.drop_one, List.take_drop, e]
theorem Wd.cut_sm {l : List Int} (h : Sm l) (i j : Nat) : Sm (Lau.cut l i j) := fun x hx => h x (List.mem_of_mem_take (List.mem_of_mem_drop hx))

set_option maxRecDepth 100000 in
set_option maxHeartbeats 8000000 in
theorem cyclic_impl (A : Option Addr) (n c : Nat) (zs : List Int) (w : World) (h : Ints w w.heap.size A n zs) (hn : n ≤ 1048576) :
    Calls Try.prog 19 #[.slice A n c] w (ResLM w (Wd.ifW zs (Wd.cyc (Wd.rd zs)))) := by
  have H := Lib.hid h
  clear h
  rcases hw : Wd.isW 24 zs with _ | _
  · rw [Wd.ifW_no hw]
    have W := Lib.hid hw
    clear hw
    go_enter Try.func19, Try.ntmps19
    go_wp2_with fail
    refine (isWord_impl A n c zs _ _ H.out hn).mono ?_
    rintro e w' ⟨rfl, rfl⟩
    rw [W.out]
    go_wp2
    go_ret
    exact ResLM.nil _ _ (Below.refl _ _)
  · rw [Wd.ifW_yes hw]
    have W := Lib.hid hw
    clear hw
    go_enter Try.func19, Try.ntmps19
    go_wp2_with fail
    refine (isWord_impl A n c zs _ _ H.out hn).mono ?_
    rintro e w' ⟨rfl, rfl⟩
    rw [W.out]
    go_wp2_with fail
    refine (reduced_impl A n c zs _ H.out hn (Wd.isW_sm W.out (by omega))).mono ?_
    rintro e w1 ⟨R, t, rfl, hc, hm, hb⟩
    have hq := Wd.rd_len zs
    have h120 := (Wd.isW_fit W.out).1
    have ST := Lib.hid (show CyS w zs (.slice R (Wd.rd zs).length t) w1 from ⟨R, _, t, rfl, hc.1, hc.2, by omega, (Wd.isW_sm W.out (by omega)).rd, hm, rfl, hb⟩)
    clear hc hm hb hq h120
    go_wp2
    go_loopw [3, 4] (fun out nn V => CyS w zs out V ∧ nn = .int .i64 (lenOf out)) (fun _ nn _ => (intOf nn).toNat)
    case atStart => exact ⟨ST.out, rfl⟩
    case round =>
      obtain ⟨⟨A2, l, c2, rfl, c1, cm, l120, hsm, hmi, hcy, hb⟩, rfl⟩ := hrel
      have CY := Lib.hid hcy
      have M := Lib.hid hmi
      have D := Lib.hid hb
      have S := Lib.hid hsm
      unfold maxLen at cm
      clear hcy hmi hb hsm ST
      simp only [lenOf]
      by_cases h1 : 1 < l.length
      · obtain ⟨b, off, x, rfl, hb1, hb2, hx, hcx, _⟩ := M.out.at_ (k := 0) (by omega)
        obtain ⟨b', off', y, e', _, _, hy, hcy', _⟩ := M.out.at_ (k := l.length - 1) (by omega)
        cases e'
        have hyb := S.out.at_ (k := l.length - 1) (by omega)
        rw [hy] at hyb
        obtain ⟨y1, y2⟩ := hyb
        rw [Nat.add_zero] at hcx
        have X := Lib.hid hx
        have Y := Lib.hid hy
        have t0 : decide ((1 : Int) < (l.length : Int)) = true := by simp; omega
        have t0' : decide (1 < l.length) = true := by simp; omega
        have t1 : 0 < l.length := by omega
        have i1 : (0 : Int) ≤ (l.length : Int) - 1 := by omega
        have i2 : (1 : Int) ≤ (l.length : Int) := by omega
        have i3 : ((l.length : Int) - 1).toNat = l.length - 1 := by omega
        have i4 : IntKind.i64.wrap ((l.length : Int) - 1) = (l.length : Int) - 1 := IntWalk.i64_in _ (by omega)
        have i5 : (l.length : Int) - 1 < (l.length : Int) := by omega
        have NZ : IntKind.i64.wrap (-y) = -y := IntWalk.i64_in _ (by omega)
        clear hx hy
        by_cases he : x = -y
        · have te : (x == -y) = true := by simpa using he
          have NEXT := Lib.hid (Wd.cyc_yes (l := l) ⟨h1, by rw [X.out, Y.out, he]⟩)
          rw [Wd.mid_cut l h1] at NEXT
          have PART := Lib.hid (M.out.part (i := 1) (j := l.length - 1) (by omega) (by omega))
          have CL := Lib.hid (Lau.cut_len (l := l) (a := 1) (b := l.length - 1) (by omega))
          clear he
          go_wp2
          go_quiet (fail)
          all_goals
            go_wp2
            go_roundw
            case rel => exact ⟨⟨_, Lau.cut l 1 (l.length - 1), _, by rw [CL.out], by rw [CL.out]; omega, by unfold maxLen; omega, by rw [CL.out]; omega, Wd.cut_sm S.out _ _, by rw [CL.out]; exact PART.out, by rw [← NEXT.out]; exact CY.out, D.out.trans (Go.Joins.below_draws _ _ _)⟩, by simp; omega⟩
            case measure => simp [intOf]; omega
        · have te : (x == -y) = false := by simpa using he
          have NEXT := Lib.hid (Wd.cyc_no (l := l) (by rw [X.out, Y.out]; exact fun h => he h.2))
          clear he
          go_wp2
          go_quiet (fail)
          all_goals
            go_wp2
            go_ret
            rw [← CY.out, NEXT.out]
            exact ⟨_, c2, rfl, ⟨c1, by unfold maxLen; omega⟩, M.out, D.out.trans (Go.Joins.below_draws _ _ _)⟩
      · have NEXT := Lib.hid (Wd.cyc_no (l := l) (fun h => h1 h.1))
        have t0 : decide ((1 : Int) < (l.length : Int)) = false := by simp; omega
        have t0' : decide (1 < l.length) = false := by simp; omega
        go_wp2
        go_quiet (fail)
        all_goals
          go_wp2
          go_ret
          rw [← CY.out, NEXT.out]
          exact ⟨_, c2, rfl, ⟨c1, by unfold maxLen; omega⟩, M.out, D.out.trans (Go.Joins.below_draws _ _ _)⟩

theorem al1d (w : World) (n : Nat) (o : Obj) : Below w.heap.size w ((w.drewN n).alloc o) := (Go.Joins.below_draws w.heap.size w n).trans (al1 (w.drewN n) o)
/-- A list that has been appended to an empty one. -/
theorem ResLM.push {w W : World} {lo c : Nat} {A : Option Addr} {l : List Int} (hb : Below w.heap.size w W) (h : Own W lo W.heap.size A (0 + l.length) c ([] ++ l)) (hlo : w.heap.size ≤ lo) : ResLM w l (.returned (.slice A l.length c)) W := by
  rw [Nat.zero_add, List.nil_append] at h
  exact ⟨A, c, rfl, Wd.own_caps h, h.mine.wide hlo (Nat.le_refl _), hb⟩

set_option maxRecDepth 100000 in
set_option maxHeartbeats 8000000 in
theorem cyclic_spec (A : Option Addr) (n c : Nat) (zs : List Int) (w : World) (h : Ints w w.heap.size A n zs) (hn : n ≤ 1048576) :
    Calls Try.prog 31 #[.slice A n c] w (ResLM w (Wd.ifW zs (Wd.cyc (Wd.rd zs)))) := by
  have H := Lib.hid h
  clear h
  rcases hw : Wd.isW 24 zs with _ | _
  · rw [Wd.ifW_no hw]
    have W := Lib.hid hw
    clear hw
    go_enter Try.func31, Try.ntmps31
    go_wp2_with fail
    refine (isWord_spec A n c zs _ _ H.out hn).mono ?_
    rintro e w' ⟨rfl, rfl⟩
    rw [W.out]
    go_wp2
    go_ret
    exact ResLM.nil _ _ (al1 _ _)
  · rw [Wd.ifW_yes hw]
    have W := Lib.hid hw
    clear hw
    go_enter Try.func31, Try.ntmps31
    go_wp2_with fail
    refine (isWord_spec A n c zs _ _ H.out hn).mono ?_
    rintro e w' ⟨rfl, rfl⟩
    rw [W.out]
    go_wp2_with fail
    refine (reduced_spec A n c zs _ H.out hn (Wd.isW_sm W.out (by omega))).mono ?_
    rintro e w1 ⟨R, t, rfl, hc, hm, hb⟩
    have hq := Wd.rd_len zs
    have h120 := (Wd.isW_fit W.out).1
    have ST := Lib.hid (show CyS w zs (.slice R (Wd.rd zs).length t) w1 from ⟨R, _, t, rfl, hc.1, hc.2, by omega, (Wd.isW_sm W.out (by omega)).rd, hm, rfl, hb⟩)
    clear hc hm hb hq h120
    go_wp2
    go_loopw [3] (fun out V => CyS w zs out V) (fun out _ => (lenOf out).toNat)
    case atStart => exact ST.out
    case round =>
      obtain ⟨A2, l, c2, rfl, c1, cm, l120, hsm, hmi, hcy, hb⟩ := hrel
      have CY := Lib.hid hcy
      have M := Lib.hid hmi
      have D := Lib.hid hb
      have S := Lib.hid hsm
      unfold maxLen at cm
      clear hcy hmi hb hsm ST
      have hws : w.heap.size ≤ wr.heap.size := D.out.size
      by_cases h1 : 1 < l.length
      · obtain ⟨b, off, x, rfl, hb1, hb2, hx, hcx, _⟩ := M.out.at_ (k := 0) (by omega)
        obtain ⟨b', off', y, e', _, _, hy, hcy', _⟩ := M.out.at_ (k := l.length - 1) (by omega)
        cases e'
        have hyb := S.out.at_ (k := l.length - 1) (by omega)
        rw [hy] at hyb
        obtain ⟨y1, y2⟩ := hyb
        rw [Nat.add_zero] at hcx
        have X := Lib.hid hx
        have Y := Lib.hid hy
        have t0 : decide ((1 : Int) < (l.length : Int)) = true := by simp; omega
        have t0' : decide (1 < l.length) = true := by simp; omega
        have t1 : 0 < l.length := by omega
        have i1 : (0 : Int) ≤ (l.length : Int) - 1 := by omega
        have i2 : (1 : Int) ≤ (l.length : Int) := by omega
        have i3 : ((l.length : Int) - 1).toNat = l.length - 1 := by omega
        have i4 : IntKind.i64.wrap ((l.length : Int) - 1) = (l.length : Int) - 1 := IntWalk.i64_in _ (by omega)
        have i5 : (l.length : Int) - 1 < (l.length : Int) := by omega
        have NZ : IntKind.i64.wrap (-y) = -y := IntWalk.i64_in _ (by omega)
        clear hx hy
        by_cases he : x = -y
        · have te : (x == -y) = true := by simpa using he
          have NEXT := Lib.hid (Wd.cyc_yes (l := l) ⟨h1, by rw [X.out, Y.out, he]⟩)
          rw [Wd.mid_cut l h1] at NEXT
          have PART := Lib.hid (M.out.part (i := 1) (j := l.length - 1) (by omega) (by omega))
          have CL := Lib.hid (Lau.cut_len (l := l) (a := 1) (b := l.length - 1) (by omega))
          clear he
          go_wp2
          go_quiet (fail)
          all_goals
            go_wp2
            go_roundw
            case rel => exact ⟨_, Lau.cut l 1 (l.length - 1), _, by rw [CL.out], by rw [CL.out]; omega, by unfold maxLen; omega, by rw [CL.out]; omega, Wd.cut_sm S.out _ _, by rw [CL.out]; exact PART.out, by rw [← NEXT.out]; exact CY.out, D.out.trans (Go.Joins.below_draws _ _ _)⟩
            case measure => simp [lenOf]; omega
        · have te : (x == -y) = false := by simpa using he
          have NEXT := Lib.hid (Wd.cyc_no (l := l) (by rw [X.out, Y.out]; exact fun h => he h.2))
          clear he
          go_wp2
          go_quiet (fail)
          all_goals
            go_wp2_with (at_builtin; refine Wd.push_any rfl _ _ rfl wr.heap.size (wr.heap.size + 1) 0 wr.heap.size 0 l.length c2 (some ⟨wr.heap.size, 0, none⟩) (some ⟨b, off, none⟩) [] l rfl (by exact Wd.own_nil _) rfl (by exact M.out.ints.below (al1d _ _ _)) (by simp) (by simp) (by omega) ?_; intro A7 c7 w7 h5 h6; have O7 := Lib.hid h5; have D7 := Lib.hid ((D.out.trans ((al1d _ _ _).mono D.out.size)).trans (h6.below (by omega) (by simp; omega))); clear h5 h6)
            go_ret
            rw [← CY.out, NEXT.out]
            exact ResLM.push D7.out O7.out hws
      · have NEXT := Lib.hid (Wd.cyc_no (l := l) (fun h => h1 h.1))
        have t0 : decide ((1 : Int) < (l.length : Int)) = false := by simp; omega
        have t0' : decide (1 < l.length) = false := by simp; omega
        go_wp2
        go_quiet (fail)
        all_goals
          go_wp2_with (at_builtin; go_loud (refine Wd.push_any rfl _ _ rfl wr.heap.size (wr.heap.size + 1) 0 wr.heap.size 0 l.length c2 (some ⟨wr.heap.size, 0, none⟩) A2 [] l rfl (by exact Wd.own_nil _) rfl (by exact M.out.ints.below (al1d _ _ _)) (by simp) (by simp) (by omega) ?_; intro A7 c7 w7 h5 h6; have O7 := Lib.hid h5; have D7 := Lib.hid ((D.out.trans ((al1d _ _ _).mono D.out.size)).trans (h6.below (by omega) (by simp; omega))); clear h5 h6))
          go_ret
          rw [← CY.out, NEXT.out]
          exact ResLM.push D7.out O7.out hws

end Go.Proofs.Ytpojkahlllochaa
