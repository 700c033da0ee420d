/- Contracts of the two functions that say whether a group is valid. No condition but those that each theorem names. -/
import Derived.Test.YtgmkcmdnbfolhaaGrpA
import Derived.Deep.RegionHeld3
namespace Go.Proofs.Ytgmkcmdnbfolhaa
open Go.RowKit

/-- Each of the first k numbers but the first is divided by the one before it; 0 divides 0 alone. -/
def Chain (ts : List Int) (k : Nat) : Prop := ∀ i, 0 < i → i < k → (ts.getD (i - 1) 0 = 0 → ts.getD i 0 = 0) ∧ (ts.getD (i - 1) 0 ≠ 0 → (ts.getD i 0).tmod (ts.getD (i - 1) 0) = 0)
def InTor (ts : List Int) (k : Nat) : Prop := ∀ i, i < k → 2 ≤ ts.getD i 0 ∧ ts.getD i 0 ≤ 1000000000000
def AOk (r : Int) (ts : List Int) : Prop := 0 ≤ r ∧ r ≤ 48 ∧ ts.length ≤ 48 ∧ InTor ts ts.length ∧ Chain ts ts.length
theorem Chain.succ {ts : List Int} {k : Nat} (h : Chain ts k) (hk : 0 < k → (ts.getD (k - 1) 0 = 0 → ts.getD k 0 = 0) ∧ (ts.getD (k - 1) 0 ≠ 0 → (ts.getD k 0).tmod (ts.getD (k - 1) 0) = 0)) : Chain ts (k + 1) := fun i h0 h1 => by
  by_cases e : i = k
  · subst e; exact hk h0
  · exact h i h0 (by omega)
theorem InTor.succ {ts : List Int} {k : Nat} (h : InTor ts k) (hk : 2 ≤ ts.getD k 0 ∧ ts.getD k 0 ≤ 1000000000000) : InTor ts (k + 1) := fun i hi => by
  by_cases e : i = k
  · subst e; exact hk
  · exact h i (by omega)
theorem tmod_facts {x y : Int} (hx : -1000000000000 ≤ x ∧ x ≤ 1000000000000) (_hy : y ≠ 0) : wrap64 (x.tmod y) = x.tmod y ∧ IntKind.i64.wrap (x.tmod y) = x.tmod y := by
  have h1 := Int.mul_tdiv_add_tmod x y
  have h2 : (x.tmod y).natAbs ≤ x.natAbs := by rw [Int.natAbs_tmod]; exact Nat.mod_le _ _
  have h3 : -1000000000000 ≤ x.tmod y ∧ x.tmod y ≤ 1000000000000 := by omega
  exact ⟨IntWalk.wrap64_in _ ⟨by omega, by omega⟩, IntWalk.i64_in _ (by omega)⟩

set_option maxHeartbeats 2000000 in
theorem chain_impl (A : Option Addr) (n c : Nat) (ts : List Int) (w : World) (h : Ints w w.heap.size A n ts) (hn : n ≤ 1048576) (hb : ∀ i, i < n → -1000000000000 ≤ ts.getD i 0 ∧ ts.getD i 0 ≤ 1000000000000) :
    Calls Try.prog 58 #[.slice A n c] w (SaysB (Chain ts n) w.heap.size w) := by
  have H := Lib.hid h
  have HBD := Lib.hid hb
  clear h hb
  go_enter Try.func58, Try.ntmps58
  go_wp2
  go_loopw [3] (fun x wr => ∃ k m : Nat, 0 < k ∧ (k ≤ n ∨ k = 1) ∧ x = .int .i64 k ∧ Chain ts k ∧ wr = w.drewN m) (fun x _ => n - (intOf x).toNat)
  case atStart => exact ⟨1, 0, by omega, .inr rfl, rfl, fun i h0 h1 => by omega, rfl⟩
  case round =>
    obtain ⟨k, m, hk0, hk, rfl, hch, rfl⟩ := hrel
    have HC := Lib.hid hch
    clear hch
    by_cases hlt : k < n
    · obtain ⟨b, off, y, rfl, hbl, hy, hcy⟩ := H.out.at_z hlt
      obtain ⟨b', off', x, e', _, hx, hcx⟩ := H.out.at_z (show k - 1 < n by omega)
      cases e'
      have hcx' : w.cell? ⟨b, off + ((k : Int) - 1).toNat, none⟩ = some (.int .i64 x) := by rw [show ((k : Int) - 1).toNat = k - 1 by omega]; exact hcx
      have hby := HBD.out k hlt
      rw [hy] at hby
      have i0 : (0 : Int) ≤ (k : Int) - 1 := by omega
      have ws : IntKind.i64.wrap ((k : Int) - 1) = (k : Int) - 1 := IntWalk.i64_in _ (by omega)
      have j0 : (1 : Int) ≤ (k : Int) := by omega
      have j1 : (k : Int) ≤ (n : Int) := by omega
      have j2 : 0 < k := by omega
      have j3 : k ≤ n := by omega
      have j4 : 1 ≤ k := by omega
      have i1 : (k : Int) - 1 < (n : Int) := by omega
      have i2 : (0 : Int) ≤ (k : Int) := by omega
      have i3 : (k : Int) < (n : Int) := by omega
      have HX := Lib.hid hx
      have HY := Lib.hid hy
      clear hx hy hk0 hk
      by_cases hx0 : x = 0
      · have t1 : (x == 0) = true := by simpa using hx0
        have t1' : (x != 0) = false := by simpa using hx0
        have HX0 := Lib.hid hx0
        by_cases hy0 : y = 0
        · have t2 : (y != 0) = false := by simpa using hy0
          have HY0 := Lib.hid hy0
          clear hx0 hy0 hby
          go_wp2
          go_quiet (fail)
          all_goals
            go_wp2
            go_roundw
            case rel => exact ⟨k + 1, _, by omega, by omega, by go_num, HC.out.succ (fun _ => ⟨fun _ => HY.out.trans HY0.out, fun hne => absurd (HX.out.trans HX0.out) hne⟩), rfl⟩
            case measure => simp [intOf]; omega
        · have t2 : (y != 0) = true := by simpa using hy0
          have HY0 := Lib.hid hy0
          clear hx0 hy0 hby
          go_wp2
          go_quiet (fail)
          all_goals
            go_wp2
            go_ret
            exact ⟨_, rfl, ⟨fun h => (by simp at h), fun h => absurd ((h k (by omega) hlt).1 (HX.out.trans HX0.out)) (by rw [HY.out]; exact HY0.out)⟩, Go.Joins.below_draws _ _ _⟩
      · have t1 : (x == 0) = false := by simpa using hx0
        have t1' : (x != 0) = true := by simpa using hx0
        obtain ⟨w3, w4⟩ := tmod_facts hby hx0
        have HX0 := Lib.hid hx0
        obtain ⟨r, hr⟩ : ∃ r, y.tmod x = r := ⟨_, rfl⟩
        rw [hr] at w3 w4
        have HR := Lib.hid hr
        by_cases hr0 : r = 0
        · have t3 : (y.tmod x != 0) = false := by rw [hr]; simpa using hr0
          have w3' : wrap64 (y.tmod x) = y.tmod x := by rw [hr]; exact w3
          have w4' : IntKind.i64.wrap (y.tmod x) = y.tmod x := by rw [hr]; exact w4
          have HR0 := Lib.hid hr0
          clear hr hr0 w3 w4 hby
          go_wp2
          go_quiet (fail)
          all_goals
            go_wp2
            go_roundw
            case rel => exact ⟨k + 1, _, by omega, by omega, by go_num, HC.out.succ (fun _ => ⟨fun he => absurd (HX.out.symm.trans he) HX0.out, fun _ => by rw [HX.out, HY.out, HR.out]; exact HR0.out⟩), rfl⟩
            case measure => simp [intOf]; omega
        · have t3 : (y.tmod x != 0) = true := by rw [hr]; simpa using hr0
          have w3' : wrap64 (y.tmod x) = y.tmod x := by rw [hr]; exact w3
          have w4' : IntKind.i64.wrap (y.tmod x) = y.tmod x := by rw [hr]; exact w4
          have HR0 := Lib.hid hr0
          clear hr hr0 w3 w4 hby
          go_wp2
          go_quiet (fail)
          all_goals
            go_wp2
            go_ret
            exact ⟨_, rfl, ⟨fun h => (by simp at h), fun h => absurd ((h k (by omega) hlt).2 (by rw [HX.out]; exact HX0.out)) (by rw [HX.out, HY.out, HR.out]; exact HR0.out)⟩, Go.Joins.below_draws _ _ _⟩
    · have i3 : ¬ (k : Int) < (n : Int) := by omega
      go_wp2
      go_ret
      exact ⟨_, rfl, ⟨fun _ i h0 h1 => HC.out i h0 (by omega), fun _ => rfl⟩, Go.Joins.below_draws _ _ _⟩

set_option maxHeartbeats 2000000 in
theorem isA_impl (r : Int) (A : Option Addr) (n c : Nat) (ts : List Int) (w : World) (h : Ints w w.heap.size A n ts) (hn : n ≤ 1048576) :
    Calls Try.prog 31 #[.agg #[.int .i64 r, .slice A n c]] w (SaysB (AOk r ts) w.heap.size w) := by
  have hl := h.1
  have H := Lib.hid ((h.into (al1 w (Obj.cells #[.int .i64 r, .slice A n c] 26))))
  have HL := Lib.hid hl
  clear h hl
  by_cases r0 : 0 ≤ r
  case neg =>
    go_enter Try.func31, Try.ntmps31
    go_wp2
    go_ret
    exact ⟨_, rfl, ⟨fun h => (by simp at h), fun h => (by have := h.1; omega)⟩, al1 _ _⟩
  by_cases r1 : r ≤ 48
  case neg =>
    go_enter Try.func31, Try.ntmps31
    go_wp2
    go_ret
    exact ⟨_, rfl, ⟨fun h => (by simp at h), fun h => (by have := h.2.1; omega)⟩, al1 _ _⟩
  by_cases n1 : n ≤ 48
  case neg =>
    have n2 : (48 : Int) < (n : Int) := by omega
    go_enter Try.func31, Try.ntmps31
    go_wp2
    go_ret
    exact ⟨_, rfl, ⟨fun h => (by simp at h), fun h => (by have := h.2.2.1; have := HL.out; omega)⟩, al1 _ _⟩
  have n2 : ¬ (48 : Int) < (n : Int) := by omega
  go_enter Try.func31, Try.ntmps31
  go_wp2
  go_loop [18, 4] (fun i _ => ∃ k : Nat, k ≤ n ∧ i = .int .i64 k ∧ InTor ts k) (fun i _ => n - (intOf i).toNat)
  case atStart => exact ⟨0, Nat.zero_le _, rfl, fun i hi => by omega⟩
  case round =>
    obtain ⟨k, hk, rfl, hin⟩ := hrel
    by_cases hlt : k < n
    · obtain ⟨b, off, z, rfl, hb, hz, hc⟩ := H.out.at_z hlt
      have HI := Lib.hid hin
      have HZ := Lib.hid hz
      clear hin hz
      by_cases b0 : z < 2
      · go_wp2
        go_ret
        exact ⟨_, rfl, ⟨fun h => (by simp at h), fun h => (by have := h.2.2.2.1 k (by have := HL.out; omega); rw [HZ.out] at this; omega)⟩, al1 _ _⟩
      by_cases b1 : 1000000000000 < z
      · go_wp2
        go_ret
        exact ⟨_, rfl, ⟨fun h => (by simp at h), fun h => (by have := h.2.2.2.1 k (by have := HL.out; omega); rw [HZ.out] at this; omega)⟩, al1 _ _⟩
      · go_wp2
        go_round
        case rel => exact ⟨k + 1, by omega, by go_num, HI.out.succ (by rw [HZ.out]; omega)⟩
        case measure => simp [intOf]; omega
    · obtain rfl : k = n := by omega
      have HI := Lib.hid hin
      clear hin
      go_wp2_with fail
      refine (chain_impl A k c ts _ H.out hn (fun i hi => by have := HI.out i hi; omega)).mono ?_
      rintro e w1 ⟨f, rfl, hf, hb⟩
      have HF := Lib.hid hf
      have HB := Lib.hid hb
      clear hf hb
      go_wp2
      go_ret
      exact ⟨f, rfl, ⟨fun h => ⟨r0, r1, by have := HL.out; omega, by rw [HL.out]; exact HI.out, by rw [HL.out]; exact HF.out.1 h⟩, fun h => HF.out.2 (by have := h.2.2.2.2; rw [HL.out] at this; exact this)⟩, on1 _ HB.out⟩

set_option maxHeartbeats 4000000 in
theorem isA_spec (r : Int) (A : Option Addr) (n c : Nat) (ts : List Int) (w : World) (h : Ints w w.heap.size A n ts) (hn : n ≤ 1048576) :
    Calls Try.prog 26 #[.agg #[.int .i64 r, .slice A n c]] w (SaysB (AOk r ts) w.heap.size w) := by
  have hl := h.1
  have H := Lib.hid ((h.into (al1 w (Obj.cells #[.int .i64 r, .slice A n c] 26))))
  have HL := Lib.hid hl
  have X0 := Lib.hid (BoxG.new w 26 (.int .i64 r) (.slice A n c))
  have D0 := Lib.hid (al1 w (Obj.cells #[.int .i64 r, .slice A n c] 26))
  clear h hl
  go_enter Try.func26, Try.ntmps26
  go_wp2
  obtain ⟨W0, hW0⟩ : ∃ W0, W0 = w.alloc (Obj.cells #[.int .i64 r, .slice A n c] 26) := ⟨_, rfl⟩
  have s0 : w.heap.size < W0.heap.size := by rw [hW0]; simp
  rw [← hW0] at X0 D0 H
  rw [← hW0]
  clear hW0
  go_loopw [3] (fun x wr => ∃ k : Nat, k ≤ n ∧ x = .int .i64 k ∧ InTor ts k ∧ Chain ts k ∧ Below W0.heap.size W0 wr) (fun x _ => n - (intOf x).toNat)
  case atStart => exact ⟨0, Nat.zero_le _, rfl, fun i hi => by omega, fun i _ hi => by omega, Below.refl _ _⟩
  case round =>
    obtain ⟨k, hk, rfl, hin, hch, hbel⟩ := hrel
    have HI := Lib.hid hin
    have HC := Lib.hid hch
    have HBL := Lib.hid hbel
    have HR2 := Lib.hid (H.out.below hbel)
    obtain ⟨g0, g1⟩ := X0.out.below hbel s0
    clear hin hch hbel
    by_cases hlt : k < n
    · obtain ⟨b, off, y, rfl, hbl, hy, hcy⟩ := HR2.out.at_z hlt
      have i2 : (0 : Int) ≤ (k : Int) := by omega
      have i3 : (k : Int) < (n : Int) := by omega
      have HY := Lib.hid hy
      clear hy
      by_cases hr : 2 ≤ y ∧ y ≤ 1000000000000
      case neg =>
        have HR := Lib.hid hr
        clear hr
        go_wp2
        go_quiet ((go_at_call 54; exact Calls.quiet_of_same ((in_no _ _ _ _ HR.out).mono fun _ _ h => ⟨h.1, h.2.symm⟩)))
        all_goals
          go_wp2
          go_ret
          exact ⟨_, rfl, ⟨fun h => (by simp at h), fun h => absurd (by have := h.2.2.2.1 k (by have := HL.out; omega); rw [HY.out] at this; exact this) HR.out⟩, D0.out.trans ((HBL.out.trans (Go.Joins.below_draws _ _ _)).mono (by omega))⟩
      have HR := Lib.hid hr
      by_cases hk0 : k = 0
      · subst hk0
        have hcy0 : wr.cell? ⟨b, off, none⟩ = some (.int .i64 y) := by simpa using hcy
        have n0 : 0 < n := hlt
        have n0' : (0 : Int) < (n : Int) := by omega
        have d0 : decide ((0 : Int) < ((0 : Nat) : Int)) = false := by decide
        clear hr
        go_wp2
        go_quiet ((go_at_call 54; exact Calls.quiet_of_same ((in_yes _ _ _ _ HR.out.1 HR.out.2).mono fun _ _ h => ⟨h.1, h.2.symm⟩)))
        all_goals
          go_wp2
          go_roundw
          case rel => exact ⟨1, by omega, by go_num, HI.out.succ (by rw [HY.out]; exact HR.out), HC.out.succ (fun h => by omega), HBL.out.trans (Go.Joins.below_draws _ _ _)⟩
          case measure => simp [intOf]; omega
      · obtain ⟨b', off', x, e', _, hx, hcx⟩ := HR2.out.at_z (show k - 1 < n by omega)
        cases e'
        have hcx' : wr.cell? ⟨b, off + ((k : Int) - 1).toNat, none⟩ = some (.int .i64 x) := by rw [show ((k : Int) - 1).toNat = k - 1 by omega]; exact hcx
        have hxr := HI.out (k - 1) (by omega)
        rw [hx] at hxr
        have hx0 : ¬ x = 0 := by omega
        have t1 : (x == 0) = false := by simpa using hx0
        have d0 : decide ((0 : Int) < (k : Int)) = true := by simp; omega
        have d1 : (0 : Int) < (k : Int) := by omega
        have i0 : (0 : Int) ≤ (k : Int) - 1 := by omega
        have ws : IntKind.i64.wrap ((k : Int) - 1) = (k : Int) - 1 := IntWalk.i64_in _ (by omega)
        have j0 : (1 : Int) ≤ (k : Int) := by omega
        have j1 : (k : Int) ≤ (n : Int) := by omega
        have j2 : 0 < k := by omega
        have j3 : k ≤ n := by omega
        have j4 : 1 ≤ k := by omega
        have i1 : (k : Int) - 1 < (n : Int) := by omega
        obtain ⟨w3, w4⟩ := tmod_facts (x := y) (y := x) (by omega) hx0
        have HX := Lib.hid hx
        obtain ⟨q, hq⟩ : ∃ q, y.tmod x = q := ⟨_, rfl⟩
        have HQ := Lib.hid hq
        by_cases hq0 : q = 0
        · have t3 : (y.tmod x != 0) = false := by rw [hq]; simpa using hq0
          have HQ0 := Lib.hid hq0
          have HX0 := Lib.hid hx0
          clear hq hq0 hxr hx hr hk0
          go_wp2
          go_quiet ((go_at_call 54; exact Calls.quiet_of_same ((in_yes _ _ _ _ HR.out.1 HR.out.2).mono fun _ _ h => ⟨h.1, h.2.symm⟩)))
          all_goals
            go_wp2
            go_roundw
            case rel => exact ⟨k + 1, by omega, by go_num, HI.out.succ (by rw [HY.out]; exact HR.out), HC.out.succ (fun _ => ⟨fun he => absurd (HX.out.symm.trans he) HX0.out, fun _ => by rw [HX.out, HY.out, HQ.out]; exact HQ0.out⟩), HBL.out.trans (Go.Joins.below_draws _ _ _)⟩
            case measure => simp [intOf]; omega
        · have t3 : (y.tmod x != 0) = true := by rw [hq]; simpa using hq0
          have HQ0 := Lib.hid hq0
          have HX0 := Lib.hid hx0
          clear hq hq0 hxr hx hr hk0
          go_wp2
          go_quiet ((go_at_call 54; exact Calls.quiet_of_same ((in_yes _ _ _ _ HR.out.1 HR.out.2).mono fun _ _ h => ⟨h.1, h.2.symm⟩)))
          all_goals
            go_wp2
            go_ret
            exact ⟨_, rfl, ⟨fun h => (by simp at h), fun h => absurd ((h.2.2.2.2 k (by omega) (by have := HL.out; omega)).2 (by rw [HX.out]; exact HX0.out)) (by rw [HX.out, HY.out, HQ.out]; exact HQ0.out)⟩, D0.out.trans ((HBL.out.trans (Go.Joins.below_draws _ _ _)).mono (by omega))⟩
    · obtain rfl : k = n := by omega
      have i3 : ¬ (k : Int) < (k : Int) := by omega
      by_cases hr : 0 ≤ r ∧ r ≤ 48
      case neg =>
        have HR := Lib.hid hr
        go_wp2_with (go_at_call 54; first | (refine (in_yes _ _ _ _ (by omega) (by omega)).mono ?_; rintro e w' ⟨rfl, rfl⟩) | (refine (in_no _ _ _ _ (by omega)).mono ?_; rintro e w' ⟨rfl, rfl⟩))
        go_ret
        exact ⟨_, rfl, ⟨fun h => (by simp at h), fun h => absurd ⟨h.1, h.2.1⟩ HR.out⟩, D0.out.trans (HBL.out.mono (by omega))⟩
      have HR := Lib.hid hr
      obtain ⟨hr0, hr1⟩ := hr
      by_cases n1 : k ≤ 48
      · have d1 : decide ((k : Int) ≤ 48) = true := by simp; omega
        go_wp2_with (go_at_call 54; first | (refine (in_yes _ _ _ _ (by omega) (by omega)).mono ?_; rintro e w' ⟨rfl, rfl⟩) | (refine (in_no _ _ _ _ (by omega)).mono ?_; rintro e w' ⟨rfl, rfl⟩))
        go_ret
        exact ⟨_, rfl, ⟨fun _ => ⟨HR.out.1, HR.out.2, by have := HL.out; omega, by rw [HL.out]; exact HI.out, by rw [HL.out]; exact HC.out⟩, fun _ => rfl⟩, D0.out.trans (HBL.out.mono (by omega))⟩
      · have d1 : decide ((k : Int) ≤ 48) = false := by simp; omega
        go_wp2_with (go_at_call 54; first | (refine (in_yes _ _ _ _ (by omega) (by omega)).mono ?_; rintro e w' ⟨rfl, rfl⟩) | (refine (in_no _ _ _ _ (by omega)).mono ?_; rintro e w' ⟨rfl, rfl⟩))
        go_ret
        exact ⟨_, rfl, ⟨fun h => (by simp at h), fun h => (by have := h.2.2.1; have := HL.out; omega)⟩, D0.out.trans (HBL.out.mono (by omega))⟩

end Go.Proofs.Ytgmkcmdnbfolhaa
