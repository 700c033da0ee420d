/- Both determinants, with their errors. No condition but those that each theorem names. -/
import Derived.Test.YtdbljeglnhefmaaMatU
namespace Go.Proofs.Ytdbljeglnhefmaa
open Go.RowKit

/-- What 'Determinant' answers. -/
def DetIs (r q : Int) (zs : List Int) (x d : Int) : Prop :=
  (¬ MOk r q zs → x = 0 ∧ d = 1) ∧ (MOk r q zs → r ≠ q → x = 0 ∧ d = 2) ∧ (MOk r q zs → r = q → ¬ VolOk r.toNat zs → x = 0 ∧ d = 3) ∧ (MOk r q zs → r = q → VolOk r.toNat zs → x = detv r.toNat zs ∧ d = 0)
theorem DetIs.same {r q : Int} {zs : List Int} {x y d e : Int} (h : DetIs r q zs x d) (h' : DetIs r q zs y e) : x = y ∧ d = e := by
  by_cases a : MOk r q zs
  · by_cases b : r = q
    · by_cases c : VolOk r.toNat zs
      · obtain ⟨h1, h2⟩ := h.2.2.2 a b c; obtain ⟨h3, h4⟩ := h'.2.2.2 a b c; exact ⟨h1.trans h3.symm, h2.trans h4.symm⟩
      · obtain ⟨h1, h2⟩ := h.2.2.1 a b c; obtain ⟨h3, h4⟩ := h'.2.2.1 a b c; exact ⟨h1.trans h3.symm, h2.trans h4.symm⟩
    · obtain ⟨h1, h2⟩ := h.2.1 a b; obtain ⟨h3, h4⟩ := h'.2.1 a b; exact ⟨h1.trans h3.symm, h2.trans h4.symm⟩
  · obtain ⟨h1, h2⟩ := h.1 a; obtain ⟨h3, h4⟩ := h'.1 a; exact ⟨h1.trans h3.symm, h2.trans h4.symm⟩
def SaysD (r q : Int) (zs : List Int) (w : World) (e : Ending) (w' : World) : Prop := ∃ x d, e = .returned (.tuple #[.int .i64 x, .int .i64 d]) ∧ DetIs r q zs x d ∧ Below w.heap.size w w'
theorem det_spec (N b off n c : Nat) (l0 : List Int) (w : World) (h : Ints w w.heap.size (some ⟨b, off, none⟩) n l0) (hn : n = N * N) (hN : N ≤ 48) :
    Calls Try.prog 65 #[.agg #[.int .i64 N, .int .i64 N, .slice (some ⟨b, off, none⟩) n c]] w fun e w' => e = .returned (.int .i64 (detv N l0)) ∧ Below w.heap.size w w' := by
  by_cases h0 : 0 < N
  · exact det_spec_pos N b off n c l0 w h hn hN h0
  · obtain rfl : N = 0 := by omega
    obtain rfl : n = 0 := by simpa using hn
    exact det_spec_zero b off c l0 w

set_option maxHeartbeats 2000000 in
theorem determinant_impl (r q : Int) (A : Option Addr) (n c : Nat) (zs : List Int) (w : World) (h : Ints w w.heap.size A n zs) (hn : n ≤ 1048576) :
    Calls Try.prog 30 #[.agg #[.int .i64 r, .int .i64 q, .slice A n c]] w (SaysD r q zs w) := by
  have H := Lib.hid h
  clear h
  have K0 := Lib.hid (Box3.new w 27 (.int .i64 r) (.int .i64 q) (.slice A n c))
  by_cases hP : MOk r q zs
  case neg =>
    have HP := Lib.hid hP
    clear hP
    go_enter Try.func30, Try.ntmps30
    go_wp2_with fail
    refine (isMi_no r q A n c zs _ (H.out.into (al1 _ _)) hn HP.out).mono ?_
    rintro e w1 ⟨rfl, hb⟩
    go_wp2
    go_ret2
    exact ⟨_, _, rfl, ⟨fun _ => ⟨rfl, rfl⟩, fun h => absurd h HP.out, fun h => absurd h HP.out, fun h => absurd h HP.out⟩, on1 _ hb⟩
  have HP := Lib.hid hP
  clear hP
  by_cases hrq : r = q
  case neg =>
    have HQ := Lib.hid hrq
    have t1 : (r == q) = false := by simpa using hrq
    have t2 : (r != q) = true := by simpa using hrq
    clear hrq
    go_enter Try.func30, Try.ntmps30
    go_wp2_with fail
    refine (isMi_yes r q A n c zs _ (H.out.into (al1 _ _)) hn HP.out).mono ?_
    rintro e w1 ⟨rfl, hb⟩
    have K1 := Lib.hid (K0.out.below hb (by simp))
    have HB1 := Lib.hid (on1 _ hb)
    clear hb K0
    obtain ⟨c0, c1, c2⟩ := K1.out
    go_wp2
    go_ret2
    exact ⟨_, _, rfl, ⟨fun h => absurd HP.out h, fun _ _ => ⟨rfl, rfl⟩, fun _ h => absurd h HQ.out, fun _ h => absurd h HQ.out⟩, HB1.out⟩
  subst hrq
  obtain ⟨N, rfl⟩ := Int.eq_ofNat_of_zero_le HP.out.1
  have hN : N ≤ 48 := by have := HP.out.2.1; omega
  have hnn : n = N * N := by have h1 := HP.out.2.2.2.2.1; rw [H.out.1, castM] at h1; exact_mod_cast h1
  have HNN := Lib.hid hnn
  clear hnn
  have p1 := rc_le hN hN
  go_enter Try.func30, Try.ntmps30
  go_wp2_with fail
  refine (isMi_yes N N A n c zs _ (H.out.into (al1 _ _)) hn HP.out).mono ?_
  rintro e w1 ⟨rfl, hb⟩
  have K1 := Lib.hid (K0.out.below hb (by simp))
  have z1 : w.heap.size < w1.heap.size := by have := hb.size; simp at this; omega
  have HB1 := Lib.hid (on1 _ hb)
  clear hb K0
  obtain ⟨c0, c1, c2⟩ := K1.out
  go_wp2_with fail
  refine (exceeds_impl N A n c zs _ (H.out.into HB1.out) hN HP.out).mono ?_
  intro e w2 hS
  clear c0 c1 c2
  by_cases hV : VolOk N zs
  case' pos => obtain ⟨rfl, hb2⟩ := hS.no (fun h => h hV)
  case' neg => obtain ⟨rfl, hb2⟩ := hS.yes hV
  all_goals
    have HV := Lib.hid hV
    clear hV hS
    have K2 := Lib.hid (K1.out.below hb2 z1)
    have HB2 := Lib.hid (HB1.out.trans (hb2.mono HB1.out.size))
    clear hb2
    obtain ⟨c0, c1, c2⟩ := K2.out
  · go_wp2
    go_ret2
    exact ⟨_, _, rfl, ⟨fun h => absurd HP.out h, fun _ h => absurd rfl h, fun _ _ _ => ⟨rfl, rfl⟩, fun _ _ h => absurd h HV.out⟩, HB2.out⟩
  · go_wp2_with fail
    refine (clone_impl N A n c zs _ (H.out.into HB2.out) HNN.out hN).mono ?_
    rintro e w3 ⟨g, rfl, hk3, hg3, hb3⟩
    have O3 := Lib.hid (Own.of_blk (lo := w2.heap.size) (hi := w3.heap.size) (n := n) hk3 hg3 hk3.lt H.out.1 (by unfold maxLen; omega))
    have HB3 := Lib.hid (HB2.out.trans (hb3.mono HB2.out.size))
    have z3 := hb3.size
    clear hk3 hb3
    go_wp2_with fail
    refine (elim_impl N (some ⟨g, 0, none⟩) n n w2.heap.size w3.heap.size zs _ O3.out (Nat.le_refl _) HNN.out hN).mono ?_
    rintro e w4 ⟨rfl, hk4⟩
    have Q4 := Lib.hid hk4
    clear hk4
    go_wp2
    go_ret2
    exact ⟨_, _, rfl, ⟨fun h => absurd HP.out h, fun _ h => absurd rfl h, fun _ _ h => absurd HV.out h, fun _ _ _ => ⟨rfl, rfl⟩⟩, HB3.out.trans (Q4.out.below HB2.out.size (by have := HB2.out.size; omega))⟩

set_option maxHeartbeats 2000000 in
theorem determinant_spec (r q : Int) (b off : Nat) (n c : Nat) (zs : List Int) (w : World) (h : Ints w w.heap.size (some ⟨b, off, none⟩) n zs) (hn : n ≤ 1048576) :
    Calls Try.prog 29 #[.agg #[.int .i64 r, .int .i64 q, .slice (some ⟨b, off, none⟩) n c]] w (SaysD r q zs w) := by
  have H := Lib.hid h
  clear h
  have K0 := Lib.hid (Box3.new w 27 (.int .i64 r) (.int .i64 q) (.slice (some ⟨b, off, none⟩) n c))
  by_cases hP : MOk r q zs
  case neg =>
    have HP := Lib.hid hP
    clear hP
    go_enter Try.func29, Try.ntmps29
    go_wp2_with fail
    refine (isMs_no r q (some ⟨b, off, none⟩) n c zs _ (H.out.into (al1 _ _)) hn HP.out).mono ?_
    rintro e w1 ⟨rfl, hb⟩
    go_wp2
    go_ret2
    exact ⟨_, _, rfl, ⟨fun _ => ⟨rfl, rfl⟩, fun h => absurd h HP.out, fun h => absurd h HP.out, fun h => absurd h HP.out⟩, on1 _ hb⟩
  have HP := Lib.hid hP
  clear hP
  by_cases hrq : r = q
  case neg =>
    have HQ := Lib.hid hrq
    have t1 : (r == q) = false := by simpa using hrq
    have t2 : (r != q) = true := by simpa using hrq
    clear hrq
    go_enter Try.func29, Try.ntmps29
    go_wp2_with fail
    refine (isMs_yes r q (some ⟨b, off, none⟩) n c zs _ (H.out.into (al1 _ _)) hn HP.out).mono ?_
    rintro e w1 ⟨rfl, hb⟩
    have K1 := Lib.hid (K0.out.below hb (by simp))
    have HB1 := Lib.hid (on1 _ hb)
    clear hb K0
    obtain ⟨c0, c1, c2⟩ := K1.out
    go_wp2
    go_ret2
    exact ⟨_, _, rfl, ⟨fun h => absurd HP.out h, fun _ _ => ⟨rfl, rfl⟩, fun _ h => absurd h HQ.out, fun _ h => absurd h HQ.out⟩, HB1.out⟩
  subst hrq
  obtain ⟨N, rfl⟩ := Int.eq_ofNat_of_zero_le HP.out.1
  have hN : N ≤ 48 := by have := HP.out.2.1; omega
  have hnn : n = N * N := by have h1 := HP.out.2.2.2.2.1; rw [H.out.1, castM] at h1; exact_mod_cast h1
  have HNN := Lib.hid hnn
  clear hnn
  have p1 := rc_le hN hN
  go_enter Try.func29, Try.ntmps29
  go_wp2_with fail
  refine (isMs_yes N N (some ⟨b, off, none⟩) n c zs _ (H.out.into (al1 _ _)) hn HP.out).mono ?_
  rintro e w1 ⟨rfl, hb⟩
  have K1 := Lib.hid (K0.out.below hb (by simp))
  have z1 : w.heap.size < w1.heap.size := by have := hb.size; simp at this; omega
  have HB1 := Lib.hid (on1 _ hb)
  clear hb K0
  obtain ⟨c0, c1, c2⟩ := K1.out
  go_wp2_with fail
  refine (volume_spec N (some ⟨b, off, none⟩) n c zs _ (H.out.into HB1.out) hN HP.out).mono ?_
  intro e w2 hS
  clear c0 c1 c2
  by_cases hV : VolOk N zs
  case' pos => obtain ⟨rfl, hb2⟩ := hS.yes hV
  case' neg => obtain ⟨rfl, hb2⟩ := hS.no hV
  all_goals
    have HV := Lib.hid hV
    clear hV hS
    have K2 := Lib.hid (K1.out.below hb2 z1)
    have HB2 := Lib.hid (HB1.out.trans (hb2.mono HB1.out.size))
    clear hb2
    obtain ⟨c0, c1, c2⟩ := K2.out
  · go_wp2
    go_ret2
    exact ⟨_, _, rfl, ⟨fun h => absurd HP.out h, fun _ h => absurd rfl h, fun _ _ _ => ⟨rfl, rfl⟩, fun _ _ h => absurd h HV.out⟩, HB2.out⟩
  · go_wp2_with fail
    refine (det_spec N b off n c zs _ (H.out.into HB2.out) HNN.out hN).mono ?_
    rintro e w3 ⟨rfl, hb3⟩
    go_wp2
    go_ret2
    exact ⟨_, _, rfl, ⟨fun h => absurd HP.out h, fun _ h => absurd rfl h, fun _ _ h => absurd HV.out h, fun _ _ _ => ⟨rfl, rfl⟩⟩, HB2.out.trans (hb3.mono HB2.out.size)⟩

end Go.Proofs.Ytdbljeglnhefmaa
