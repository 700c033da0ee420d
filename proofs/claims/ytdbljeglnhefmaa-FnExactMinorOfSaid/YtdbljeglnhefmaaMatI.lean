/- Contracts of the two functions that hand back a minor, the program's and the specification's, at inputs without such a minor too. No condition but those that each theorem names. -/
import Derived.Test.YtdbljeglnhefmaaMatH
namespace Go.Proofs.Ytdbljeglnhefmaa
open Go.RowKit

def HasIJ (r q : Int) (zs : List Int) (i j : Int) : Prop := MOk r q zs ∧ 0 ≤ i ∧ i < r ∧ 0 ≤ j ∧ j < q

set_option maxHeartbeats 1000000 in
theorem minor_impl_no (r q i j : Int) (A : Option Addr) (n c : Nat) (zs : List Int) (w : World) (h : Ints w w.heap.size A n zs) (hn : n ≤ 1048576) (hno : ¬ HasIJ r q zs i j) :
    Calls Try.prog 26 #[.agg #[.int .i64 r, .int .i64 q, .slice A n c], .int .i64 i, .int .i64 j] w (ResM w 0 0 [] (.bool false)) := by
  have H := Lib.hid h
  have NO := Lib.hid hno
  clear h hno
  have K1 := Lib.hid ((Box3.new w 27 (.int .i64 r) (.int .i64 q) (.slice A n c)).below (al1 _ (Obj.cells #[.int .i64 0, .int .i64 0, .slice none 0 0] 27)) (by simp))
  have K2 := Lib.hid (Box3.new (w.alloc (Obj.cells #[.int .i64 r, .int .i64 q, .slice A n c] 27)) 27 (.int .i64 0) (.int .i64 0) (.slice none 0 0))
  have F2 := Lib.hid (Free.new (w.alloc (Obj.cells #[.int .i64 r, .int .i64 q, .slice A n c] 27)) 27 #[.int .i64 0, .int .i64 0, .slice none 0 0])
  by_cases hP : MOk r q zs
  case neg =>
    have HP := Lib.hid hP
    clear hP
    go_enter Try.func26, Try.ntmps26
    go_wp2_with fail
    refine (isMi_no r q A n c zs _ (H.out.into (al2 _ _ _)) hn HP.out).mono ?_
    rintro e w1 ⟨rfl, hb⟩
    have K2' := Lib.hid (K2.out.below hb (by simp))
    have F2' := Lib.hid (F2.out.below hb (by simp))
    have HB1 := Lib.hid (on2 _ _ hb)
    clear hb K1 K2 F2
    simp only [World.size_alloc] at K2' F2'
    obtain ⟨n0, n1, n2⟩ := K2'.out
    have f0 := F2'.out
    unfold Free at f0
    go_wp2
    refine bodyPost_ret (v := .tuple #[.agg #[.int .i64 0, .int .i64 0, .slice none 0 0], .bool false]) (by simp [results, Try.results26, n0, n1, n2, go_sem]) rfl ⟨none, 0, rfl, Own.none_ _ _ _, ?_⟩
    exact ((HB1.out.setCell (by simp) _).setCell (by simp) _).setCell (by simp) _
  have HI := Lib.hid (fun g => NO.out ⟨hP, g⟩ : ¬ (0 ≤ i ∧ i < r ∧ 0 ≤ j ∧ j < q))
  have HP := Lib.hid hP
  clear hP
  go_enter Try.func26, Try.ntmps26
  go_wp2_with fail
  refine (isMi_yes r q A n c zs _ (H.out.into (al2 _ _ _)) hn HP.out).mono ?_
  rintro e w1 ⟨rfl, hb⟩
  have s1 : w.heap.size + 1 < w1.heap.size := by have := hb.size; simp at this; omega
  have K1' := Lib.hid (K1.out.below hb (by simp; omega))
  have K2' := Lib.hid (K2.out.below hb (by simp))
  have F2' := Lib.hid (F2.out.below hb (by simp))
  have HB1 := Lib.hid (on2 _ _ hb)
  clear hb K1 K2 F2
  simp only [World.size_alloc] at K2' F2'
  obtain ⟨k0, k1, k2⟩ := K1'.out
  go_wp2_with fail
  refine (has_no r q i j A n c _ HI.out).mono ?_
  rintro e w2 ⟨rfl, hb⟩
  clear k0 k1 k2
  obtain ⟨n0, n1, n2⟩ := K2'.out.below hb (by omega)
  have f0 := F2'.out.below hb (by omega)
  have HB2 := Lib.hid (HB1.out.trans (hb.mono (by omega)))
  clear hb
  unfold Free at f0
  go_wp2
  refine bodyPost_ret (v := .tuple #[.agg #[.int .i64 0, .int .i64 0, .slice none 0 0], .bool false]) (by simp [results, Try.results26, n0, n1, n2, go_sem]) rfl ⟨none, 0, rfl, Own.none_ _ _ _, ?_⟩
  exact ((HB2.out.setCell (by simp) _).setCell (by simp) _).setCell (by simp) _

set_option maxHeartbeats 1000000 in
theorem minor_spec_no (r q i j : Int) (A : Option Addr) (n c : Nat) (zs : List Int) (w : World) (h : Ints w w.heap.size A n zs) (hn : n ≤ 1048576) (hno : ¬ HasIJ r q zs i j) :
    Calls Try.prog 25 #[.agg #[.int .i64 r, .int .i64 q, .slice A n c], .int .i64 i, .int .i64 j] w (ResM w 0 0 [] (.bool false)) := by
  have H := Lib.hid h
  have NO := Lib.hid hno
  clear h hno
  have K1 := Lib.hid ((Box3.new w 27 (.int .i64 r) (.int .i64 q) (.slice A n c)).below (al1 _ (Obj.cells #[.int .i64 0, .int .i64 0, .slice none 0 0] 27)) (by simp))
  have K2 := Lib.hid (Box3.new (w.alloc (Obj.cells #[.int .i64 r, .int .i64 q, .slice A n c] 27)) 27 (.int .i64 0) (.int .i64 0) (.slice none 0 0))
  have F2 := Lib.hid (Free.new (w.alloc (Obj.cells #[.int .i64 r, .int .i64 q, .slice A n c] 27)) 27 #[.int .i64 0, .int .i64 0, .slice none 0 0])
  by_cases hP : MOk r q zs
  case neg =>
    have HP := Lib.hid hP
    clear hP
    go_enter Try.func25, Try.ntmps25
    go_wp2_with fail
    refine (isMs_no r q A n c zs _ (H.out.into (al2 _ _ _)) hn HP.out).mono ?_
    rintro e w1 ⟨rfl, hb⟩
    have K2' := Lib.hid (K2.out.below hb (by simp))
    have F2' := Lib.hid (F2.out.below hb (by simp))
    have HB1 := Lib.hid (on2 _ _ hb)
    clear hb K1 K2 F2
    simp only [World.size_alloc] at K2' F2'
    obtain ⟨n0, n1, n2⟩ := K2'.out
    have f0 := F2'.out
    unfold Free at f0
    go_wp2
    refine bodyPost_ret (v := .tuple #[.agg #[.int .i64 0, .int .i64 0, .slice none 0 0], .bool false]) (by simp [results, Try.results25, n0, n1, n2, go_sem]) rfl ⟨none, 0, rfl, Own.none_ _ _ _, ?_⟩
    exact ((HB1.out.setCell (by simp) _).setCell (by simp) _).setCell (by simp) _
  have hni : ¬ (0 ≤ i ∧ i < r ∧ 0 ≤ j ∧ j < q) := fun g => NO.out ⟨hP, g⟩
  have HI := Lib.hid hni
  have HP := Lib.hid hP
  clear hP hni
  obtain ⟨r0, r1, q0, q1, _⟩ := HP.out
  go_enter Try.func25, Try.ntmps25
  go_wp2_with fail
  refine (isMs_yes r q A n c zs _ (H.out.into (al2 _ _ _)) hn HP.out).mono ?_
  rintro e w1 ⟨rfl, hb⟩
  have s1 : w.heap.size + 1 < w1.heap.size := by have := hb.size; simp at this; omega
  have K1' := Lib.hid (K1.out.below hb (by simp; omega))
  have K2' := Lib.hid (K2.out.below hb (by simp))
  have F2' := Lib.hid (F2.out.below hb (by simp))
  have HB1 := Lib.hid (on2 _ _ hb)
  clear hb K1 K2 F2
  simp only [World.size_alloc] at K2' F2'
  obtain ⟨k0, k1, k2⟩ := K1'.out
  obtain ⟨n0, n1, n2⟩ := K2'.out
  have f0 := F2'.out
  unfold Free at f0
  go_wp2_with fail
  by_cases hi : 0 ≤ i ∧ i ≤ r - 1
  · have hj : ¬ (0 ≤ j ∧ j < q) := fun g => HI.out ⟨hi.1, by omega, g⟩
    have HJ := Lib.hid hj
    have HI' := Lib.hid hi
    clear hi hj
    with_reducible refine (in_yes _ _ _ _ HI'.out.1 HI'.out.2).mono ?_
    rintro e w2 ⟨rfl, rfl⟩
    go_wp2_with fail
    with_reducible refine (in_no _ _ _ _ (by have := HJ.out; omega)).mono ?_
    rintro e w2 ⟨rfl, rfl⟩
    go_wp2
    refine bodyPost_ret (v := .tuple #[.agg #[.int .i64 0, .int .i64 0, .slice none 0 0], .bool false]) (by simp [results, Try.results25, n0, n1, n2, go_sem]) rfl ⟨none, 0, rfl, Own.none_ _ _ _, ?_⟩
    exact ((HB1.out.setCell (by simp) _).setCell (by simp) _).setCell (by simp) _
  · have HJ := Lib.hid hi
    clear hi
    with_reducible refine (in_no _ _ _ _ HJ.out).mono ?_
    rintro e w2 ⟨rfl, rfl⟩
    go_wp2
    refine bodyPost_ret (v := .tuple #[.agg #[.int .i64 0, .int .i64 0, .slice none 0 0], .bool false]) (by simp [results, Try.results25, n0, n1, n2, go_sem]) rfl ⟨none, 0, rfl, Own.none_ _ _ _, ?_⟩
    exact ((HB1.out.setCell (by simp) _).setCell (by simp) _).setCell (by simp) _

set_option maxHeartbeats 1000000 in
theorem minor_spec_yes (R C a b : Nat) (A : Option Addr) (n c : Nat) (zs : List Int) (w : World) (h : Ints w w.heap.size A n zs) (hn : n ≤ 1048576) (hR : R ≤ 48) (hC : C ≤ 48) (ha : a < R) (hb' : b < C) (hP : MOk R C zs) :
    Calls Try.prog 25 #[.agg #[.int .i64 R, .int .i64 C, .slice A n c], .int .i64 a, .int .i64 b] w (ResM w ((R : Int) - 1) ((C : Int) - 1) (mn C a b zs (R * C)) (.bool true)) := by
  have H := Lib.hid h
  have HP := Lib.hid hP
  clear h hP
  have K1 := Lib.hid ((Box3.new w 27 (.int .i64 R) (.int .i64 C) (.slice A n c)).below (al1 _ (Obj.cells #[.int .i64 0, .int .i64 0, .slice none 0 0] 27)) (by simp))
  have K2 := Lib.hid (Box3.new (w.alloc (Obj.cells #[.int .i64 R, .int .i64 C, .slice A n c] 27)) 27 (.int .i64 0) (.int .i64 0) (.slice none 0 0))
  have F2 := Lib.hid (Free.new (w.alloc (Obj.cells #[.int .i64 R, .int .i64 C, .slice A n c] 27)) 27 #[.int .i64 0, .int .i64 0, .slice none 0 0])
  go_enter Try.func25, Try.ntmps25
  go_wp2_with fail
  refine (isMs_yes R C A n c zs _ (H.out.into (al2 _ _ _)) hn HP.out).mono ?_
  rintro e w1 ⟨rfl, hb⟩
  have s1 : w.heap.size + 1 < w1.heap.size := by have := hb.size; simp at this; omega
  have K1' := Lib.hid (K1.out.below hb (by simp; omega))
  have K2' := Lib.hid (K2.out.below hb (by simp))
  have F2' := Lib.hid (F2.out.below hb (by simp))
  have HB1 := Lib.hid (on2 _ _ hb)
  clear hb K1 K2 F2
  simp only [World.size_alloc] at K2' F2'
  obtain ⟨k0, k1, k2⟩ := K1'.out
  go_wp2_with fail
  with_reducible refine (in_yes _ _ _ _ (by omega) (by omega)).mono ?_
  rintro e w2 ⟨rfl, rfl⟩
  go_wp2_with fail
  with_reducible refine (in_yes _ _ _ _ (by omega) (by omega)).mono ?_
  rintro e w2 ⟨rfl, rfl⟩
  go_wp2_with fail
  refine (minor1_spec R C a b A n c zs _ (H.out.into HB1.out) hn hR hC ha hb' HP.out).mono ?_
  rintro e w3 ⟨A3, c3, rfl, hown, hb⟩
  clear k0 k1 k2
  obtain ⟨n0, n1, n2⟩ := K2'.out.below hb (by omega)
  have f0 := F2'.out.below hb (by omega)
  have HB2 := Lib.hid (HB1.out.trans (hb.mono (by omega)))
  have HO := Lib.hid hown
  clear hb hown
  unfold Free at f0
  go_wp2
  refine bodyPost_ret (v := .tuple #[.agg #[.int .i64 ((R : Int) - 1), .int .i64 ((C : Int) - 1), .slice A3 (mn C a b zs (R * C)).length c3], .bool true]) (by simp [results, Try.results25, n0, n1, n2, go_sem]) rfl ⟨A3, c3, rfl, ?_, ?_⟩
  · refine ((((HO.out.far (p := ⟨w.heap.size + 1, 0, none⟩) (by dsimp only; omega) _).far (p := ⟨w.heap.size + 1, 1, none⟩) (by dsimp only; omega) _).far (p := ⟨w.heap.size + 1, 2, none⟩) (by dsimp only; omega) _)).wide (by omega) ?_
    simp [World.setCell]
  · exact ((HB2.out.setCell (by simp) _).setCell (by simp) _).setCell (by simp) _

end Go.Proofs.Ytdbljeglnhefmaa
