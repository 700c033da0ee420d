/- The conditions of the program's moves: checkRelators and the checks. No condition but those that each theorem names. -/
import Derived.Test.YtjommpdblbbkdaaWdN
import Derived.Test.YtjommpdblbbkdaaSsD
namespace Go.Proofs.Ytjommpdblbbkdaa
open Go.RowKit

theorem ints_two (W : World) (g : Nat) (i j : Int) (hg : W.heap.size = g) : Ints (W.alloc (Obj.cells #[.int .i64 i, .int .i64 j] 2)) (W.alloc (Obj.cells #[.int .i64 i, .int .i64 j] 2)).heap.size (some ⟨g, 0, none⟩) 2 [i, j] := by
  subst hg
  exact (Blk.new W [i, j]).ints rfl
/-- All numbers are numbers of relators. -/
def inRs (n : Nat) (ns : List Int) : Prop := ∀ x ∈ ns, 0 ≤ x ∧ x < n
set_option maxHeartbeats 2000000 in
theorem tz_checkRel (r : Int) (A B : Option Addr) (c m cb n : Nat) (ns : List Int) (b : Int) (w : World) (h : Ints w w.heap.size B m ns) (hm : m ≤ 100) (hyes : inRs n ns → b = 0) (hno : ¬ inRs n ns → b = 4) :
    Calls Try.prog 93 #[.agg #[.int .i64 r, .slice A n c], .slice B m cb] w fun e w' => e = .returned (.int .i64 b) ∧ Below w.heap.size w w' := by
  have hl := Lib.hid h.1
  have H := Lib.hid (h.into (al1 w (Obj.cells #[.int .i64 r, .slice A n c] 26)))
  have K0 := Lib.hid (BoxG.new w 26 (.int .i64 r) (.slice A n c))
  have D0 := Lib.hid (al1 w (Obj.cells #[.int .i64 r, .slice A n c] 26))
  have HY := Lib.hid hyes
  have HO := Lib.hid hno
  clear h hyes hno
  go_enter Try.func93, Try.ntmps93
  go_wp2
  obtain ⟨V, hV⟩ : ∃ V, V = w.alloc (Obj.cells #[.int .i64 r, .slice A n c] 26) := ⟨_, rfl⟩
  rw [← hV] at H K0 D0
  rw [← hV]
  clear hV
  go_loop [9] (fun x => ∃ k : Nat, k ≤ m ∧ x = .int .i64 k ∧ ∀ j, j < k → 0 ≤ ns.getD j 0 ∧ ns.getD j 0 < n) (fun x => m - (intOf x).toNat)
  case atStart => exact ⟨0, Nat.zero_le _, rfl, fun j h => by omega⟩
  case round =>
    obtain ⟨k, hk, rfl, hin⟩ := hrel
    have IN := Lib.hid hin
    clear hin
    obtain ⟨k0, k1⟩ := K0.out
    by_cases hlt : k < m
    · obtain ⟨bb, off, z, rfl, hbb, hz, hc⟩ := H.out.at_z hlt
      have Z := Lib.hid hz
      have MEM := Lib.hid (show z ∈ ns from by
        rw [← hz, List.getD_eq_getElem?_getD, List.getElem?_eq_getElem (by rw [hl.out]; exact hlt)]
        exact List.getElem_mem _)
      clear hz
      by_cases h1 : z < 0
      · have B4 := Lib.hid (HO.out (fun hh => by have := hh z MEM.out; omega))
        go_wp2
        go_ret
        exact ⟨by rw [B4.out]; rfl, D0.out⟩
      by_cases h2 : z < (n : Int)
      · have t2 : ¬ (n : Int) ≤ z := by omega
        have t2' : decide ((n : Int) ≤ z) = false := by simpa using t2
        go_wp2
        go_round
        case rel => exact ⟨k + 1, by omega, by go_num, fun j hj => (if e : j = k then (by rw [e, Z.out]; omega) else IN.out j (by omega))⟩
        case measure => simp [intOf]; omega
      · have B4 := Lib.hid (HO.out (fun hh => by have := hh z MEM.out; omega))
        have t2 : (n : Int) ≤ z := by omega
        have t2' : decide ((n : Int) ≤ z) = true := by simpa using t2
        go_wp2
        go_ret
        exact ⟨by rw [B4.out]; rfl, D0.out⟩
    · obtain rfl : k = m := by omega
      have B0 := Lib.hid (HY.out (fun x hx => by
        obtain ⟨i, hi, rfl⟩ := List.mem_iff_getElem.1 hx
        have := IN.out i (by rw [← hl.out]; exact hi)
        rwa [List.getD_eq_getElem?_getD, List.getElem?_eq_getElem hi] at this))
      go_wp2
      go_ret
      exact ⟨by rw [B0.out]; rfl, D0.out⟩

set_option maxHeartbeats 2000000 in
theorem tz_check_inv (i r : Int) (A : Option Addr) (c n : Nat) (b : Int) (w : World) (hyes : (0 ≤ i ∧ i < n) → b = 0) (hno : ¬ (0 ≤ i ∧ i < n) → b = 4) :
    Calls Try.prog 95 #[.agg #[.int .i64 i], .agg #[.int .i64 r, .slice A n c]] w fun e w' => e = .returned (.int .i64 b) ∧ Below w.heap.size w w' := by
  have CR := Lib.hid (fun (B : Option Addr) (cb : Nat) (W : World) (hI : Ints W W.heap.size B 1 [i]) => tz_checkRel r A B c 1 cb n [i] b W hI (by omega) (fun h => hyes (h i (by simp))) (fun h => hno (fun h' => h (fun x hx => by simp at hx; rw [hx]; exact h'))))
  clear hyes hno
  go_enter Try.func95, Try.ntmps95
  go_wp2_with fail
  refine (CR.out _ _ _ (Wd.ints_one (Wd.alloc_first _ _ _ _ (by simp)))).mono ?_
  rintro e w1 ⟨rfl, hb⟩
  have D1 := Lib.hid (on3 _ _ _ hb)
  clear hb
  go_wp2
  go_ret
  exact ⟨rfl, D1.out⟩

set_option maxHeartbeats 2000000 in
theorem tz_check_rot (i r : Int) (A : Option Addr) (c n : Nat) (b : Int) (w : World) (hyes : (0 ≤ i ∧ i < n) → b = 0) (hno : ¬ (0 ≤ i ∧ i < n) → b = 4) :
    Calls Try.prog 96 #[.agg #[.int .i64 i], .agg #[.int .i64 r, .slice A n c]] w fun e w' => e = .returned (.int .i64 b) ∧ Below w.heap.size w w' := by
  have CR := Lib.hid (fun (B : Option Addr) (cb : Nat) (W : World) (hI : Ints W W.heap.size B 1 [i]) => tz_checkRel r A B c 1 cb n [i] b W hI (by omega) (fun h => hyes (h i (by simp))) (fun h => hno (fun h' => h (fun x hx => by simp at hx; rw [hx]; exact h'))))
  clear hyes hno
  go_enter Try.func96, Try.ntmps96
  go_wp2_with fail
  refine (CR.out _ _ _ (Wd.ints_one (Wd.alloc_first _ _ _ _ (by simp)))).mono ?_
  rintro e w1 ⟨rfl, hb⟩
  have D1 := Lib.hid (on3 _ _ _ hb)
  clear hb
  go_wp2
  go_ret
  exact ⟨rfl, D1.out⟩

set_option maxHeartbeats 4000000 in
theorem tz_check_drop (i r : Int) (A : Option Addr) (c : Nat) (rs : List Rw) (b : Int) (w : World) (h : RdS w w.heap.size A rs) (h4 : ¬ (0 ≤ i ∧ i < rs.length) → b = 4) (h5 : (0 ≤ i ∧ i < rs.length) → (rs.getD i.toNat nilRw).zs ≠ [] → b = 5) (h0 : (0 ≤ i ∧ i < rs.length) → (rs.getD i.toNat nilRw).zs = [] → b = 0) :
    Calls Try.prog 92 #[.agg #[.int .i64 i], .agg #[.int .i64 r, .slice A rs.length c]] w fun e w' => e = .returned (.int .i64 b) ∧ Below w.heap.size w w' := by
  have H := Lib.hid h
  obtain ⟨n, hrn⟩ : ∃ n, rs.length = n := ⟨_, rfl⟩
  have HN := Lib.hid hrn
  rw [hrn] at h4 h5 h0 ⊢
  by_cases hin : 0 ≤ i ∧ i < n
  case neg =>
    have B := Lib.hid (h4 hin)
    have CR := Lib.hid (fun (B : Option Addr) (cb : Nat) (W : World) (hI : Ints W W.heap.size B 1 [i]) => tz_checkRel r A B c 1 cb n [i] 4 W hI (by omega) (fun h => absurd (h i (by simp)) hin) (fun _ => rfl))
    clear h h4 h5 h0 hrn hin
    go_enter Try.func92, Try.ntmps92
    go_wp2_with fail
    refine (CR.out _ _ _ (Wd.ints_one (Wd.alloc_first _ _ _ _ (by simp)))).mono ?_
    rintro e w1 ⟨rfl, hb⟩
    have D1 := Lib.hid (on3 _ _ _ hb)
    clear hb
    go_wp2
    go_ret
    exact ⟨by rw [B.out]; rfl, D1.out⟩
  have CR := Lib.hid (fun (B : Option Addr) (cb : Nat) (W : World) (hI : Ints W W.heap.size B 1 [i]) => tz_checkRel r A B c 1 cb n [i] 0 W hI (by omega) (fun _ => rfl) (fun h => absurd (fun x hx => by simp at hx; rw [hx]; exact hin) h))
  have B5 := Lib.hid (h5 hin)
  have B0 := Lib.hid (h0 hin)
  obtain ⟨i0, i1⟩ := hin
  obtain ⟨k, rfl⟩ := Int.eq_ofNat_of_zero_le i0
  obtain ⟨bb, off, Aj, cj, zj, rfl, hbb, hr, hc, hjc, hjm, hj⟩ := h.at_ (j := k) (by rw [hrn]; omega)
  rw [Int.toNat_natCast, hr] at B5 B0
  have G1 := Lib.hid (BoxG.new (w.alloc (Obj.cells #[.int .i64 (k : Int)] 81)) 26 (.int .i64 r) (.slice (some ⟨bb, off, none⟩) n c))
  have G0 := Lib.hid (Wd.alloc_first w w.heap.size (.int .i64 (k : Int)) 81 rfl)
  have HC := Lib.hid hc
  clear h h4 h5 h0 hrn hr hj hjc hjm hc
  go_enter Try.func92, Try.ntmps92
  go_wp2_with fail
  refine (CR.out _ _ _ (Wd.ints_one (Wd.alloc_first _ _ _ _ (by simp)))).mono ?_
  rintro e w1 ⟨rfl, hb⟩
  have D1 := Lib.hid (on3 _ _ _ hb)
  have z1 : w.heap.size + 2 < w1.heap.size := by have := hb.size; simp at this; omega
  have e0 := (hb.cell (p := ⟨w.heap.size, 0, none⟩) (by simp; omega)).trans ((al1 _ _).cell (p := ⟨w.heap.size, 0, none⟩) (by simp <;> omega) |>.trans (((al1 _ _).cell (p := ⟨w.heap.size, 0, none⟩) (by simp)).trans G0.out))
  have G1' := (G1.out.below (al1 _ _) (by simp)).below hb (by simp)
  simp only [World.size_alloc] at G1'
  obtain ⟨e1, e2⟩ := G1'
  have e3 := (D1.out.cell (p := ⟨bb, off + k, none⟩) hbb).trans HC.out
  clear hb
  by_cases hz : zj = []
  · have B := Lib.hid (B0.out hz)
    subst hz
    go_wp2
    go_ret
    exact ⟨by rw [B.out]; rfl, D1.out⟩
  · have B := Lib.hid (B5.out hz)
    have t1 : decide ((0 : Int) < (zj.length : Int)) = true := decide_eq_true (by have := List.length_pos_iff.2 hz; omega)
    have t2 : 0 < zj.length := List.length_pos_iff.2 hz
    clear hz
    go_wp2
    go_ret
    exact ⟨by rw [B.out]; rfl, D1.out⟩

set_option maxHeartbeats 4000000 in
theorem tz_check_mul (i j r : Int) (A : Option Addr) (c n : Nat) (b : Int) (w : World) (h4 : ¬ ((0 ≤ i ∧ i < n) ∧ (0 ≤ j ∧ j < n)) → b = 4) (h5 : ((0 ≤ i ∧ i < n) ∧ (0 ≤ j ∧ j < n)) → i = j → b = 5) (h0 : ((0 ≤ i ∧ i < n) ∧ (0 ≤ j ∧ j < n)) → i ≠ j → b = 0) :
    Calls Try.prog 97 #[.agg #[.int .i64 i, .int .i64 j], .agg #[.int .i64 r, .slice A n c]] w fun e w' => e = .returned (.int .i64 b) ∧ Below w.heap.size w w' := by
  have G0 := Lib.hid (BoxG.new w 89 (.int .i64 i) (.int .i64 j))
  by_cases hin : (0 ≤ i ∧ i < n) ∧ (0 ≤ j ∧ j < n)
  case neg =>
    have B := Lib.hid (h4 hin)
    have CR := Lib.hid (fun (B : Option Addr) (cb : Nat) (W : World) (hI : Ints W W.heap.size B 2 [i, j]) => tz_checkRel r A B c 2 cb n [i, j] 4 W hI (by omega) (fun h => absurd ⟨h i (by simp), h j (by simp)⟩ hin) (fun _ => rfl))
    clear h4 h5 h0 hin
    go_enter Try.func97, Try.ntmps97
    go_wp2_with fail
    refine (CR.out _ _ _ (ints_two _ _ i j (by simp))).mono ?_
    rintro e w1 ⟨rfl, hb⟩
    have D1 := Lib.hid (on3 _ _ _ hb)
    clear hb
    go_wp2
    go_ret
    exact ⟨by rw [B.out]; rfl, D1.out⟩
  have CR := Lib.hid (fun (B : Option Addr) (cb : Nat) (W : World) (hI : Ints W W.heap.size B 2 [i, j]) => tz_checkRel r A B c 2 cb n [i, j] 0 W hI (by omega) (fun _ => rfl) (fun h => absurd (fun x hx => by simp at hx; rcases hx with hx | hx <;> rw [hx]; exact hin.1; exact hin.2) h))
  have B5 := Lib.hid (h5 hin)
  have B0 := Lib.hid (h0 hin)
  clear h4 h5 h0 hin
  by_cases hij : i = j
  · have t1 : (i == j) = true := by simpa using hij
    have B := Lib.hid (B5.out hij)
    clear hij
    go_enter Try.func97, Try.ntmps97
    go_wp2_with fail
    refine (CR.out _ _ _ (ints_two _ _ i j (by simp))).mono ?_
    rintro e w1 ⟨rfl, hb⟩
    have D1 := Lib.hid (on3 _ _ _ hb)
    obtain ⟨e0, e1⟩ := ((G0.out.below (al1 _ _) (by simp)).below (al1 _ _) (by simp; omega)).below hb (by simp; omega)
    clear hb
    go_wp2
    go_ret
    exact ⟨by rw [B.out]; rfl, D1.out⟩
  · have t1 : (i == j) = false := by simpa using hij
    have B := Lib.hid (B0.out hij)
    clear hij
    go_enter Try.func97, Try.ntmps97
    go_wp2_with fail
    refine (CR.out _ _ _ (ints_two _ _ i j (by simp))).mono ?_
    rintro e w1 ⟨rfl, hb⟩
    have D1 := Lib.hid (on3 _ _ _ hb)
    obtain ⟨e0, e1⟩ := ((G0.out.below (al1 _ _) (by simp)).below (al1 _ _) (by simp; omega)).below hb (by simp; omega)
    clear hb
    go_wp2
    go_ret
    exact ⟨by rw [B.out]; rfl, D1.out⟩

set_option maxHeartbeats 2000000 in
theorem tz_check_add (r : Int) (A B : Option Addr) (c n m cb : Nat) (ws : List Int) (b : Int) (w : World) (h : Ints w w.heap.size B m ws) (hm : m ≤ 1048576) (r0 : 0 ≤ r) (r1 : r ≤ 24) (hb : b = if Wd.isR r ws = true then 0 else 1) :
    Calls Try.prog 98 #[.agg #[.slice B m cb], .agg #[.int .i64 r, .slice A n c]] w fun e w' => e = .returned (.int .i64 b) ∧ Below w.heap.size w w' := by
  have H := Lib.hid (h.into (al2 w (Obj.cells #[.slice B m cb] 91) (Obj.cells #[.int .i64 r, .slice A n c] 26)))
  have RI := Lib.hid (reducedUpTo_impl B m cb ws r _ _ H.out hm r0 (by omega))
  clear h
  rcases hw : Wd.isR r ws with _ | _
  all_goals
    rw [hw] at RI hb
    have BB := Lib.hid hb
    clear hw hb
    go_enter Try.func98, Try.ntmps98
    go_wp2_with fail
    refine RI.out.mono ?_
    rintro e w1 ⟨rfl, hq⟩
    have D1 := Lib.hid (show Below w.heap.size w w1 from by obtain ⟨m, rfl⟩ := hq; exact (al2 _ _ _).trans (Go.Joins.below_draws _ _ _))
    clear hq
    go_wp2
    go_ret
    exact ⟨by rw [BB.out]; rfl, D1.out⟩

set_option maxHeartbeats 8000000 in
theorem tz_check_rem (i g r : Int) (A : Option Addr) (c : Nat) (rs : List Rw) (b : Int) (w : World) (h : RdS w w.heap.size A rs) (hrow : ∀ q ∈ rs, q.zs.length ≤ 1048576) (r0 : 0 ≤ r) (r1 : r ≤ 24) (h4 : ¬ ((0 ≤ i ∧ i < rs.length) ∧ (1 ≤ g ∧ g ≤ r)) → b = 4)
    (h5 : ((0 ≤ i ∧ i < rs.length) ∧ (1 ≤ g ∧ g ≤ r)) → Wd.occ g (rs.getD i.toNat nilRw).zs ≠ 1 → b = 5) (h0 : ((0 ≤ i ∧ i < rs.length) ∧ (1 ≤ g ∧ g ≤ r)) → Wd.occ g (rs.getD i.toNat nilRw).zs = 1 → b = 0) :
    Calls Try.prog 94 #[.agg #[.int .i64 i, .int .i64 g], .agg #[.int .i64 r, .slice A rs.length c]] w fun e w' => e = .returned (.int .i64 b) ∧ Below w.heap.size w w' := by
  have H := Lib.hid h
  have ROW := Lib.hid hrow
  obtain ⟨n, hrn⟩ : ∃ n, rs.length = n := ⟨_, rfl⟩
  have HN := Lib.hid hrn
  rw [hrn] at h4 h5 h0 ⊢
  have G0 := Lib.hid (BoxG.new w 83 (.int .i64 i) (.int .i64 g))
  have G1 := Lib.hid (BoxG.new (w.alloc (Obj.cells #[.int .i64 i, .int .i64 g] 83)) 26 (.int .i64 r) (.slice A n c))
  by_cases hin : 0 ≤ i ∧ i < n
  case neg =>
    have B := Lib.hid (h4 (fun hh => hin hh.1))
    have CR := Lib.hid (fun (B : Option Addr) (cb : Nat) (W : World) (hI : Ints W W.heap.size B 1 [i]) => tz_checkRel r A B c 1 cb n [i] 4 W hI (by omega) (fun h => absurd (h i (by simp)) hin) (fun _ => rfl))
    clear h h4 h5 h0 hrn hin hrow
    go_enter Try.func94, Try.ntmps94
    go_wp2_with fail
    refine (CR.out _ _ _ (Wd.ints_one (Wd.alloc_first _ _ _ _ (by simp)))).mono ?_
    rintro e w1 ⟨rfl, hb⟩
    have D1 := Lib.hid (on3 _ _ _ hb)
    clear hb
    go_wp2
    go_ret
    exact ⟨by rw [B.out]; rfl, D1.out⟩
  have CR := Lib.hid (fun (B : Option Addr) (cb : Nat) (W : World) (hI : Ints W W.heap.size B 1 [i]) => tz_checkRel r A B c 1 cb n [i] 0 W hI (by omega) (fun _ => rfl) (fun h => absurd (fun x hx => by simp at hx; rw [hx]; exact hin) h))
  by_cases hg : 1 ≤ g ∧ g ≤ r
  case neg =>
    have B := Lib.hid (h4 (fun hh => hg hh.2))
    by_cases hg1 : g < 1
    · clear h h4 h5 h0 hrn hin hrow hg
      go_enter Try.func94, Try.ntmps94
      go_wp2_with fail
      refine (CR.out _ _ _ (Wd.ints_one (Wd.alloc_first _ _ _ _ (by simp)))).mono ?_
      rintro e w1 ⟨rfl, hb⟩
      have D1 := Lib.hid (on3 _ _ _ hb)
      obtain ⟨e0, e1⟩ := ((G0.out.below (al1 _ _) (by simp)).below (al1 _ _) (by simp; omega)).below hb (by simp; omega)
      have G1' := (G1.out.below (al1 _ _) (by simp)).below hb (by simp)
      simp only [World.size_alloc] at G1'
      obtain ⟨e2, e3⟩ := G1'
      clear hb
      go_wp2
      go_ret
      exact ⟨by rw [B.out]; rfl, D1.out⟩
    · have hg2 : r < g := by omega
      clear h h4 h5 h0 hrn hin hrow hg
      go_enter Try.func94, Try.ntmps94
      go_wp2_with fail
      refine (CR.out _ _ _ (Wd.ints_one (Wd.alloc_first _ _ _ _ (by simp)))).mono ?_
      rintro e w1 ⟨rfl, hb⟩
      have D1 := Lib.hid (on3 _ _ _ hb)
      obtain ⟨e0, e1⟩ := ((G0.out.below (al1 _ _) (by simp)).below (al1 _ _) (by simp; omega)).below hb (by simp; omega)
      have G1' := (G1.out.below (al1 _ _) (by simp)).below hb (by simp)
      simp only [World.size_alloc] at G1'
      obtain ⟨e2, e3⟩ := G1'
      clear hb
      go_wp2
      go_ret
      exact ⟨by rw [B.out]; rfl, D1.out⟩
  have B5 := Lib.hid (h5 ⟨hin, hg⟩)
  have B0 := Lib.hid (h0 ⟨hin, hg⟩)
  obtain ⟨i0, i1⟩ := hin
  obtain ⟨g0, g1⟩ := hg
  obtain ⟨k, rfl⟩ := Int.eq_ofNat_of_zero_le i0
  obtain ⟨bb, off, Aj, cj, zj, rfl, hbb, hr, hc, hjc, hjm, hj⟩ := h.at_ (j := k) (by rw [hrn]; omega)
  have hl := hrow _ (getD_mem (rs := rs) (j := k) (by rw [hrn]; omega))
  rw [hr] at hl
  dsimp only at hl
  rw [Int.toNat_natCast, hr] at B5 B0
  dsimp only at B5 B0
  have HC := Lib.hid hc
  have HJ := Lib.hid hj
  clear h h4 h5 h0 hrn hr hj hjc hjm hc hrow
  go_enter Try.func94, Try.ntmps94
  go_wp2_with fail
  refine (CR.out _ _ _ (Wd.ints_one (Wd.alloc_first _ _ _ _ (by simp)))).mono ?_
  rintro e w1 ⟨rfl, hb⟩
  have D1 := Lib.hid (on3 _ _ _ hb)
  have z1 : w.heap.size + 2 < w1.heap.size := by have := hb.size; simp at this; omega
  have X0 := Lib.hid (((G0.out.below (al1 _ _) (by simp)).below (al1 _ _) (by simp; omega)).below hb (by simp; omega))
  have X1 := Lib.hid ((G1.out.below (al1 _ _) (by simp)).below hb (by simp))
  simp only [World.size_alloc] at X1
  clear hb G0 G1
  obtain ⟨e0, e1⟩ := X0.out
  obtain ⟨e2, e3⟩ := X1.out
  have e4 := (D1.out.cell (p := ⟨bb, off + k, none⟩) hbb).trans HC.out
  have k0 : (0 : Int) ≤ (k : Int) := by omega
  go_wp2
  clear e0 e1 e2 e3 e4
  go_loopw [34, 6] (fun x y W => ∃ t : Nat, t ≤ zj.length ∧ x = .int .i64 t ∧ y = .int .i64 (Wd.occ g (zj.take t) : Int) ∧ Below w1.heap.size w1 W) (fun x _ _ => zj.length - (intOf x).toNat)
  case atStart => exact ⟨0, Nat.zero_le _, rfl, by simp [Wd.occ], Below.refl _ _⟩
  case round =>
    obtain ⟨t, ht, rfl, rfl, hbel⟩ := hrel
    have D := Lib.hid hbel
    have z2 : w1.heap.size ≤ wr.heap.size := hbel.size
    clear hbel
    have hol : Wd.occ g (zj.take t) ≤ t := Nat.le_trans List.countP_le_length (List.length_take_le _ _)
    by_cases hlt : t < zj.length
    · have NX := Lib.hid (show Wd.occ g (zj.take (t + 1)) = Wd.occ g (zj.take t) + (if zj.getD t 0 = g ∨ zj.getD t 0 = -g then 1 else 0) from by
        rw [Wd.take_snoc zj hlt, Wd.occ, List.countP_append, List.countP_singleton]
        by_cases e : zj.getD t 0 = g ∨ zj.getD t 0 = -g
        · rw [if_pos e, if_pos (by simpa using e)]; rfl
        · rw [if_neg e, if_neg (by simpa using e)]; rfl)
      obtain ⟨q, hq⟩ : ∃ q, Wd.occ g (zj.take t) = q := ⟨_, rfl⟩
      obtain ⟨b2, off2, z, rfl, hb2, hz, hc2⟩ := ((HJ.out.below D1.out).below (D.out.mono (by omega))).at_z hlt
      rw [hq] at NX hol ⊢
      rw [hz] at NX
      obtain ⟨e0, e1⟩ := X0.out.below D.out (by omega)
      clear hq hz
      by_cases e : z = g ∨ z = -g
      · have N2 := Lib.hid (show Wd.occ g (zj.take (t + 1)) = q + 1 from by rw [NX.out, if_pos e])
        have LY := Lib.hid (fun W => letter_yes k g z W g0 (by omega) e)
        clear e
        go_wp2_with fail
        refine (LY.out _).mono ?_
        rintro e w3 ⟨rfl, hb3⟩
        have D3 := Lib.hid (D.out.trans (hb3.mono z2))
        clear hb3 e0 e1
        go_wp2
        go_roundw
        case rel => exact ⟨t + 1, by omega, by go_num, by rw [N2.out]; go_num, D3.out⟩
        case measure => simp [intOf]; omega
      · have N2 := Lib.hid (show Wd.occ g (zj.take (t + 1)) = q from by rw [NX.out, if_neg e]; rfl)
        have LN := Lib.hid (fun W => letter_no k g z W g0 (by omega) e)
        clear e
        go_wp2_with fail
        refine (LN.out _).mono ?_
        rintro e w3 ⟨rfl, hb3⟩
        have D3 := Lib.hid (D.out.trans (hb3.mono z2))
        clear hb3 e0 e1
        go_wp2
        go_roundw
        case rel => exact ⟨t + 1, by omega, by go_num, by rw [N2.out], D3.out⟩
        case measure => simp [intOf]; omega
    · obtain rfl : t = zj.length := by omega
      have TA := Lib.hid (show Wd.occ g (zj.take zj.length) = Wd.occ g zj from by rw [List.take_length])
      rw [TA.out]
      by_cases ho : Wd.occ g zj = 1
      · have B := Lib.hid (B0.out ho)
        have t1 : ((Wd.occ g zj : Int) != 1) = false := by rw [ho]; rfl
        clear ho hol
        go_wp2
        go_ret
        exact ⟨by rw [B.out]; rfl, D1.out.trans (D.out.mono (by omega))⟩
      · have B := Lib.hid (B5.out ho)
        have t1 : ((Wd.occ g zj : Int) != 1) = true := by simp; omega
        clear ho hol
        go_wp2
        go_ret
        exact ⟨by rw [B.out]; rfl, D1.out.trans (D.out.mono (by omega))⟩

end Go.Proofs.Ytjommpdblbbkdaa
