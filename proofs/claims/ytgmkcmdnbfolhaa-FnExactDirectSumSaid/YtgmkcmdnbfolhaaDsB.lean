/- Matrices with a given diagonal. No condition but those that each theorem names. -/
import Derived.Test.YtgmkcmdnbfolhaaDsA
import Derived.Test.YtgmkcmdnbfolhaaMatF
namespace Go.Proofs.Ytgmkcmdnbfolhaa
open Go.RowKit

/-- N rows and columns, the first i numbers of the list on the diagonal. -/
def diagL (N : Nat) (l : List Int) : Nat → List Int
  | 0 => List.replicate (N * N) 0
  | i + 1 => (diagL N l i).set (i * N + i) (l.getD i 0)
theorem diagL_len (N : Nat) (l : List Int) (i : Nat) : (diagL N l i).length = N * N := by
  induction i with
  | zero => simp [diagL]
  | succ i ih => simp [diagL, ih]
theorem diagL_in {N : Nat} {l : List Int} (hl : ∀ i, -1000000000000 ≤ l.getD i 0 ∧ l.getD i 0 ≤ 1000000000000) : ∀ (k i : Nat), -1000000000000 ≤ (diagL N l k).getD i 0 ∧ (diagL N l k).getD i 0 ≤ 1000000000000
  | 0, i => by
    have : (diagL N l 0).getD i 0 = 0 := by
      rw [diagL, List.getD_eq_getElem?_getD, List.getElem?_replicate]
      split <;> rfl
    omega
  | k + 1, i => by
    rw [diagL]
    rcases Nat.lt_or_ge (k * N + k) (diagL N l k).length with h | h
    · rw [List.getD_eq_getElem?_getD, List.getElem?_set]
      split
      · exact hl k
      · rw [← List.getD_eq_getElem?_getD]; exact diagL_in hl k i
    · rw [List.set_eq_of_length_le h]; exact diagL_in hl k i
theorem diagL_ok {N : Nat} {l : List Int} (hN : N ≤ 48) (hl : ∀ i, -1000000000000 ≤ l.getD i 0 ∧ l.getD i 0 ≤ 1000000000000) : MOk N N (diagL N l N) :=
  ⟨by omega, by omega, by omega, by omega, by rw [diagL_len]; simp, fun i _ => diagL_in hl N i⟩

set_option maxHeartbeats 2000000 in
theorem diag_impl (N c : Nat) (A : Option Addr) (l : List Int) (w : World) (hl : Ints w w.heap.size A N l) (h : N ≤ 48) : Calls Try.prog 34 #[.slice A N c] w (ResS w N N (diagL N l N)) := by
  have H := Lib.hid hl
  clear hl
  have hs := sq_le h
  have hp : (N : Int) * (N : Int) = ((N * N : Nat) : Int) := by simp
  have p0 : 0 ≤ (N : Int) * (N : Int) := by omega
  have p1 : (N : Int) * (N : Int) ≤ 2304 := by omega
  have HP := Lib.hid hp
  have K0 := Lib.hid (Box3.new w 40 (.int .i64 0) (.int .i64 0) (.slice none 0 0))
  clear hp
  go_enter Try.func34, Try.ntmps34
  go_wp2_with fail
  with_reducible refine (zero_impl _ _ (N * N) _ p0 (by omega) HP.out).mono ?_
  rintro e w2 ⟨g, rfl, hblk, hg, hg2, hb⟩
  have B0 := Lib.hid (K0.out.below hb (by simp))
  have F0 := Lib.hid ((Free.new w 40 #[.int .i64 0, .int .i64 0, .slice none 0 0]).below hb (by simp))
  have HB := Lib.hid (on1 _ hb)
  have z2 : w.heap.size < w2.heap.size := by have := hb.size; simp at this; omega
  have gz : w.heap.size < g := by simp at hg; omega
  have HO := Lib.hid (Own.of_blk (lo := g) (hi := g + 1) (n := N * N) hblk (Nat.le_refl _) (by omega) (by simp) (by unfold maxLen; omega))
  clear hb hblk hg K0
  have C2 := Lib.hid (Box3.new w2 40 (.int .i64 N) (.int .i64 N) (.slice (some ⟨g, 0, none⟩) (N * N) (N * N)))
  have G2 := Lib.hid (al1 w2 (Obj.cells #[.int .i64 N, .int .i64 N, .slice (some ⟨g, 0, none⟩) (N * N) (N * N)] 40))
  go_wp2
  go_loopw [14] (fun i wr => ∃ k : Nat, k ≤ N ∧ i = .int .i64 k ∧ Own wr g (g + 1) (some ⟨g, 0, none⟩) (N * N) (N * N) (diagL N l k) ∧ Kept g (g + 1) (w2.alloc (Obj.cells #[.int .i64 N, .int .i64 N, .slice (some ⟨g, 0, none⟩) (N * N) (N * N)] 40)) wr) (fun i _ => N - (intOf i).toNat)
  case atStart => exact ⟨0, Nat.zero_le _, rfl, HO.out.below G2.out (by omega), Kept.refl _ _ _⟩
  case round =>
    obtain ⟨k, hk, rfl, hown, hkept⟩ := hrel
    have HW := Lib.hid hown
    have HK := Lib.hid hkept
    clear hown hkept
    by_cases hlt : k < N
    · have DB := Lib.hid ((HB.out.trans (G2.out.mono (by omega))).trans (HK.out.below (by omega) (by simp; omega)))
      obtain ⟨bz, offz, z, rfl, _, hzz, hcz⟩ := (H.out.below DB.out).at_z hlt
      have t0 : (0 : Int) ≤ (k : Int) := by omega
      have t1 : (k : Int) < (N : Int) := by omega
      have HZ := Lib.hid hzz
      clear hzz
      have hd := diag_lt hlt
      have hkN : (k : Int) * (N : Int) = ((k * N : Nat) : Int) := by simp
      have a0 : 0 ≤ (k : Int) * (N : Int) := by omega
      have a1 : (k : Int) * (N : Int) ≤ 2304 := by omega
      have HE := Lib.hid (show (k : Int) * (N : Int) + (k : Int) = ((k * N + k : Nat) : Int) by simp)
      clear hkN
      obtain ⟨c0, c1, c2⟩ := C2.out.kept HK.out (by simp) (by omega)
      have gw : g + 1 ≤ wr.heap.size := by have := HK.out.size; simp at this; omega
      go_wp2_with fail
      refine (set_impl _ _ _ _ z _ _ _ _ g (g + 1) _ _ HW.out gw (by omega) a0 a1 HE.out hd).mono ?_
      rintro e w3 ⟨rfl, hown3, hkept3⟩
      have HW3 := Lib.hid hown3
      have HK3 := Lib.hid hkept3
      clear hown3 hkept3 c0 c1 c2
      go_wp2
      go_roundw
      case rel => exact ⟨k + 1, by omega, by go_num, by rw [diagL, HZ.out]; exact HW3.out, HK.out.trans HK3.out⟩
      case measure => simp [intOf]; omega
    · obtain rfl : N = k := by omega
      obtain ⟨c0, c1, c2⟩ := C2.out.kept HK.out (by simp) (by omega)
      obtain ⟨b0, b1, b2⟩ := (B0.out.below G2.out z2).kept HK.out (by simp; omega) (by omega)
      have f0 := (F0.out.below G2.out z2).kept HK.out (by simp; omega) (by omega)
      unfold Free at f0
      go_wp2
      refine bodyPost_ret (v := .agg #[.int .i64 N, .int .i64 N, .slice (some ⟨g, 0, none⟩) (N * N) (N * N)]) (by simp [results, Try.results34, b0, b1, b2, go_sem]) rfl ⟨some ⟨g, 0, none⟩, N * N, by rw [diagL_len], ?_, ?_⟩
      · rw [diagL_len]
        have := HK.out.size
        refine ((((HW.out.far (p := ⟨w.heap.size, 0, none⟩) (by dsimp only; omega) _).far (p := ⟨w.heap.size, 1, none⟩) (by dsimp only; omega) _).far (p := ⟨w.heap.size, 2, none⟩) (by dsimp only; omega) _)).wide (by omega) ?_
        simp [World.setCell] at this ⊢
        omega
      · exact ((((HB.out.trans (G2.out.mono (by omega))).trans (HK.out.below (by omega) (by simp; omega))).setCell (Nat.le_refl _) _).setCell (Nat.le_refl _) _).setCell (Nat.le_refl _) _


end Go.Proofs.Ytgmkcmdnbfolhaa
