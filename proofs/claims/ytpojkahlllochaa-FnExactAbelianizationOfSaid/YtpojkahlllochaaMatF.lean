/- Contracts of the functions that make matrices of zeros, store one entry, and make identity matrices, the program's and the specification's. No condition but those that each theorem names. -/
import Derived.Test.YtpojkahlllochaaMatE
namespace Go.Proofs.Ytpojkahlllochaa
open Go.RowKit

/-- A matrix in new memory, with a second result beside it. -/
def ResM (w : World) (r q : Int) (zs : List Int) (x : Value) (e : Ending) (w' : World) : Prop :=
  ∃ A c, e = .returned (.tuple #[.agg #[.int .i64 r, .int .i64 q, .slice A zs.length c], x]) ∧ Own w' w.heap.size w'.heap.size A zs.length c zs ∧ Below w.heap.size w w'
/-- A matrix of N zeros in new memory: its block is g. -/
def ZeroM (w : World) (r q : Int) (N : Nat) (e : Ending) (w' : World) : Prop :=
  ∃ g, e = .returned (.agg #[.int .i64 r, .int .i64 q, .slice (some ⟨g, 0, none⟩) N N]) ∧ Blk w' g (List.replicate N 0) ∧ w.heap.size ≤ g ∧ g < w'.heap.size ∧ Below w.heap.size w w'

set_option maxHeartbeats 400000 in
theorem zero_impl (r q : Int) (N : Nat) (w : World) (h0 : 0 ≤ r * q) (h1 : r * q ≤ 1048576) (he : r * q = N) :
    Calls Try.prog 94 #[.int .i64 r, .int .i64 q] w (ZeroM w r q N) := by
  have hmk := fun W => run_make_ints N (by omega) W
  rw [← he] at hmk
  clear he
  go_enter Try.func94, Try.ntmps94
  go_wp2
  refine bodyPost_ret (v := .agg #[.int .i64 r, .int .i64 q, .slice (some ⟨w.heap.size + 1, 0, none⟩) N N]) (by simp [results, Try.results94, go_sem]) rfl ⟨_, rfl, ?_, by omega, by simp, al2 _ _ _⟩
  have h := Blk.zeros (w.alloc (.cells #[.int .i64 r, .int .i64 q, .slice (some ⟨w.heap.size + 1, 0, none⟩) N N] 77)) N
  simpa using h

set_option maxHeartbeats 400000 in
theorem zero_spec (r q : Int) (N : Nat) (w : World) (h0 : 0 ≤ r * q) (h1 : r * q ≤ 1048576) (he : r * q = N) :
    Calls Try.prog 71 #[.int .i64 r, .int .i64 q] w (ZeroM w r q N) := by
  have hmk := fun W => run_make_ints N (by omega) W
  rw [← he] at hmk
  clear he
  go_enter Try.func71, Try.ntmps71
  go_wp2
  refine bodyPost_ret (v := .agg #[.int .i64 r, .int .i64 q, .slice (some ⟨w.heap.size + 1, 0, none⟩) N N]) (by simp [results, Try.results71, go_sem]) rfl ⟨_, rfl, ?_, by omega, by simp, al2 _ _ _⟩
  have h := Blk.zeros (w.alloc (.cells #[.int .i64 r, .int .i64 q, .slice (some ⟨w.heap.size + 1, 0, none⟩) N N] 77)) N
  simpa using h

set_option maxHeartbeats 400000 in
theorem set_impl (r q i j u : Int) (A : Option Addr) (n c : Nat) (zs : List Int) (lo hi : Nat) (k : Nat) (w : World) (h : Own w lo hi A n c zs) (hhi : hi ≤ w.heap.size) (hn : n ≤ 1048576) (h0 : 0 ≤ i * q) (h1 : i * q ≤ 2304) (he : i * q + j = k) (hk : k < n) :
    Calls Try.prog 96 #[.agg #[.int .i64 r, .int .i64 q, .slice A n c], .int .i64 i, .int .i64 j, .int .i64 u] w fun e w' => e = .returned (.tuple #[]) ∧ Own w' lo hi A n c (zs.set k u) ∧ Kept lo hi w w' := by
  obtain ⟨g, z, rfl, hlo, hlt, hz, hc, hf⟩ := h.at_ hk
  have hc' : w.cell? ⟨g, (i * q + j).toNat, none⟩ = some (.int .i64 z) := by rw [he]; exact hc
  have hf' : w.frozen? ⟨g, (i * q + j).toNat, none⟩ = false := by rw [he]; exact hf
  have b0 : 0 ≤ i * q + j := by omega
  have b1 : i * q + j < (n : Int) := by omega
  have hg : g < w.heap.size := by omega
  have H := Lib.hid h
  have HE := Lib.hid (show (i * q + j).toNat = k by omega)
  clear hc hf he h hz hk
  go_enter Try.func96, Try.ntmps96
  go_wp2
  go_end0
  refine ⟨rfl, ?_, ?_⟩
  · rw [HE.out]
    exact (H.out.set_ k u).al (by simpa [World.setCell] using hhi) (al1 _ _)
  · exact (Kept.set_ (p := ⟨g, _, none⟩) (Kept.refl _ _ _) hlo hlt _).alloc _

/-- The entries of an identity matrix behind the first i stores. -/
def ones (N : Nat) : Nat → List Int
  | 0 => List.replicate (N * N) 0
  | i + 1 => (ones N i).set (i * N + i) 1
theorem ones_len (N i : Nat) : (ones N i).length = N * N := by
  induction i with
  | zero => simp [ones]
  | succ i ih => simp [ones, ih]
theorem sq_le {N : Nat} (h : N ≤ 48) : N * N ≤ 2304 := Nat.mul_le_mul h h
theorem diag_lt {N i : Nat} (h : i < N) : i * N + i < N * N := by
  have h1 : (i + 1) * N ≤ N * N := Nat.mul_le_mul_right N h
  rw [Nat.add_mul] at h1
  omega

set_option maxHeartbeats 1000000 in
theorem ident_impl_no (n : Int) (w : World) (h : ¬ (0 ≤ n ∧ n ≤ 48)) : Calls Try.prog 125 #[.int .i64 n] w (ResM w 0 0 [] (.bool false)) := by
  have H := Lib.hid h
  clear h
  go_enter Try.func125, Try.ntmps125
  go_wp2_with fail
  with_reducible refine (side_no _ _ H.out).mono ?_
  rintro e w1 ⟨rfl, rfl⟩
  go_wp2
  refine bodyPost_ret (v := .tuple #[.agg #[.int .i64 0, .int .i64 0, .slice none 0 0], .bool false]) (by simp [results, Try.results125, go_sem]) rfl ⟨_, _, rfl, Own.none_ _ _ _, al1 _ _⟩

set_option maxHeartbeats 1000000 in
theorem ident_impl_yes (N : Nat) (w : World) (h : N ≤ 48) : Calls Try.prog 125 #[.int .i64 (N : Int)] w (ResM w N N (ones N N) (.bool true)) := by
  have hs := sq_le h
  have hp : (N : Int) * (N : Int) = ((N * N : Nat) : Int) := by simp
  have p0 : 0 ≤ (N : Int) * (N : Int) := by omega
  have p1 : (N : Int) * (N : Int) ≤ 2304 := by omega
  have HP := Lib.hid hp
  have K0 := Lib.hid (Box3.new w 77 (.int .i64 0) (.int .i64 0) (.slice none 0 0))
  clear hp
  go_enter Try.func125, Try.ntmps125
  go_wp2_with fail
  with_reducible refine (side_yes _ _ (by omega) (by omega)).mono ?_
  rintro e w1 ⟨rfl, rfl⟩
  go_wp2_with fail
  with_reducible refine (zero_impl _ _ (N * N) _ p0 (by omega) HP.out).mono ?_
  rintro e w2 ⟨g, rfl, hblk, hg, hg2, hb⟩
  have B0 := Lib.hid (K0.out.below hb (by simp))
  have F0 := Lib.hid ((Free.new w 77 #[.int .i64 0, .int .i64 0, .slice none 0 0]).below hb (by simp))
  have HB := Lib.hid (on1 _ hb)
  have z2 : w.heap.size < w2.heap.size := by have := hb.size; simp at this; omega
  have gz : w.heap.size < g := by simp at hg; omega
  have HO := Lib.hid (Own.of_blk (lo := g) (hi := g + 1) (n := N * N) hblk (Nat.le_refl _) (by omega) (by simp) (by unfold maxLen; omega))
  clear hb hblk hg K0
  have C2 := Lib.hid (Box3.new w2 77 (.int .i64 N) (.int .i64 N) (.slice (some ⟨g, 0, none⟩) (N * N) (N * N)))
  have G2 := Lib.hid (al1 w2 (Obj.cells #[.int .i64 N, .int .i64 N, .slice (some ⟨g, 0, none⟩) (N * N) (N * N)] 77))
  go_wp2
  go_loopw [14] (fun i wr => ∃ k : Nat, k ≤ N ∧ i = .int .i64 k ∧ Own wr g (g + 1) (some ⟨g, 0, none⟩) (N * N) (N * N) (ones N k) ∧ Kept g (g + 1) (w2.alloc (Obj.cells #[.int .i64 N, .int .i64 N, .slice (some ⟨g, 0, none⟩) (N * N) (N * N)] 77)) wr) (fun i _ => N - (intOf i).toNat)
  case atStart => exact ⟨0, Nat.zero_le _, rfl, HO.out.below G2.out (by omega), Kept.refl _ _ _⟩
  case round =>
    obtain ⟨k, hk, rfl, hown, hkept⟩ := hrel
    have HW := Lib.hid hown
    have HK := Lib.hid hkept
    clear hown hkept
    by_cases hlt : k < N
    · have hd := diag_lt hlt
      have hkN : (k : Int) * (N : Int) = ((k * N : Nat) : Int) := by simp
      have a0 : 0 ≤ (k : Int) * (N : Int) := by omega
      have a1 : (k : Int) * (N : Int) ≤ 2304 := by omega
      have HE := Lib.hid (show (k : Int) * (N : Int) + (k : Int) = ((k * N + k : Nat) : Int) by simp)
      clear hkN
      obtain ⟨c0, c1, c2⟩ := C2.out.kept HK.out (by simp) (by omega)
      have gw : g + 1 ≤ wr.heap.size := by have := HK.out.size; simp at this; omega
      go_wp2_with fail
      refine (set_impl _ _ _ _ 1 _ _ _ _ g (g + 1) _ _ HW.out gw (by omega) a0 a1 HE.out hd).mono ?_
      rintro e w3 ⟨rfl, hown3, hkept3⟩
      have HW3 := Lib.hid hown3
      have HK3 := Lib.hid hkept3
      clear hown3 hkept3 c0 c1 c2
      go_wp2
      go_roundw
      case rel => exact ⟨k + 1, by omega, by go_num, HW3.out, HK.out.trans HK3.out⟩
      case measure => simp [intOf]; omega
    · obtain rfl : k = N := by omega
      obtain ⟨c0, c1, c2⟩ := C2.out.kept HK.out (by simp) (by omega)
      obtain ⟨b0, b1, b2⟩ := (B0.out.below G2.out z2).kept HK.out (by simp; omega) (by omega)
      have f0 := (F0.out.below G2.out z2).kept HK.out (by simp; omega) (by omega)
      unfold Free at f0
      go_wp2
      refine bodyPost_ret (v := .tuple #[.agg #[.int .i64 k, .int .i64 k, .slice (some ⟨g, 0, none⟩) (k * k) (k * k)], .bool true]) (by simp [results, Try.results125, b0, b1, b2, go_sem]) rfl ⟨some ⟨g, 0, none⟩, k * k, by rw [ones_len], ?_, ?_⟩
      · rw [ones_len]
        have := HK.out.size
        refine ((((HW.out.far (p := ⟨w.heap.size, 0, none⟩) (by dsimp only; omega) _).far (p := ⟨w.heap.size, 1, none⟩) (by dsimp only; omega) _).far (p := ⟨w.heap.size, 2, none⟩) (by dsimp only; omega) _)).wide (by omega) ?_
        simp [World.setCell] at this ⊢
        omega
      · exact ((((HB.out.trans (G2.out.mono (by omega))).trans (HK.out.below (by omega) (by simp; omega))).setCell (Nat.le_refl _) _).setCell (Nat.le_refl _) _).setCell (Nat.le_refl _) _

/-- A matrix in new memory. -/
def ResS (w : World) (r q : Int) (zs : List Int) (e : Ending) (w' : World) : Prop :=
  ∃ A c, e = .returned (.agg #[.int .i64 r, .int .i64 q, .slice A zs.length c]) ∧ Own w' w.heap.size w'.heap.size A zs.length c zs ∧ Below w.heap.size w w'

set_option maxHeartbeats 1000000 in
theorem one_spec (N : Nat) (w : World) (h : N ≤ 48) : Calls Try.prog 120 #[.int .i64 (N : Int)] w (ResS w N N (ones N N)) := by
  have hs := sq_le h
  have hp : (N : Int) * (N : Int) = ((N * N : Nat) : Int) := by simp
  have p0 : 0 ≤ (N : Int) * (N : Int) := by omega
  have p1 : (N : Int) * (N : Int) ≤ 2304 := by omega
  have HP := Lib.hid hp
  have K0 := Lib.hid (Box3.new w 77 (.int .i64 0) (.int .i64 0) (.slice none 0 0))
  clear hp
  go_enter Try.func120, Try.ntmps120
  go_wp2_with fail
  with_reducible refine (zero_spec _ _ (N * N) _ p0 (by omega) HP.out).mono ?_
  rintro e w2 ⟨g, rfl, hblk, hg, hg2, hb⟩
  have B0 := Lib.hid (K0.out.below hb (by simp))
  have F0 := Lib.hid ((Free.new w 77 #[.int .i64 0, .int .i64 0, .slice none 0 0]).below hb (by simp))
  have HB := Lib.hid (on1 _ hb)
  have z2 : w.heap.size < w2.heap.size := by have := hb.size; simp at this; omega
  have gz : w.heap.size < g := by simp at hg; omega
  have HO := Lib.hid (Own.of_blk (lo := g) (hi := g + 1) (n := N * N) hblk (Nat.le_refl _) (by omega) (by simp) (by unfold maxLen; omega))
  clear hb hblk hg K0
  have C2 := Lib.hid (Box3.new w2 77 (.int .i64 N) (.int .i64 N) (.slice (some ⟨g, 0, none⟩) (N * N) (N * N)))
  have G2 := Lib.hid (al1 w2 (Obj.cells #[.int .i64 N, .int .i64 N, .slice (some ⟨g, 0, none⟩) (N * N) (N * N)] 77))
  go_wp2
  go_loopw [4] (fun i wr => ∃ k : Nat, k ≤ N ∧ i = .int .i64 k ∧ Own wr g (g + 1) (some ⟨g, 0, none⟩) (N * N) (N * N) (ones N k) ∧ Kept g (g + 1) (w2.alloc (Obj.cells #[.int .i64 N, .int .i64 N, .slice (some ⟨g, 0, none⟩) (N * N) (N * N)] 77)) wr) (fun i _ => N - (intOf i).toNat)
  case atStart => exact ⟨0, Nat.zero_le _, rfl, HO.out.below G2.out (by omega), Kept.refl _ _ _⟩
  case round =>
    obtain ⟨k, hk, rfl, hown, hkept⟩ := hrel
    have HW := Lib.hid hown
    have HK := Lib.hid hkept
    clear hown hkept
    by_cases hlt : k < N
    · have hd := diag_lt hlt
      have hkN : (k : Int) * (N : Int) = ((k * N : Nat) : Int) := by simp
      have a0 : 0 ≤ (k : Int) * (N : Int) := by omega
      have a1 : (k : Int) * (N : Int) ≤ 2304 := by omega
      have HE := Lib.hid (show (k : Int) * (N : Int) + (k : Int) = ((k * N + k : Nat) : Int) by simp)
      clear hkN
      obtain ⟨c0, c1, c2⟩ := C2.out.kept HK.out (by simp) (by omega)
      obtain ⟨g', z, eg, hlo, hhi, hz, hc, hf⟩ := HW.out.at_ hd
      cases eg
      have e0 : 0 ≤ (k : Int) * (N : Int) + (k : Int) := by omega
      have e1 : (k : Int) * (N : Int) + (k : Int) < (N : Int) * (N : Int) := by rw [HE.out, HP.out]; omega
      clear hz
      go_wp2
      go_roundw
      case rel => exact ⟨k + 1, by omega, by go_num, HW.out.set_ _ _, HK.out.set_ hlo hhi _⟩
      case measure => simp [intOf]; omega
    · obtain rfl : k = N := by omega
      obtain ⟨c0, c1, c2⟩ := C2.out.kept HK.out (by simp) (by omega)
      obtain ⟨b0, b1, b2⟩ := (B0.out.below G2.out z2).kept HK.out (by simp; omega) (by omega)
      have f0 := (F0.out.below G2.out z2).kept HK.out (by simp; omega) (by omega)
      unfold Free at f0
      go_wp2
      refine bodyPost_ret (v := .agg #[.int .i64 k, .int .i64 k, .slice (some ⟨g, 0, none⟩) (k * k) (k * k)]) (by simp [results, Try.results120, b0, b1, b2, go_sem]) rfl ⟨some ⟨g, 0, none⟩, k * k, by rw [ones_len], ?_, ?_⟩
      · rw [ones_len]
        have := HK.out.size
        refine ((((HW.out.far (p := ⟨w.heap.size, 0, none⟩) (by dsimp only; omega) _).far (p := ⟨w.heap.size, 1, none⟩) (by dsimp only; omega) _).far (p := ⟨w.heap.size, 2, none⟩) (by dsimp only; omega) _)).wide (by omega) ?_
        simp [World.setCell] at this ⊢
        omega
      · exact ((((HB.out.trans (G2.out.mono (by omega))).trans (HK.out.below (by omega) (by simp; omega))).setCell (Nat.le_refl _) _).setCell (Nat.le_refl _) _).setCell (Nat.le_refl _) _

end Go.Proofs.Ytpojkahlllochaa
