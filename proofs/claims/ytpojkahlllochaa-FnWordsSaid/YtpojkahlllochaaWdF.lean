/- The draw of a list that is mostly a word. No condition but those that each theorem names. -/
import Derived.Test.YtpojkahlllochaaWdE
namespace Go.Proofs.Ytpojkahlllochaa
open Go.RowKit

/-- A list that was drawn. -/
def DrawnW (w : World) (e : Ending) (w' : World) : Prop := ∃ R t m zs, e = .returned (.slice R m t) ∧ Mine w' w.heap.size w'.heap.size R m zs ∧ m ≤ 121 ∧ Wd.Sm zs ∧ Below w.heap.size w w'
def DrawV (w : World) (g : Nat) (e : Ending) (w' : World) : Prop := ∃ R t m zs, e = .returned (.slice R m t) ∧ Mine w' w.heap.size w'.heap.size R m zs ∧ m ≤ 121 ∧ Wd.Sm zs ∧ Kept g (g + 1) w w'
theorem Wd.sm_snoc {zs : List Int} {z : Int} (h : Sm zs) (hz : -1000 ≤ z ∧ z ≤ 1000) : Sm (zs ++ [z]) := h.app fun x hx => by simp at hx; rw [hx]; exact hz
theorem Wd.sm_set {zs : List Int} {z : Int} (h : Sm zs) (hz : -1000 ≤ z ∧ z ≤ 1000) (j : Nat) : Sm (zs.set j z) := fun x hx => by
  rcases List.mem_or_eq_of_mem_set hx with hx | rfl
  · exact h x hx
  · exact hz
theorem Wd.sm_zeros (n : Nat) : Sm (List.replicate n 0) := fun x hx => by rw [List.eq_of_mem_replicate hx]; omega
theorem Wd.lit_sm : Sm [0, 24, 25, -24, -25] := fun x hx => by simp at hx; omega

set_option maxRecDepth 100000 in
set_option maxHeartbeats 16000000 in
theorem drawAnyW_spec (g : Nat) (A : Option Addr) (n c : Nat) (bs : List Int) (a x : Int) (w : World) (h : Bys w g A n bs) (hn : n ≤ 1048576) (hs : Src w g A n c a x) :
    Calls Try.prog 52 #[.pointer (some ⟨g, 0, none⟩)] w (DrawV w g) := by
  have gl := hs.lt
  have BY := Lib.hid (fun (W : World) (hk : Kept g (g + 1) w W) => h.kept hk (Nat.le_refl _) (by omega))
  have S0 := Lib.hid hs
  have K0 := Lib.hid (Kept.refl g (g + 1) w)
  clear h hs
  go_enter Try.func52, Try.ntmps52
  go_wp2_with fail
  refine (drawWord_spec g A n c bs a x 3 8 _ (BY.out _ K0.out) hn S0.out (by omega) (by omega) (by omega) (by omega)).mono ?_
  rintro e w1 ⟨R, t, m, zs, a1, x1, rfl, ho, hm, hbd, hs1, hk1⟩
  have O := Lib.hid ho
  have SM := Lib.hid (show Wd.Sm zs from fun y hy => by have := hbd y hy; omega)
  have hm8 : m ≤ 8 := by omega
  have z1 : w.heap.size ≤ w1.heap.size := hk1.size
  have K1 := Lib.hid hk1
  clear ho hm hbd hk1 S0 K0
  go_wp2_with fail
  refine (next_spec g A n c bs 20 a1 x1 _ (BY.out _ K1.out) hn hs1 (by omega) (by omega)).mono ?_
  rintro e w2 ⟨v, a2, x2, rfl, v0, v1, _, hs2, hk2⟩
  have K2 := Lib.hid (K1.out.trans hk2)
  have z2 : w1.heap.size ≤ w2.heap.size := hk2.size
  have O2 := Lib.hid ((O.out.kept hk2 (Nat.le_refl _) (.inr (by omega))).wide (Nat.le_refl _) z2)
  have S2 := Lib.hid hs2
  clear hs1 hs2 hk2 K1 O v1
  by_cases hv0 : v = 0
  · have tv : (v == (0 : Int)) = true := by simpa using hv0
    clear hv0
    go_wp2_with fail
    refine (next_spec g A n c bs 5 a2 x2 _ (BY.out _ (K2.out.alloc _)) hn (S2.out.below (al1 w2 _) S2.out.lt) (by omega) (by omega)).mono ?_
    rintro e w3 ⟨y, a3, x3, rfl, y0, y1, _, hs3, hk3⟩
    have y5 := y1 (by omega)
    obtain ⟨k, rfl⟩ : ∃ k : Nat, y = k := ⟨y.toNat, by omega⟩
    have K3 := Lib.hid ((K2.out.alloc _).trans hk3)
    have z3 : w2.heap.size + 1 ≤ w3.heap.size := by have := hk3.size; simpa using this
    have O3 := Lib.hid (((O2.out.below (al1 w2 _) (Nat.le_refl _)).kept hk3 (by simp) (.inr (by omega))).wide (Nat.le_refl _) (show w2.heap.size ≤ w3.heap.size by omega))
    have gl2 := S2.out.lt
    have BK := Lib.hid ((Blk.new w2 [0, 24, 25, -24, -25]))
    have hcell := (World.cell?_of_block (a := ⟨w2.heap.size, k, none⟩) (hk3.block w2.heap.size (by simp) (by omega))).trans (BK.out.cell (i := k) (by simp; omega))
    obtain ⟨z, hz⟩ : ∃ z, [(0 : Int), 24, 25, -24, -25].getD k 0 = z := ⟨_, rfl⟩
    have hzb := Wd.lit_sm.at_ (k := k) (by simp; omega)
    rw [hz] at hcell hzb
    have k0 : (0 : Int) ≤ (k : Int) := by omega
    have k5 : (k : Int) < 5 := by omega
    have k5' : k < 5 := by omega
    clear y1 hs3 hk3 hz BK
    go_wp2_with (at_builtin; refine Wd.push_int rfl _ _ rfl w.heap.size w3.heap.size t w3.heap.size m R _ z rfl (by exact O3.out.below (al1 w3 _) (Nat.le_refl _)) rfl (by exact Wd.alloc_first _ _ _ _ rfl) (by simp; omega) (by omega) ?_; intro A7 c7 w7 h5 h6; have O7 := Lib.hid h5; have K7 := Lib.hid (Wd.kept_new (K3.out.alloc _) h6 (Nat.le_refl _)); clear h5 h6)
    go_ret
    exact ⟨A7, c7, m + 1, _, rfl, O7.out.mine, by omega, Wd.sm_snoc SM.out hzb, K7.out⟩
  · have tv : (v == (0 : Int)) = false := by simpa using hv0
    by_cases hv1 : v = 1
    · have tv1 : (v == (1 : Int)) = true := by simpa using hv1
      clear hv0 hv1
      go_wp2_with fail
      refine (next_spec g A n c bs 3 a2 x2 _ (BY.out _ K2.out) hn S2.out (by omega) (by omega)).mono ?_
      rintro e w3 ⟨y, a3, x3, rfl, y0, y1, _, hs3, hk3⟩
      have y3 := y1 (by omega)
      obtain ⟨k, hk⟩ : ∃ k : Nat, 119 + y = k := ⟨(119 + y).toNat, by omega⟩
      have K3 := Lib.hid (K2.out.trans hk3)
      have z3 : w2.heap.size ≤ w3.heap.size := hk3.size
      have wy : IntKind.i64.wrap (119 + y) = 119 + y := IntWalk.i64_in _ (by omega)
      have k121 : k ≤ 121 := by omega
      have hmk := run_make_ints k (by omega)
      rw [← hk] at hmk
      have HK := Lib.hid hk
      have BK := Lib.hid (Blk.zeros w3 k)
      have KA := Lib.hid (K3.out.alloc (.cells (Array.replicate k (Value.int .i64 0)) 2))
      clear y1 hs3 hk3 hk
      go_wp2
      clear hmk wy
      go_loopw [4] (fun i W => ∃ (j : Nat) (l : List Int), j ≤ k ∧ i = .int .i64 j ∧ l.length = k ∧ Wd.Sm l ∧ Blk W w3.heap.size l ∧ Kept g (g + 1) w W) (fun i _ => k - (intOf i).toNat)
      case atStart => exact ⟨0, _, Nat.zero_le _, rfl, List.length_replicate, Wd.sm_zeros k, BK.out, KA.out⟩
      case round =>
        obtain ⟨j, l, hj, rfl, hll, hsm, hblk, hkk⟩ := hrel
        have B := Lib.hid hblk
        have S := Lib.hid hsm
        have K := Lib.hid hkk
        have HL := Lib.hid hll
        clear hblk hsm hkk hll BK KA
        have j0 : (0 : Int) ≤ (j : Int) := by omega
        by_cases hlt : j < k
        · have hcell := B.out.cell (i := j) (by rw [HL.out]; exact hlt)
          have hfr := B.out.frozen j
          have j1 : (j : Int) < (k : Int) := by omega
          go_wp2
          go_roundw
          case rel => exact ⟨j + 1, l.set j 1, by omega, by go_num, by rw [List.length_set]; exact HL.out, Wd.sm_set S.out (by omega) j, B.out.set_ _ _, Wd.kept_new K.out (Kept.set_ (Kept.refl w3.heap.size (w3.heap.size + 1) _) (Nat.le_refl _) (Nat.lt_succ_self _) _) (by omega)⟩
          case measure => simp [intOf]; omega
        · obtain rfl : k = j := by omega
          go_wp2
          go_ret
          exact ⟨_, k, k, l, rfl, Mine.of_blk B.out (by omega) B.out.lt HL.out, k121, S.out, K.out⟩
    · have tv1 : (v == (1 : Int)) = false := by simpa using hv1
      clear hv0 hv1
      go_wp2
      go_ret
      exact ⟨R, t, m, zs, rfl, O2.out.mine, by omega, SM.out, K2.out⟩

set_option maxHeartbeats 1000000 in
theorem drawFree_spec (A : Option Addr) (n c : Nat) (bs : List Int) (w : World) (h : Bys w w.heap.size A n bs) (hn : n ≤ 1048576) :
    Calls Try.prog 14 #[.slice A n c] w (DrawnW w) := by
  have H := Lib.hid h
  clear h
  go_enter Try.func14, Try.ntmps14
  go_wp2_with fail
  refine (from_spec A n c bs _ H.out hn).mono ?_
  rintro e w1 ⟨g, x, rfl, hs, h1, h2, hb⟩
  have S := Lib.hid hs
  have D := Lib.hid hb
  clear hs hb
  go_wp2_with fail
  refine (drawAnyW_spec g A n c bs 0 x _ ((H.out.below D.out).more h1) hn S.out).mono ?_
  rintro e w2 ⟨R, t, m, zs, rfl, hm, h121, hsm, hk⟩
  have M := Lib.hid hm
  have SM := Lib.hid hsm
  have K := Lib.hid hk
  clear hm hsm hk
  go_wp2
  go_ret
  exact ⟨R, t, m, zs, rfl, M.out.wide D.out.size (Nat.le_refl _), h121, SM.out, D.out.trans (K.out.below h1 D.out.size)⟩

end Go.Proofs.Ytpojkahlllochaa
