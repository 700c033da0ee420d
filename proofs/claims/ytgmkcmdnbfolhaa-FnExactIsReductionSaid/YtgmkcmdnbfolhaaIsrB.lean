/- Contracts of the program's functions that say whether a matrix has the form of a reduction's diagonal, and whether one matrix undoes another. No condition but those that each theorem names. -/
import Derived.Test.YtgmkcmdnbfolhaaIsrA
namespace Go.Proofs.Ytgmkcmdnbfolhaa
open Go.RowKit

set_option maxHeartbeats 4000000 in
theorem sdiag_impl (R C : Nat) (A : Option Addr) (n c : Nat) (d : List Int) (w : World) (h : Ints w w.heap.size A n d) (hn : n = R * C) (hR : R ≤ 48) (hC : C ≤ 48) (P : MOk R C d) :
    Calls Try.prog 46 #[.agg #[.int .i64 R, .int .i64 C, .slice A n c]] w (SaysB (SDiag R C d) w.heap.size w) := by
  have p1 := rc_le hR hC
  have HN := Lib.hid hn
  have HP := Lib.hid P
  have K0 := Lib.hid (Box3.new w 40 (.int .i64 R) (.int .i64 C) (.slice A n c))
  have D0 := Lib.hid (al1 w (Obj.cells #[.int .i64 R, .int .i64 C, .slice A n c] 40))
  have H := Lib.hid (h.into D0.out)
  have BW := Lib.hid (diag_within P)
  clear h hn P
  go_enter Try.func46, Try.ntmps46
  go_wp2
  obtain ⟨W0, hW0⟩ : ∃ W0, W0 = w.alloc (Obj.cells #[.int .i64 R, .int .i64 C, .slice A n c] 40) := ⟨_, rfl⟩
  have s0 : w.heap.size < W0.heap.size := by rw [hW0]; simp
  rw [← hW0] at H K0 D0
  rw [← hW0]
  clear hW0
  go_loopw [8] (fun x wr => ∃ k : Nat, k ≤ R ∧ x = .int .i64 k ∧ (∀ a b, a < k → b < C → OkAt C d a b) ∧ Below W0.heap.size W0 wr) (fun x _ => R - (intOf x).toNat)
  case atStart => exact ⟨0, Nat.zero_le _, rfl, fun a b ha => by omega, Below.refl _ _⟩
  case round =>
    obtain ⟨k, hk, rfl, hin, hbel⟩ := hrel
    have HI := Lib.hid hin
    have HL := Lib.hid hbel
    have zr : W0.heap.size ≤ wr.heap.size := hbel.size
    have K1 := Lib.hid (K0.out.below hbel s0)
    have H1 := Lib.hid (H.out.into hbel)
    have D1 := Lib.hid (D0.out.trans (hbel.mono (by omega)))
    clear hin hbel
    obtain ⟨wo, rfl⟩ : ∃ wo : World, wo = wr := ⟨_, rfl⟩
    obtain ⟨k0, k1, k2⟩ := K1.out
    by_cases hlt : k < R
    · have i1 : (k : Int) < (R : Int) := by omega
      go_wp2
      clear k0 k1 k2
      go_loopw [13] (fun x wr => ∃ l : Nat, l ≤ C ∧ x = .int .i64 l ∧ (∀ b, b < l → OkAt C d k b) ∧ Below wo.heap.size wo wr) (fun x _ => C - (intOf x).toNat)
      case atStart => exact ⟨0, Nat.zero_le _, rfl, fun b hb => by omega, Below.refl _ _⟩
      case round =>
        obtain ⟨l, hl, rfl, hin, hbel⟩ := hrel
        have HJ := Lib.hid hin
        have L5 := Lib.hid hbel
        have z5 : wo.heap.size ≤ wr.heap.size := hbel.size
        have K2 := Lib.hid (K1.out.below hbel (by omega))
        have H2 := Lib.hid (H1.out.into hbel)
        have D2 := Lib.hid (D1.out.trans (hbel.mono (by omega)))
        clear hin hbel
        by_cases hl2 : l < C
        · have j1 : (l : Int) < (C : Int) := by omega
          have hs := ij_lt hlt hl2
          have a0 : 0 ≤ (k : Int) * (C : Int) := by rw [castM]; omega
          have a1 : (k : Int) * (C : Int) ≤ 2304 := by rw [castM]; omega
          have AT := Lib.hid (at_impl R C A n c d wr H2.out (by have := HN.out; omega) k l _ a0 a1 (castI k C l) (by rw [HN.out]; exact hs))
          obtain ⟨z, hz⟩ : ∃ z, d.getD (k * C + l) 0 = z := ⟨_, rfl⟩
          rw [hz] at AT
          have HZ := Lib.hid hz
          clear hz a0 a1 hs
          obtain ⟨k0, k1, k2⟩ := K2.out
          go_wp2_with fail
          refine AT.out.mono ?_
          rintro e w6 ⟨rfl, hb⟩
          have L6 := Lib.hid (L5.out.trans (hb.mono z5))
          have D6 := Lib.hid (D2.out.trans (hb.mono (by omega)))
          clear hb k0 k1 k2
          by_cases h0 : z < 0
          · go_wp2
            go_ret
            exact SaysB.f (fun h => by have := (h.1 k l hlt hl2).1; rw [HZ.out] at this; omega) D6.out
          · by_cases hkl : k = l
            · have t1 : ((k : Int) != (l : Int)) = false := by simp; omega
              have HKL := Lib.hid hkl
              clear hkl
              go_wp2
              go_roundw
              case rel => exact ⟨l + 1, by omega, by go_num, fun b hb => (if e : b = l then (by subst e; exact ⟨by rw [HZ.out]; omega, fun h => absurd HKL.out h⟩) else HJ.out b (by omega)), L6.out⟩
              case measure => simp [intOf]; omega
            · have t1 : ((k : Int) != (l : Int)) = true := by simp; omega
              by_cases hz0 : z = 0
              · have t2 : (z != 0) = false := by simpa using hz0
                have HZ0 := Lib.hid hz0
                clear hz0
                go_wp2
                go_roundw
                case rel => exact ⟨l + 1, by omega, by go_num, fun b hb => (if e : b = l then (by subst e; exact ⟨by rw [HZ.out]; omega, fun _ => by rw [HZ.out]; exact HZ0.out⟩) else HJ.out b (by omega)), L6.out⟩
                case measure => simp [intOf]; omega
              · have t2 : (z != 0) = true := by simpa using hz0
                have HZ0 := Lib.hid hz0
                clear hz0
                go_wp2
                go_ret
                exact SaysB.f (fun h => HZ0.out (by have := (h.1 k l hlt hl2).2 hkl; rw [HZ.out] at this; exact this)) D6.out
        · have j1 : ¬ (l : Int) < (C : Int) := by omega
          obtain rfl : C = l := by omega
          go_wp2
          go_roundw
          case rel => exact ⟨k + 1, by omega, by go_num, fun a b ha hb => (if e : a = k then (by subst e; exact HJ.out b hb) else HI.out a b (by omega) hb), HL.out.trans (L5.out.mono zr)⟩
          case measure => simp [intOf]; omega
    · have i1 : ¬ (k : Int) < (R : Int) := by omega
      obtain rfl : R = k := by omega
      go_wp2_with fail
      refine (diagonal_impl R C A n c d _ H1.out HN.out hR hC).mono ?_
      rintro e w6 ⟨A6, c6, rfl, hown, hb⟩
      have L6 := Lib.hid (D1.out.trans (hb.mono (by omega)))
      have O6 := Lib.hid hown
      clear hown hb
      have DL := Lib.hid (diag_len C d (min R C))
      obtain ⟨dd, hdd⟩ : ∃ dd, diag C d (min R C) = dd := ⟨_, rfl⟩
      have HD := Lib.hid hdd
      rw [hdd] at O6 BW DL
      rw [hdd]
      clear hdd k0 k1 k2
      go_wp2_with fail
      refine (chain_impl A6 dd.length c6 dd _ O6.out.ints (by rw [DL.out]; omega) (by rw [DL.out]; exact BW.out)).mono ?_
      rintro e w7 ⟨v, rfl, hv, hb⟩
      have HV := Lib.hid hv
      have L7 := Lib.hid (L6.out.trans (hb.mono L6.out.size))
      clear hv hb
      go_wp2
      go_ret
      exact ⟨v, rfl, ⟨fun e => ⟨HI.out, by have := HV.out.1 e; rw [DL.out] at this; rw [HD.out]; exact this⟩, fun e => HV.out.2 (by have := e.2; rw [HD.out] at this; rw [DL.out]; exact this)⟩, L7.out⟩

/-- One square matrix undoes another: their product is found, and is an identity matrix. -/
def Undo (N : Nat) (zs ys : List Int) : Prop := Fits N N zs ys (N * N) ∧ pl N N zs ys (N * N) (N * N) = ones N N

set_option maxRecDepth 100000 in
set_option maxHeartbeats 4000000 in
theorem undoes_impl (N : Nat) (A1 A2 : Option Addr) (n1 c1 n2 c2 : Nat) (zs ys : List Int) (w : World) (h1 : Ints w w.heap.size A1 n1 zs) (h2 : Ints w w.heap.size A2 n2 ys)
    (m1 : n1 ≤ 1048576) (m2 : n2 ≤ 1048576) (hN : N ≤ 48) (P1 : MOk N N zs) (P2 : MOk N N ys) :
    Calls Try.prog 47 #[.agg #[.int .i64 N, .int .i64 N, .slice A1 n1 c1], .agg #[.int .i64 N, .int .i64 N, .slice A2 n2 c2]] w (SaysB (Undo N zs ys) w.heap.size w) := by
  have D0 := Lib.hid (al2 w (Obj.cells #[.int .i64 N, .int .i64 N, .slice A1 n1 c1] 40) (Obj.cells #[.int .i64 N, .int .i64 N, .slice A2 n2 c2] 40))
  have K0 := Lib.hid ((Box3.new w 40 (.int .i64 N) (.int .i64 N) (.slice A1 n1 c1)).below (al1 _ (Obj.cells #[.int .i64 N, .int .i64 N, .slice A2 n2 c2] 40)) (by simp))
  have M := Lib.hid (mul_impl_yes N N N A1 A2 n1 c1 n2 c2 zs ys _ (h1.into D0.out) (h2.into D0.out) m1 m2 hN hN hN P1 P2)
  have p1 := sq_le hN
  have PL := Lib.hid (pl_len N N zs ys (N * N) (N * N))
  have OL := Lib.hid (ones_len N N)
  clear h1 h2 P1 P2
  by_cases hF : Fits N N zs ys (N * N)
  · have HF := Lib.hid hF
    have M1 := Lib.hid (M.out.mono fun _ _ h => h.1 HF.out)
    clear hF M
    obtain ⟨pp, hpp⟩ : ∃ pp, pl N N zs ys (N * N) (N * N) = pp := ⟨_, rfl⟩
    have HPP := Lib.hid hpp
    rw [hpp] at M1 PL
    clear hpp
    go_enter Try.func47, Try.ntmps47
    go_wp2_with fail
    refine M1.out.mono ?_
    rintro e w1 ⟨A3, c3, rfl, hown, hb⟩
    have O1 := Lib.hid hown
    have D1 := Lib.hid (on2 _ _ hb)
    have z1 : w.heap.size + 1 < w1.heap.size := by have := hb.size; simp at this; omega
    have K1 := Lib.hid (K0.out.below hb (by simp <;> omega))
    clear hown hb D0 K0
    have X1 := Lib.hid (Box3.new w1 40 (.int .i64 N) (.int .i64 N) (.slice A3 pp.length c3))
    obtain ⟨k0, k1, k2⟩ := K1.out.below (al1 w1 (Obj.cells #[.int .i64 N, .int .i64 N, .slice A3 pp.length c3] 40)) (by omega)
    go_wp2_with fail
    refine (ident_impl_yes N _ hN).mono ?_
    rintro e w2 ⟨A4, c4, rfl, hown, hb⟩
    have O2 := Lib.hid hown
    have X2 := Lib.hid (X1.out.below hb (by simp))
    have I2 := Lib.hid ((O1.out.ints.into (al1 w1 (Obj.cells #[.int .i64 N, .int .i64 N, .slice A3 pp.length c3] 40))).into hb)
    have D2 := Lib.hid (D1.out.trans ((on1 _ hb).mono D1.out.size))
    have z2 : w1.heap.size < w2.heap.size := by have := hb.size; simp at this; omega
    clear hown hb k0 k1 k2 O1 X1
    obtain ⟨k0, k1, k2⟩ := X2.out.below (al1 w2 (Obj.cells #[.int .i64 N, .int .i64 N, .slice A4 (ones N N).length c4] 40)) z2
    go_wp2_with fail
    refine (equals_impl N N N N A3 A4 pp.length (ones N N).length c3 c4 _ _ pp (ones N N) _ (I2.out.into (al1 w2 _)) (O2.out.ints.into (al1 w2 _)) (by rw [PL.out]; omega) (by rw [OL.out]; omega) (Nat.le_refl _) (Nat.le_refl _)).mono ?_
    rintro e w3 ⟨v, rfl, hv, hb⟩
    have HV := Lib.hid (show v = true ↔ pp = ones N N from ⟨fun e => (hv.1 e).2.2, fun e => hv.2 ⟨rfl, rfl, e⟩⟩)
    have D3 := Lib.hid (D2.out.trans ((on1 _ hb).mono D2.out.size))
    clear hv hb
    go_wp2
    go_ret
    exact ⟨v, rfl, ⟨fun e => ⟨HF.out, by rw [HPP.out]; exact HV.out.1 e⟩, fun e => HV.out.2 (by rw [← HPP.out]; exact e.2)⟩, D3.out⟩
  · have HF := Lib.hid hF
    have M1 := Lib.hid (M.out.mono fun _ _ h => h.2 HF.out)
    clear hF M
    go_enter Try.func47, Try.ntmps47
    go_wp2_with fail
    refine M1.out.mono ?_
    rintro e w1 ⟨A3, c3, rfl, hown, hb⟩
    have D1 := Lib.hid (on2 _ _ hb)
    clear hown hb D0 K0
    go_wp2
    go_ret
    exact SaysB.f (fun h => HF.out h.1) (D1.out.alloc D1.out.size _)
end Go.Proofs.Ytgmkcmdnbfolhaa
