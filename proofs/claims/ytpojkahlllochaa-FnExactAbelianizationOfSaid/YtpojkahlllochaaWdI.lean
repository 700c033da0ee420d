/- AbelianizationOf, the program's and the specification's. No condition but those that each theorem names. -/
import Derived.Test.YtpojkahlllochaaWdG
import Derived.Test.YtpojkahlllochaaCokA
import Derived.Test.YtpojkahlllochaaInvD
import Derived.Deep.RegionHeld3
namespace Go.Proofs.Ytpojkahlllochaa
open Go.RowKit

set_option maxHeartbeats 1000000 in
theorem count_spec (A : Option Addr) (n c : Nat) (zs : List Int) (x : Int) (B : Nat) (w : World) (h : Ints w B A n zs) (hn : n ≤ 1048576) :
    Calls Try.prog 72 #[.slice A n c, .int .i64 x] w fun e w' => e = .returned (.int .i64 (zs.count x : Int)) ∧ w = w' := by
  have hl := Lib.hid h.1
  have H := Lib.hid h
  clear h
  go_enter Try.func72, Try.ntmps72
  go_wp2
  go_loop [6, 5] (fun i m => ∃ k : Nat, k ≤ n ∧ i = .int .i64 k ∧ m = .int .i64 ((zs.take k).count x : Int)) (fun i _ => n - (intOf i).toNat)
  case atStart => exact ⟨0, Nat.zero_le _, rfl, by simp⟩
  case round =>
    obtain ⟨k, hk, rfl, rfl⟩ := hrel
    have hcl : (zs.take k).count x ≤ k := Nat.le_trans List.count_le_length (List.length_take_le _ _)
    by_cases hlt : k < n
    · have NX := Lib.hid (show (zs.take (k + 1)).count x = (zs.take k).count x + (if zs.getD k 0 = x then 1 else 0) from by
        rw [Wd.take_snoc zs (by rw [hl.out]; exact hlt), List.count_append, List.count_singleton]
        by_cases e : zs.getD k 0 = x
        · simp
        · have e' : (zs.getD k 0 == x) = false := by simpa using e
          rw [e', if_neg e]; simp)
      obtain ⟨q, hq⟩ : ∃ q, (zs.take k).count x = q := ⟨_, rfl⟩
      obtain ⟨b, off, z, rfl, hb, hz, hc⟩ := H.out.at_z hlt
      rw [hq] at NX hcl ⊢
      rw [hz] at NX
      clear hq hz
      by_cases e : z = x
      · have te : (z == x) = true := by simpa using e
        have N2 := Lib.hid (show (zs.take (k + 1)).count x = q + 1 from by rw [NX.out, if_pos e])
        clear e
        go_wp2
        go_round
        case rel => exact ⟨k + 1, by omega, by go_num, by rw [N2.out]; go_num⟩
        case measure => simp [intOf]; omega
      · have te : (z == x) = false := by simpa using e
        have N2 := Lib.hid (show (zs.take (k + 1)).count x = q from by rw [NX.out, if_neg e]; rfl)
        clear e
        go_wp2
        go_round
        case rel => exact ⟨k + 1, by omega, by go_num, by rw [N2.out]⟩
        case measure => simp [intOf]; omega
    · obtain rfl : k = n := by omega
      have TA := Lib.hid (show (zs.take k).count x = zs.count x from by rw [List.take_of_length_le (Nat.le_of_eq hl.out)])
      rw [TA.out]
      go_wp2
      go_ret
      exact ⟨rfl, rfl⟩

/-- What both CokernelOf hand back for one matrix. -/
def CokBoth (R C : Nat) (d : List Int) (r : Int) (l : List Int) (code : Int) : Prop :=
  l.length ≤ 48 ∧ (∀ (W : World) (A : Option Addr) (c : Nat), Ints W W.heap.size A (R * C) d → Calls Try.prog 73 #[.agg #[.int .i64 R, .int .i64 C, .slice A (R * C) c]] W (ResGC W r l code)) ∧
  (∀ (W : World) (A : Option Addr) (c : Nat), Ints W W.heap.size A (R * C) d → Calls Try.prog 74 #[.agg #[.int .i64 R, .int .i64 C, .slice A (R * C) c]] W (ResGC W r l code))
theorem cok_both (R C : Nat) (d : List Int) (hR : R ≤ 48) (hC : C ≤ 48) (hP : MOk R C d) : ∃ r l code, CokBoth R C d r l code := by
  obtain ⟨o, ho, hg⟩ := Sm.outcome_end (R := R) (C := C) (min R C) 0 (start R C d) (by omega) (by omega) (start_good hP) (start_ck _ _ _)
  have ho2 := ho.two (min R C) 0 (start R C d) o (by omega) (by omega) (start_good hP) (start_ck _ _ _)
  cases o with
  | none => exact ⟨0, [], 3, by simp, fun W A c h => cok_spec_err _ _ A (R * C) c [] 3 W (inv_spec_yes R C A (R * C) c d none _ (h.into (al2 _ _ _)) hR hC hP ho hg) (by decide), fun W A c h => cok_impl_err _ _ A (R * C) c [] 3 W (inv_impl_yes R C A (R * C) c d none _ (h.into (al2 _ _ _)) hR hC hP ho2 hg) (by decide)⟩
  | some s =>
    have hl : (nz (diag C s.d (min R C))).length ≤ 48 := by have := nz_diag_len C s.d (min R C); omega
    have ht := tors_len (nz (diag C s.d (min R C)))
    exact ⟨_, tors (nz (diag C s.d (min R C))), 0, by omega, fun W A c h => cok_spec_ok _ _ A (R * C) c (nz (diag C s.d (min R C))) W (inv_spec_yes R C A (R * C) c d (some s) _ (h.into (al2 _ _ _)) hR hC hP ho hg) hl (by omega) (by omega), fun W A c h => cok_impl_ok _ _ A (R * C) c (nz (diag C s.d (min R C))) W (inv_impl_yes R C A (R * C) c d (some s) _ (h.into (al2 _ _ _)) hR hC hP ho2 hg) hl (by omega) (by omega)⟩


namespace Wd
/-- The entries of the rows ahead of g, and of row g ahead of column j. -/
def fil (rs : List Rw) (g j : Nat) (a b : Nat) : Int := if a < g ∨ (a = g ∧ b < j) then expo rs a b else 0
theorem fil_step {R C : Nat} {rs : List Rw} {d : List Int} {g j : Nat} (h : IsM R C d (fil rs g j)) (hg : g < R) (hj : j < C) : IsM R C (d.set (g * C + j) (expo rs g j)) (fil rs g (j + 1)) := (h.set_ hg hj _).congr fun a b _ _ => by
  unfold fil
  by_cases e : a = g ∧ b = j
  · rw [if_pos e, if_pos (by omega), e.1, e.2]
  · rw [if_neg e]
    by_cases e2 : a < g ∨ (a = g ∧ b < j)
    · rw [if_pos e2, if_pos (by omega)]
    · rw [if_neg e2, if_neg (by omega)]
theorem fil_next {R C : Nat} {rs : List Rw} {d : List Int} {g j : Nat} (h : IsM R C d (fil rs g j)) (hj : C ≤ j) : IsM R C d (fil rs (g + 1) 0) := h.congr fun a b _ hb => by
  unfold fil
  by_cases e2 : a < g ∨ (a = g ∧ b < j)
  · rw [if_pos e2, if_pos (by omega)]
  · rw [if_neg e2, if_neg (by omega)]
theorem fil_all {R C : Nat} {rs : List Rw} {d : List Int} {g : Nat} (h : IsM R C d (fil rs g 0)) (hg : R ≤ g) : IsM R C d (expo rs) := h.congr fun a b ha _ => by
  unfold fil
  rw [if_pos (by omega)]
theorem fil_zero (rs : List Rw) (a b : Nat) : fil rs 0 0 a b = 0 := by
  unfold fil
  rw [if_neg (by omega)]
theorem expo_ok {R C : Nat} {rs : List Rw} {d : List Int} (h : IsM R C d (expo rs)) (hR : R ≤ 48) (hC : C ≤ 48) (hz : ∀ j, (rs.getD j nilRw).zs.length ≤ 120) : MOk R C d := by
  refine ⟨by omega, by omega, by omega, by omega, by rw [h.1]; exact (castM R C).symm, fun k hk => ?_⟩
  rw [h.1] at hk
  have hC0 : 0 < C := by
    rcases Nat.eq_zero_or_pos C with e | e
    · rw [e] at hk; omega
    · exact e
  have ha : k / C < R := Nat.div_lt_of_lt_mul (by rw [Nat.mul_comm]; exact hk)
  have hb : k % C < C := Nat.mod_lt _ hC0
  have hkk : k / C * C + k % C = k := by rw [Nat.mul_comm]; exact Nat.div_add_mod k C
  have e1 := h.2 _ _ ha hb
  rw [hkk] at e1
  rw [e1]
  have := cnt_le (rs.getD (k % C) nilRw).zs ((k / C : Nat) + 1 : Int)
  have := hz (k % C)
  unfold expo
  omega
end Wd

set_option maxRecDepth 100000 in
set_option maxHeartbeats 16000000 in
theorem abel_spec (R : Nat) (A : Option Addr) (c : Nat) (rs : List Rw) (d0 : List Int) (r : Int) (l : List Int) (code : Int) (w : World) (h : RdS w w.heap.size A rs) (hp : Wd.isP R (vals rs) = true) (hd : Wd.IsM R rs.length d0 (Wd.expo rs)) (hk : CokBoth R rs.length d0 r l code) :
    Calls Try.prog 36 #[.agg #[.int .i64 R, .slice A rs.length c]] w (ResLC w r l code) := by
  obtain ⟨_, r24, r48, hrow⟩ := Wd.isP_iff.1 hp
  rw [vals_len] at r48
  have Z120 := Lib.hid (show ∀ j, (rs.getD j nilRw).zs.length ≤ 120 from fun j => by
    rcases Nat.lt_or_ge j rs.length with hj | hj
    · exact (Wd.isW_fit (Wd.isR_iff.1 (hrow _ (vals_mem hj))).1).1
    · rw [List.getD_eq_getElem?_getD, List.getElem?_eq_none hj]; exact Nat.zero_le _)
  have RW := Lib.hid (show ∀ q ∈ rs, q.zs.length ≤ 1048576 from fun q hq => by
    have := (Wd.isW_fit (Wd.isR_iff.1 (hrow _ (List.mem_map_of_mem hq))).1).1
    omega)
  have H := Lib.hid h
  have HD := Lib.hid hd
  have HK := Lib.hid hk
  have HP := Lib.hid hp
  have IP := Lib.hid (fun (W : World) (hb : Below w.heap.size w W) => isPres_spec R A c rs W (h.into hb) (by omega) RW.out)
  obtain ⟨C, hC⟩ : ∃ C, rs.length = C := ⟨_, rfl⟩
  have HN := Lib.hid hC
  rw [hC] at r48 HD HK IP ⊢
  rw [hp] at IP
  have rc : R * C ≤ 1152 := by have := Nat.mul_le_mul (show R ≤ 24 by omega) r48; omega
  have K0 := Lib.hid ((BoxG.new w 31 (.int .i64 R) (.slice A C c)).below (al1 _ (Obj.cells #[.int .i64 0, .slice none 0 0] 48)) (by simp))
  have K1 := Lib.hid (BoxG.new (w.alloc (Obj.cells #[.int .i64 R, .slice A C c] 31)) 48 (.int .i64 0) (.slice none 0 0))
  have F1 := Lib.hid (Free.new (w.alloc (Obj.cells #[.int .i64 R, .slice A C c] 31)) 48 #[.int .i64 0, .slice none 0 0])
  have D0 := Lib.hid (al2 w (Obj.cells #[.int .i64 R, .slice A C c] 31) (Obj.cells #[.int .i64 0, .slice none 0 0] 48))
  clear h hp hrow hC hd hk
  go_enter Try.func36, Try.ntmps36
  go_wp2_with fail
  refine (IP.out _ D0.out).mono ?_
  rintro e w1 ⟨rfl, hb⟩
  simp only [World.size_alloc] at K1 F1
  have z1 : w.heap.size + 2 ≤ w1.heap.size := by have := hb.size; simp at this; omega
  have X0 := Lib.hid (K0.out.below hb (by simp; omega))
  have X1 := Lib.hid (K1.out.below hb (by simp))
  have Y1 := Lib.hid (F1.out.below hb (by simp))
  have D1 := Lib.hid (on2 _ _ hb)
  clear K0 K1 F1 D0 hb
  obtain ⟨x0, x1⟩ := X0.out
  go_wp2_with fail
  refine (zero_spec R C (R * C) _ (by rw [castM]; omega) (by rw [castM]; omega) (castM _ _)).mono ?_
  rintro e w2 ⟨g, rfl, hblk, hg1, hg2, hb⟩
  have z2 : w1.heap.size ≤ w2.heap.size := hb.size
  have X0' := Lib.hid (X0.out.below hb (by omega))
  have X1' := Lib.hid (X1.out.below hb (by omega))
  have Y1' := Lib.hid (Y1.out.below hb (by omega))
  have D2 := Lib.hid (D1.out.trans (hb.mono (by omega)))
  have BK := Lib.hid hblk
  clear X0 X1 Y1 D1 x0 x1 hblk hb
  go_wp2
  obtain ⟨V, hV⟩ : ∃ V, V = w2.alloc (Obj.cells #[.int .i64 R, .int .i64 C, .slice (some ⟨g, 0, none⟩) (R * C) (R * C)] 77) := ⟨_, rfl⟩
  have sV : w2.heap.size + 1 = V.heap.size := by rw [hV]; simp
  have P0 := Lib.hid (show BoxG V w.heap.size (.int .i64 R) (.slice A C c) from by rw [hV]; exact X0'.out.below (al1 _ _) (by omega))
  have P1 := Lib.hid (show BoxG V (w.heap.size + 1) (.int .i64 0) (.slice none 0 0) from by rw [hV]; exact X1'.out.below (al1 _ _) (by omega))
  have G1 := Lib.hid (show Free V (w.heap.size + 1) from by rw [hV]; exact Y1'.out.below (al1 _ _) (by omega))
  have P2 := Lib.hid (show Box3 V w2.heap.size (.int .i64 R) (.int .i64 C) (.slice (some ⟨g, 0, none⟩) (R * C) (R * C)) from by rw [hV]; exact Box3.new _ _ _ _ _)
  have DV := Lib.hid (show Below w.heap.size w V from by rw [hV]; exact D2.out.alloc (by omega) _)
  have OV := Lib.hid (show Own V g (g + 1) (some ⟨g, 0, none⟩) (R * C) (R * C) (List.replicate (R * C) 0) from by rw [hV]; exact (Own.of_blk BK.out (Nat.le_refl _) (Nat.lt_succ_self _) (by simp) (by unfold maxLen; omega)).below (al1 _ _) (by omega))
  rw [← hV]
  clear hV X0' X1' Y1' D2 BK
  go_loopw [6] (fun i W => ∃ (a : Nat) (d : List Int), a ≤ R ∧ i = .int .i64 a ∧ Own W g (g + 1) (some ⟨g, 0, none⟩) (R * C) (R * C) d ∧ Wd.IsM R C d (Wd.fil rs a 0) ∧ Kept g (g + 1) V W) (fun i _ => R - (intOf i).toNat)
  case atStart => exact ⟨0, _, Nat.zero_le _, rfl, OV.out, (Wd.IsM.zeros R C).congr (fun a b _ _ => (Wd.fil_zero rs a b).symm), Kept.refl _ _ _⟩
  case round =>
    obtain ⟨a, d, ha, rfl, hown, hism, hkept⟩ := hrel
    have O := Lib.hid hown
    have I := Lib.hid hism
    have KP := Lib.hid hkept
    have zV : V.heap.size ≤ wr.heap.size := hkept.size
    clear hown hism hkept OV
    obtain ⟨p0, p1⟩ := P0.out.kept KP.out (by omega) (by omega)
    by_cases hlt : a < R
    · go_wp2
      clear p0 p1
      go_loopw [7] (fun j W => ∃ (b : Nat) (d : List Int), b ≤ C ∧ j = .int .i64 b ∧ Own W g (g + 1) (some ⟨g, 0, none⟩) (R * C) (R * C) d ∧ Wd.IsM R C d (Wd.fil rs a b) ∧ Kept g (g + 1) V W) (fun j _ => C - (intOf j).toNat)
      case atStart => exact ⟨0, d, Nat.zero_le _, rfl, O.out, I.out, KP.out⟩
      case round =>
        obtain ⟨b, d, hb, rfl, hown, hism, hkept⟩ := hrel
        have O2 := Lib.hid hown
        have I2 := Lib.hid hism
        have KQ := Lib.hid hkept
        have zW : V.heap.size ≤ wr.heap.size := hkept.size
        clear hown hism hkept
        by_cases hlk : b < C
        · obtain ⟨bb, off, Aj, cj, zj, rfl, hbb, hr, hcV, hjc, hjm, hj⟩ := ((H.out.below DV.out).below (KQ.out.below (B := w.heap.size) (by omega) (by omega))).at_ (j := b) (by rw [HN.out]; exact hlk)
          have ZL := Z120.out b
          rw [hr] at ZL
          dsimp only at ZL
          have CT := Lib.hid (fun (x : Int) (W : World) (hI : Ints W w.heap.size Aj zj.length zj) => count_spec Aj zj.length cj zj x _ W hI (by omega))
          have HJ := Lib.hid (show Ints wr.drew w.heap.size Aj zj.length zj from hj)
          have FIN := Lib.hid (Wd.fil_step I2.out hlt hlk)
          have hik := Wd.spot_lt hlt hlk
          have EX := Lib.hid (show Wd.expo rs a b = (zj.count ((a : Int) + 1) : Int) - (zj.count (-(a : Int) - 1) : Int) from by
            unfold Wd.expo Wd.cnt
            rw [hr, show -((a : Int) + 1) = -(a : Int) - 1 by omega])
          obtain ⟨c1, hc1⟩ : ∃ c1, zj.count ((a : Int) + 1) = c1 := ⟨_, rfl⟩
          obtain ⟨c2, hc2⟩ : ∃ c2, zj.count (-(a : Int) - 1) = c2 := ⟨_, rfl⟩
          have l1 : c1 ≤ 120 := by rw [← hc1]; exact Nat.le_trans List.count_le_length ZL
          have l2 : c2 ≤ 120 := by rw [← hc2]; exact Nat.le_trans List.count_le_length ZL
          have CT1 := Lib.hid (fun W hI => CT.out ((a : Int) + 1) W hI)
          have CT2 := Lib.hid (fun W hI => CT.out (-(a : Int) - 1) W hI)
          rw [hc1] at CT1 EX
          rw [hc2] at CT2 EX
          have hcell := (O2.out.at_ (k := a * C + b) hik)
          obtain ⟨g', z, e', _, _, _, hcz, hfz⟩ := hcell
          cases e'
          have w1' : IntKind.i64.wrap ((a : Int) * (C : Int)) = (a : Int) * (C : Int) := by rw [castM]; exact IntWalk.i64_in _ (by omega)
          obtain ⟨e0, he0⟩ : ∃ e0, a * C + b = e0 := ⟨_, rfl⟩
          have w2' : IntKind.i64.wrap ((a : Int) * (C : Int) + (b : Int)) = (e0 : Int) := by rw [castI, he0]; exact IntWalk.i64_in _ (by omega)
          have w7' : IntKind.i64.wrap (e0 : Int) = (e0 : Int) := IntWalk.i64_in _ (by omega)
          have EQ0 := Lib.hid he0
          rw [he0] at hcz hfz
          have j0 : (0 : Int) ≤ (e0 : Int) := by omega
          have j1 : (e0 : Int) < ((R * C : Nat) : Int) := by omega
          have j2 : (e0 : Int) < (R : Int) * (C : Int) := by rw [castM]; exact j1
          have j3 : e0 < R * C := by omega
          have w3' : IntKind.i64.wrap ((a : Int) + 1) = (a : Int) + 1 := IntWalk.i64_in _ (by omega)
          have w4' : IntKind.i64.wrap (-(a : Int)) = -(a : Int) := IntWalk.i64_in _ (by omega)
          have w5' : IntKind.i64.wrap (-(a : Int) - 1) = -(a : Int) - 1 := IntWalk.i64_in _ (by omega)
          have w6' : IntKind.i64.wrap ((c1 : Int) - (c2 : Int)) = (c1 : Int) - (c2 : Int) := IntWalk.i64_in _ (by omega)
          have X2 := Lib.hid (P2.out.kept KQ.out (by omega) (by omega))
          have X0 := Lib.hid (P0.out.kept KQ.out (by omega) (by omega))
          have bbg : ¬ bb = g := by omega
          have bbg' : ¬ g = bb := by omega
          have wg : ¬ w.heap.size = g := by omega
          have wg' : ¬ g = w.heap.size := by omega
          have mg1 : ¬ w2.heap.size = g := by omega
          have mg2 : ¬ g = w2.heap.size := by omega
          have b0 : (0 : Int) ≤ (b : Int) := by omega
          have b1 : (b : Int) < (C : Int) := by omega
          clear he0 hr hj hc1 hc2 CT
          obtain ⟨l0, l1', l2'⟩ := X2.out
          obtain ⟨p0, p1⟩ := X0.out
          go_wp2_with fail
          go_region_held3 (fun W => (W.cell? ⟨w2.heap.size, 2, none⟩ = some (.slice (some ⟨g, 0, none⟩) (R * C) (R * C))) ∧ (W.cell? ⟨w.heap.size, 1, none⟩ = some (.slice (some ⟨bb, off, none⟩) C c)) ∧ (W.cell? ⟨bb, off + b, none⟩ = some (.slice Aj zj.length cj))) (go_keep)
            (first
              | (go_at_call 72; (with_reducible refine (CT1.out wr.drew HJ.out).mono ?_); rintro e w5 ⟨rfl, rfl⟩)
              | (go_at_call 72; (with_reducible refine (CT2.out wr.drew HJ.out).mono ?_); rintro e w5 ⟨rfl, rfl⟩))
          all_goals
            go_wp2
            go_roundw
            case rel => exact ⟨b + 1, _, by omega, by go_num, by rw [EX.out, EQ0.out]; exact O2.out.set_ _ _, FIN.out, (Kept.set_ (p := ⟨g, e0, none⟩) KQ.out (Nat.le_refl _) (Nat.lt_succ_self _) _).drewN 1⟩
            case measure => simp [intOf]; omega
        · obtain rfl : b = C := by omega
          have NX := Lib.hid (Wd.fil_next I2.out (Nat.le_refl _))
          go_wp2
          go_roundw
          case rel => exact ⟨a + 1, d, by omega, by go_num, O2.out, NX.out, KQ.out⟩
          case measure => simp [intOf]; omega
    · obtain rfl : a = R := by omega
      have ALL := Lib.hid (Wd.fil_all I.out (Nat.le_refl _))
      have EQ := Lib.hid (ALL.out.unique HD.out)
      have OD := Lib.hid (show Own wr g (g + 1) (some ⟨g, 0, none⟩) (a * C) (a * C) d0 from by rw [← EQ.out]; exact O.out)
      obtain ⟨l0, l1, l2⟩ := P2.out.kept KP.out (by omega) (by omega)
      have PX := Lib.hid (P1.out.kept KP.out (by omega) (by omega))
      have GX := Lib.hid (G1.out.kept KP.out (by omega) (by omega))
      have DX := Lib.hid (DV.out.trans (KP.out.below (B := w.heap.size) (by omega) (by omega)))
      go_wp2_with fail
      refine (HK.out.2.1 _ _ _ (OD.out.ints.more (by omega))).mono ?_
      rintro e w5 ⟨R5, t5, rfl, hown, hb⟩
      have z5 : wr.heap.size ≤ w5.heap.size := hb.size
      obtain ⟨n0, n1⟩ := PX.out.below hb (by omega)
      have f0 := GX.out.below hb (by omega)
      have D5 := Lib.hid (DX.out.trans (hb.mono (by omega)))
      have O5 := Lib.hid hown
      unfold Free at f0
      clear hown hb l0 l1 l2
      go_wp2
      refine bodyPost_ret (v := .tuple #[.agg #[.int .i64 r, .slice R5 l.length t5], .int .i64 code]) (by simp [results, Try.results36, n0, n1, go_sem]) rfl ?_
      exact ResLC.fin (lo := wr.heap.size) (hi := w5.heap.size) O5.out.mine D5.out (by omega) (.inl (by omega)) (by omega) (Nat.le_refl _)

set_option maxRecDepth 100000 in
set_option maxHeartbeats 8000000 in
theorem abel_impl (R : Nat) (A : Option Addr) (c : Nat) (rs : List Rw) (d0 : List Int) (r : Int) (l : List Int) (code : Int) (w : World) (h : RdS w w.heap.size A rs) (hp : Wd.isP R (vals rs) = true) (hd : Wd.IsM R rs.length d0 (Wd.expo rs)) (hk : CokBoth R rs.length d0 r l code) :
    Calls Try.prog 37 #[.agg #[.int .i64 R, .slice A rs.length c]] w (ResLC w r l code) := by
  obtain ⟨_, r24, r48, hrow⟩ := Wd.isP_iff.1 hp
  rw [vals_len] at r48
  have RW := Lib.hid (show ∀ q ∈ rs, q.zs.length ≤ 1048576 from fun q hq => by
    have := (Wd.isW_fit (Wd.isR_iff.1 (hrow _ (List.mem_map_of_mem hq))).1).1
    omega)
  have HD := Lib.hid hd
  have HK := Lib.hid hk
  have IP := Lib.hid (fun (W : World) (hb : Below w.heap.size w W) => isPres_impl R A c rs W (h.into hb) (by omega) RW.out)
  have SI := Lib.hid (fun (W : World) (hb : Below w.heap.size w W) => sums_impl R A c rs W (h.into hb) hp)
  obtain ⟨C, hC⟩ : ∃ C, rs.length = C := ⟨_, rfl⟩
  rw [hC] at r48 HD HK IP SI ⊢
  rw [hp] at IP
  have K0 := Lib.hid ((BoxG.new w 31 (.int .i64 R) (.slice A C c)).below (al1 _ (Obj.cells #[.int .i64 0, .slice none 0 0] 48)) (by simp))
  have K1 := Lib.hid (BoxG.new (w.alloc (Obj.cells #[.int .i64 R, .slice A C c] 31)) 48 (.int .i64 0) (.slice none 0 0))
  have F1 := Lib.hid (Free.new (w.alloc (Obj.cells #[.int .i64 R, .slice A C c] 31)) 48 #[.int .i64 0, .slice none 0 0])
  have D0 := Lib.hid (al2 w (Obj.cells #[.int .i64 R, .slice A C c] 31) (Obj.cells #[.int .i64 0, .slice none 0 0] 48))
  clear h hp hrow hC hd hk
  go_enter Try.func37, Try.ntmps37
  go_wp2_with fail
  refine (IP.out _ D0.out).mono ?_
  rintro e w1 ⟨rfl, hb⟩
  simp only [World.size_alloc] at K1 F1
  have z1 : w.heap.size + 2 ≤ w1.heap.size := by have := hb.size; simp at this; omega
  have X0 := Lib.hid (K0.out.below hb (by simp; omega))
  have X1 := Lib.hid (K1.out.below hb (by simp))
  have Y1 := Lib.hid (F1.out.below hb (by simp))
  have D1 := Lib.hid (on2 _ _ hb)
  clear K0 K1 F1 D0 hb
  obtain ⟨x0, x1⟩ := X0.out
  go_wp2_with fail
  refine (SI.out _ D1.out).mono ?_
  rintro e w2 ⟨g, d, rfl, hown, hism, hb⟩
  have z2 : w1.heap.size ≤ w2.heap.size := hb.size
  have EQ := Lib.hid (hism.unique HD.out)
  have OD := Lib.hid (show Own w2 w1.heap.size w2.heap.size (some ⟨g, 0, none⟩) (R * C) (R * C) d0 from by rw [← EQ.out]; exact hown)
  have X1' := Lib.hid (X1.out.below hb (by omega))
  have Y1' := Lib.hid (Y1.out.below hb (by omega))
  have D2 := Lib.hid (D1.out.trans (hb.mono (by omega)))
  clear X0 X1 Y1 D1 x0 x1 hown hism hb
  go_wp2_with fail
  refine (HK.out.2.2 _ _ _ OD.out.ints).mono ?_
  rintro e w5 ⟨R5, t5, rfl, hown, hb⟩
  have z5 : w2.heap.size ≤ w5.heap.size := hb.size
  obtain ⟨n0, n1⟩ := X1'.out.below hb (by omega)
  have f0 := Y1'.out.below hb (by omega)
  have D5 := Lib.hid (D2.out.trans (hb.mono (by omega)))
  have O5 := Lib.hid hown
  unfold Free at f0
  clear hown hb
  go_wp2
  refine bodyPost_ret (v := .tuple #[.agg #[.int .i64 r, .slice R5 l.length t5], .int .i64 code]) (by simp [results, Try.results37, n0, n1, go_sem]) rfl ?_
  exact ResLC.fin (lo := w2.heap.size) (hi := w5.heap.size) O5.out.mine D5.out (by omega) (.inl (by omega)) (by omega) (Nat.le_refl _)

set_option maxHeartbeats 4000000 in
theorem abel_no_impl (r : Int) (A : Option Addr) (c : Nat) (rs : List Rw) (w : World) (h : RdS w w.heap.size A rs) (hn : rs.length ≤ 1048576) (hrow : ∀ q ∈ rs, q.zs.length ≤ 1048576) (hp : Wd.isP r (vals rs) = false) :
    Calls Try.prog 37 #[.agg #[.int .i64 r, .slice A rs.length c]] w (ResLC w 0 [] 1) := by
  have D0 := Lib.hid (al2 w (Obj.cells #[.int .i64 r, .slice A rs.length c] 31) (Obj.cells #[.int .i64 0, .slice none 0 0] 48))
  have IP := Lib.hid (isPres_impl r A c rs _ (h.into D0.out) hn hrow)
  rw [hp] at IP
  have K1 := Lib.hid (BoxG.new (w.alloc (Obj.cells #[.int .i64 r, .slice A rs.length c] 31)) 48 (.int .i64 0) (.slice none 0 0))
  have F1 := Lib.hid (Free.new (w.alloc (Obj.cells #[.int .i64 r, .slice A rs.length c] 31)) 48 #[.int .i64 0, .slice none 0 0])
  simp only [World.size_alloc] at K1 F1
  clear h hrow hp
  go_enter Try.func37, Try.ntmps37
  go_wp2_with fail
  refine IP.out.mono ?_
  rintro e w1 ⟨rfl, hb⟩
  obtain ⟨n0, n1⟩ := K1.out.below hb (by simp)
  have f0 := F1.out.below hb (by simp)
  have z1 : w.heap.size + 2 ≤ w1.heap.size := by have := hb.size; simp at this; omega
  have D1 := Lib.hid (on2 _ _ hb)
  unfold Free at f0
  clear hb
  go_wp2
  refine bodyPost_ret (v := .tuple #[.agg #[.int .i64 0, .slice none 0 0], .int .i64 1]) (by simp [results, Try.results37, n0, n1, go_sem]) rfl ?_
  exact ResLC.fin (zs := []) (lo := w1.heap.size) (hi := w1.heap.size) (Mine.none_ _ _ _ _) D1.out (by omega) (.inl (by omega)) (by omega) (Nat.le_refl _)

set_option maxHeartbeats 4000000 in
theorem abel_no_spec (r : Int) (A : Option Addr) (c : Nat) (rs : List Rw) (w : World) (h : RdS w w.heap.size A rs) (hn : rs.length ≤ 1048576) (hrow : ∀ q ∈ rs, q.zs.length ≤ 1048576) (hp : Wd.isP r (vals rs) = false) :
    Calls Try.prog 36 #[.agg #[.int .i64 r, .slice A rs.length c]] w (ResLC w 0 [] 1) := by
  have D0 := Lib.hid (al2 w (Obj.cells #[.int .i64 r, .slice A rs.length c] 31) (Obj.cells #[.int .i64 0, .slice none 0 0] 48))
  have IP := Lib.hid (isPres_spec r A c rs _ (h.into D0.out) hn hrow)
  rw [hp] at IP
  have K1 := Lib.hid (BoxG.new (w.alloc (Obj.cells #[.int .i64 r, .slice A rs.length c] 31)) 48 (.int .i64 0) (.slice none 0 0))
  have F1 := Lib.hid (Free.new (w.alloc (Obj.cells #[.int .i64 r, .slice A rs.length c] 31)) 48 #[.int .i64 0, .slice none 0 0])
  simp only [World.size_alloc] at K1 F1
  clear h hrow hp
  go_enter Try.func36, Try.ntmps36
  go_wp2_with fail
  refine IP.out.mono ?_
  rintro e w1 ⟨rfl, hb⟩
  obtain ⟨n0, n1⟩ := K1.out.below hb (by simp)
  have f0 := F1.out.below hb (by simp)
  have z1 : w.heap.size + 2 ≤ w1.heap.size := by have := hb.size; simp at this; omega
  have D1 := Lib.hid (on2 _ _ hb)
  unfold Free at f0
  clear hb
  go_wp2
  refine bodyPost_ret (v := .tuple #[.agg #[.int .i64 0, .slice none 0 0], .int .i64 1]) (by simp [results, Try.results36, n0, n1, go_sem]) rfl ?_
  exact ResLC.fin (zs := []) (lo := w1.heap.size) (hi := w1.heap.size) (Mine.none_ _ _ _ _) D1.out (by omega) (.inl (by omega)) (by omega) (Nat.le_refl _)

end Go.Proofs.Ytpojkahlllochaa
