/- The specification's invariant factors. No condition but those that each theorem names. -/
import Derived.Test.YtpojkahlllochaaInvC
import Derived.Test.YtpojkahlllochaaTsG
namespace Go.Proofs.Ytpojkahlllochaa
open Go.RowKit

/-- A list in new memory, with a bool. -/
def ResF (w : World) (l : List Int) (b : Bool) (e : Ending) (w' : World) : Prop := ∃ A c, e = .returned (.tuple #[.slice A l.length c, .bool b]) ∧ Own w' w.heap.size w'.heap.size A l.length c l ∧ Below w.heap.size w w'
/-- What the specification's factors are. -/
def facOut (R C : Nat) : Option Sm.St → List Int × Bool
  | some s => (nz (diag C s.d (min R C)), true)
  | none => ([], false)
theorem nz_diag (C : Nat) (d : List Int) (k : Nat) : nz (diag C d (k + 1)) = nz (diag C d k) ++ (if d.getD (k * C + k) 0 = 0 then [] else [d.getD (k * C + k) 0]) := by
  unfold nz
  rw [diag, List.filter_append]
  obtain ⟨x, hx⟩ : ∃ x, d.getD (k * C + k) 0 = x := ⟨_, rfl⟩
  rw [hx]
  congr 1
  by_cases e : x = 0
  · rw [if_pos e]; simp [e]
  · rw [if_neg e]; simp [e]
theorem nz_diag_len (C : Nat) (d : List Int) (k : Nat) : (nz (diag C d k)).length ≤ k := by have := nz_len (diag C d k); rw [diag_len] at this; exact this

set_option maxRecDepth 100000 in
set_option maxHeartbeats 8000000 in
theorem factors_spec (R C : Nat) (A : Option Addr) (n c : Nat) (zs : List Int) (o : Option Sm.St) (w : World) (h : Ints w w.heap.size A n zs) (hn : n = R * C) (hR : R ≤ 48) (hC : C ≤ 48) (hP : MOk R C zs) (ho : Sm.Outcome R C (min R C) 0 (start R C zs) o) (hg : ∀ t, o = some t → Sm.Good R C t) :
    Calls Try.prog 102 #[.agg #[.int .i64 R, .int .i64 C, .slice A n c]] w (ResF w (facOut R C o).1 (facOut R C o).2) := by
  have p1 := rc_le hR hC
  have HS := Lib.hid (reduce_spec R C A n c zs o (w.alloc (Obj.cells #[.int .i64 R, .int .i64 C, .slice A n c] 77)) (h.into (al1 w (Obj.cells #[.int .i64 R, .int .i64 C, .slice A n c] 77))) hn hR hC hP ho)
  obtain ⟨i0, hi0, hz0, hz1, hz2⟩ := info_parts info2
  have HI := Lib.hid (And.intro hi0 (And.intro hz0 (And.intro hz1 hz2)))
  have K0 := Lib.hid (Box3.new w 77 (.int .i64 R) (.int .i64 C) (.slice A n c))
  have HN := Lib.hid hn
  clear h hP ho hn hi0 hz0 hz1 hz2
  rcases Nat.lt_or_ge C R with hcr | hcr
  all_goals
    obtain ⟨M, hM⟩ : ∃ M, min R C = M := ⟨_, rfl⟩
    have hMR : M ≤ R := by omega
    have hMC : M ≤ C := by omega
    first
      | (have hMe : M = C := by omega)
      | (have hMe : M = R := by omega)
    have HMM := Lib.hid hM
    have HM := Lib.hid hMe
    clear hM hMe
    go_enter Try.func102, Try.ntmps102
    go_wp2_with fail
    refine HS.out.mono ?_
    rintro e V ⟨gw, rfl, hread, hb⟩
    have s0 : w.heap.size < V.heap.size := by have := hb.size; simp at this; omega
    have K1 := Lib.hid (K0.out.below hb (by simp))
    have D1 := Lib.hid (on1 _ hb)
    have OE := Lib.hid (own_empty V)
    have AE := Lib.hid (al1 V (Obj.cells #[] 2))
    clear hb
    cases o with
    | none =>
      obtain ⟨hgw, hc15⟩ := hread
      obtain ⟨k0, k1, k2⟩ := K1.out
      go_wp2
      obtain ⟨V0, hV0⟩ : ∃ V0, V0 = V.alloc (Obj.cells #[] 2) := ⟨_, rfl⟩
      have K2 := Lib.hid (K1.out.below AE.out s0)
      have hc2 : V0.cell? ⟨gw, 15, none⟩ = some (.bool true) := by rw [hV0]; exact (AE.out.cell (p := ⟨gw, 15, none⟩) hgw).trans hc15
      rw [← hV0] at OE AE K2
      rw [← hV0]
      clear hV0 k0 k1 k2 hc15 K1
      obtain ⟨k0, k1, k2⟩ := K2.out
      go_loopw [6, 5, 7] (fun x y _ wr => x = .int .i64 0 ∧ y = .slice (some ⟨V.heap.size, 0, none⟩) 0 0 ∧ wr = V0) (fun _ _ _ _ => 0)
      case atStart => exact ⟨rfl, rfl, rfl⟩
      case round =>
        obtain ⟨rfl, rfl, rfl⟩ := hrel
        have hr := HM.out
        by_cases hlt : 0 < M
        · have t0 : (0 : Int) < (M : Int) := by omega
          rw [hr] at t0
          clear hr
          go_wp2
          go_quiet (fail)
          all_goals
            go_wp2
            go_ret2
            exact ⟨_, 0, rfl, (OE.out.drewN _).wide (by omega) (Nat.le_refl _), (D1.out.trans (AE.out.mono (by omega))).trans (Go.Joins.below_draws _ _ _)⟩
        · have t0 : ¬ (0 : Int) < (M : Int) := by omega
          rw [hr] at t0
          clear hr
          go_wp2
          go_quiet (fail)
          all_goals
            go_wp2
            go_ret2
            exact ⟨_, 0, rfl, (OE.out.drewN _).wide (by omega) (Nat.le_refl _), (D1.out.trans (AE.out.mono (by omega))).trans (Go.Joins.below_draws _ _ _)⟩
    | some s =>
      have G := hg s rfl
      have ND := Lib.hid G.nd
      obtain ⟨Ad, Al, Ali, Ar, Ari, cd, cl, cli, cr, cri, hrow, hred⟩ := hread
      have XR := Lib.hid hrow
      have ID := Lib.hid hred.ints.2.2.1
      have gwl := hrow.lt
      clear hrow hred G
      obtain ⟨k0, k1, k2⟩ := K1.out
      go_wp2
      show _
      obtain ⟨V0, hV0⟩ : ∃ V0, V0 = V.alloc (Obj.cells #[] 2) := ⟨_, rfl⟩
      rw [← hV0] at OE AE
      rw [← hV0]
      clear hV0 k0 k1 k2
      go_loopw [6, 5, 7] (fun x y _ wr => ∃ (k : Nat) (A2 : Option Addr) (c2 : Nat), k ≤ M ∧ x = .int .i64 k ∧ y = .slice A2 (nz (diag C s.d k)).length c2 ∧ Own wr V.heap.size wr.heap.size A2 (nz (diag C s.d k)).length c2 (nz (diag C s.d k)) ∧ Below V.heap.size V wr) (fun x _ _ _ => M - (intOf x).toNat)
      case atStart => exact ⟨0, _, 0, Nat.zero_le _, rfl, rfl, OE.out, AE.out⟩
      case round =>
        obtain ⟨k, A2, c2, hk, rfl, rfl, hown, hbel⟩ := hrel
        have HO := Lib.hid hown
        have HL := Lib.hid hbel
        have sz : V.heap.size ≤ wr.heap.size := hbel.size
        have hlen := nz_diag_len C s.d k
        have Q := Lib.hid (nz_diag C s.d k)
        obtain ⟨l, hl⟩ : ∃ l, nz (diag C s.d k) = l := ⟨_, rfl⟩
        rw [hl] at HO hlen Q
        rw [hl]
        have HLL := Lib.hid hl
        have hl48 : l.length ≤ 48 := by omega
        clear hl hown hbel
        have K2 := Lib.hid (K1.out.below HL.out s0)
        obtain ⟨k0, k1, k2⟩ := K2.out
        obtain ⟨y0, y1, y2, y3, y4, y5, y6, y7, y8, y9, y10, y11, y12, y13, y14, y15⟩ := (XR.out.below HL.out gwl).box16
        have hr := HM.out
        by_cases hlt : k < M
        · have t0 : (k : Int) < (M : Int) := by omega
          rw [hr] at t0
          clear hr
          obtain ⟨z, hz⟩ : ∃ z, s.d.getD (k * C + k) 0 = z := ⟨_, rfl⟩
          have AT := Lib.hid (at_spec R C Ad s.d.length cd s.d wr ((ID.out.below HL.out).more sz) (by have := ND.out; omega) k k _ (by rw [castM]; omega) (by rw [castM]; have := Nat.mul_le_mul_right C (show k ≤ R by omega); omega) (castI k C k) (by rw [ND.out]; exact ij_lt (by omega) (by omega)))
          rw [hz] at AT Q
          clear hz hlen
          go_wp2_with fail
          refine AT.out.mono ?_
          rintro e w6 ⟨rfl, hb6⟩
          have HL6 := Lib.hid (HL.out.trans (hb6.mono sz))
          have z6 : wr.heap.size ≤ w6.heap.size := hb6.size
          have HO6 := Lib.hid ((HO.out.below hb6 (Nat.le_refl _)).wide (lo' := V.heap.size) (hi' := w6.heap.size) (Nat.le_refl _) z6)
          have HOW := Lib.hid (HO6.out.al (Nat.le_refl _) (al1 w6 (Obj.cells #[.int .i64 z] 2))).1
          have HNW := Lib.hid (World.news_of_block (cs := #[.int .i64 z]) (t := 2) (fr := (0, 0)) (heap_alloc_new w6 _))
          clear hb6 k0 k1 k2 y0 y1 y2 y3 y4 y5 y6 y7 y8 y9 y10 y11 y12 y13 y14 y15
          by_cases hz0 : z = 0
          · have t1 : (z != 0) = false := by simpa using hz0
            have q := Q.out
            rw [if_pos hz0, List.append_nil] at q
            have Q2 := Lib.hid q
            clear hz0 q
            go_wp2
            go_roundw
            case rel => exact ⟨k + 1, A2, c2, by omega, by go_num, by rw [Q2.out], by rw [Q2.out]; exact HO6.out, HL6.out⟩
            case measure => simp [intOf]; omega
          · have t1 : (z != 0) = true := by simpa using hz0
            have q := Q.out
            rw [if_neg hz0] at q
            have Q2 := Lib.hid q
            clear hz0 q
            go_wp2_with (at_builtin; refine wpList_append_lies _ rfl _ _ 24 rfl V.heap.size 2 i0 _ 1 8 Try.underlying24 HI.out.1 HI.out.2.1 HI.out.2.2.1 HI.out.2.2.2 rfl (by decide) (.slice A2 l.length c2) l.length (l.map (Value.int .i64)) rfl (by exact HOW.out) ⟨w6.heap.size, 0, none⟩ 1 1 [.int .i64 z] rfl rfl (by exact HNW.out) (by simp [Value.oneCell']) (by omega) (by unfold maxLen; omega) (by omega) (by simp <;> omega) (w6.heap.size + 1) (by simp) ?_; intro gg cap w7 hown7 hgrow hat hlt7; have P7 := Lib.hid (push_own HL6.out HO6.out hown7 hgrow hlt7); clear hown7 hgrow hat hlt7)
            have P8 := Lib.hid P7.out.1
            rw [← Q2.out] at P8
            go_roundw
            case rel => exact ⟨k + 1, _, cap, by omega, by go_num, by rw [Q2.out, List.length_append]; rfl, P8.out, P7.out.2⟩
            case measure => simp [intOf]; omega
        · have t0 : ¬ (k : Int) < (M : Int) := by omega
          rw [hr] at t0
          obtain rfl : k = M := by omega
          clear hr
          go_wp2
          go_quiet (fail)
          all_goals
            go_wp2
            go_ret2
            show ResF w (nz (diag C s.d (min R C))) true _ _
            rw [HMM.out, HLL.out]
            exact ⟨A2, c2, rfl, (HO.out.drewN _).wide (by omega) (Nat.le_refl _), (D1.out.trans (HL.out.mono (by omega))).trans (Go.Joins.below_draws _ _ _)⟩

set_option maxHeartbeats 4000000 in
theorem inv_spec_no (R C : Int) (A : Option Addr) (n c : Nat) (zs : List Int) (w : World) (h : Ints w w.heap.size A n zs) (hn : n ≤ 1048576) (hP : ¬ MOk R C zs) :
    Calls Try.prog 90 #[.agg #[.int .i64 R, .int .i64 C, .slice A n c]] w (ResL w [] 1) := by
  have HS := Lib.hid (isMs_no R C A n c zs (w.alloc (Obj.cells #[.int .i64 R, .int .i64 C, .slice A n c] 77)) (h.into (al1 w (Obj.cells #[.int .i64 R, .int .i64 C, .slice A n c] 77))) hn hP)
  clear h hP
  go_enter Try.func90, Try.ntmps90
  go_wp2_with fail
  refine HS.out.mono ?_
  rintro e w1 ⟨rfl, hb⟩
  have HB := Lib.hid (on1 _ hb)
  have OE := Lib.hid (own_empty w1)
  clear hb
  go_wp2
  go_ret2
  exact ⟨_, 0, rfl, OE.out.wide HB.out.size (Nat.le_refl _), HB.out.alloc HB.out.size _⟩

set_option maxHeartbeats 4000000 in
theorem inv_spec_yes (R C : Nat) (A : Option Addr) (n c : Nat) (zs : List Int) (o : Option Sm.St) (w : World) (h : Ints w w.heap.size A n zs) (hR : R ≤ 48) (hC : C ≤ 48) (hP : MOk R C zs) (ho : Sm.Outcome R C (min R C) 0 (start R C zs) o) (hg : ∀ t, o = some t → Sm.Good R C t) :
    Calls Try.prog 90 #[.agg #[.int .i64 R, .int .i64 C, .slice A n c]] w (ResL w (invOut R C o).1 (invOut R C o).2) := by
  have p1 := rc_le hR hC
  have hnn : n = R * C := by have h1 := hP.2.2.2.2.1; rw [h.1, castM] at h1; exact_mod_cast h1
  have HS := Lib.hid (isMs_yes R C A n c zs (w.alloc (Obj.cells #[.int .i64 R, .int .i64 C, .slice A n c] 77)) (h.into (al1 w (Obj.cells #[.int .i64 R, .int .i64 C, .slice A n c] 77))) (by omega) hP)
  have K0 := Lib.hid (Box3.new w 77 (.int .i64 R) (.int .i64 C) (.slice A n c))
  have FS := Lib.hid (fun (W : World) (hb : Below w.heap.size w W) => factors_spec R C A n c zs o W (h.into hb) hnn hR hC hP ho hg)
  clear h hP ho hnn
  go_enter Try.func90, Try.ntmps90
  go_wp2_with fail
  refine HS.out.mono ?_
  rintro e w1 ⟨rfl, hb⟩
  have HB := Lib.hid (on1 _ hb)
  have K1 := Lib.hid (K0.out.below hb (by simp))
  have s1 := HB.out.size
  clear hb
  obtain ⟨k0, k1, k2⟩ := K1.out
  go_wp2_with fail
  refine (FS.out _ HB.out).mono ?_
  rintro e w2 ⟨A2, c2, rfl, hown, hb⟩
  have O2 := Lib.hid hown
  have HB2 := Lib.hid (HB.out.trans (hb.mono s1))
  have s2 : w1.heap.size ≤ w2.heap.size := hb.size
  clear hb hown k0 k1 k2
  cases o with
  | none =>
    have OE := Lib.hid (own_empty w2)
    go_wp2
    go_ret2
    exact ⟨_, 0, rfl, OE.out.wide (by omega) (Nat.le_refl _), HB2.out.alloc HB2.out.size _⟩
  | some s =>
    have O3 := Lib.hid (show Own w2 w1.heap.size w2.heap.size A2 (nz (diag C s.d (min R C))).length c2 (nz (diag C s.d (min R C))) from O2.out)
    go_wp2
    go_ret2
    exact ⟨A2, c2, rfl, O3.out.wide s1 (Nat.le_refl _), HB2.out⟩

end Go.Proofs.Ytpojkahlllochaa
