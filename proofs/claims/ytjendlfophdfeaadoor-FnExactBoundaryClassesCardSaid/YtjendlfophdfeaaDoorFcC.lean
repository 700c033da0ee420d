/- Contracts of the laws' helpers over rows of faces and over triangulations. No condition but those that each theorem names. -/
import Derived.Test.YtjendlfophdfeaaDoorFcB
namespace Go.Proofs.YtjendlfophdfeaaDoor
open Go.RowKit
namespace Fc

theorem RdS.at2 {w : World} {B : Nat} {A : Option Addr} {rs : List Rw} (h : RdS w B A rs) {j : Nat} (hj : j < rs.length) : ∃ b off Aj cj zj m, A = some ⟨b, off, none⟩ ∧ b < B ∧ rs.getD j nilRw = ⟨Aj, cj, zj⟩ ∧ w.cell? ⟨b, off + j, none⟩ = some (.slice Aj m cj) ∧ m ≤ cj ∧ cj ≤ maxLen ∧ zj.length = m * 2 ∧ Ints w B Aj (m * 2) zj := by
  obtain ⟨b, off, Aj, cj, zj, e, hb, hr, hc, hjc, hjm, hi⟩ := h.at_ hj
  have e2 : zj.length = zj.length / 2 * 2 := by have := hjc.2; omega
  refine ⟨b, off, Aj, cj, zj, zj.length / 2, e, hb, hr, hc, hjc.1, hjm, e2, ?_⟩
  rw [← e2]
  exact hi

set_option maxHeartbeats 1000000 in
theorem szSS_any (A : Option Addr) (c : Nat) (rs : List Rw) (l : Int) (B : Nat) (w : World) (h : RdS w B A rs) (hn : rs.length ≤ maxLen) (h0 : 0 ≤ l) (h1 : l ≤ 1048576) :
    Calls Tryd.prog 65 #[.slice A rs.length c, .int .i64 l] w fun e w' => e = .returned (.int .i64 (if l < rs.length + cnt rs then -1 else l - rs.length - cnt rs)) ∧ w = w' := by
  unfold maxLen at hn
  have H := Lib.hid h
  clear h
  obtain ⟨n, hrn⟩ : ∃ n, rs.length = n := ⟨_, rfl⟩
  have HN := Lib.hid hrn
  rw [hrn] at hn ⊢
  clear hrn
  by_cases hl : l < n
  · rw [if_pos (by omega)]
    go_enter Tryd.func65, Tryd.ntmps65
    go_wp2
    go_ret
    exact ⟨rfl, rfl⟩
  go_enter Tryd.func65, Tryd.ntmps65
  go_wp2
  go_loop [5, 1] (fun i m => ∃ k : Nat, k ≤ n ∧ i = .int .i64 k ∧ m = .int .i64 (l - n - cnt (rs.take k)) ∧ 0 ≤ l - n - cnt (rs.take k)) (fun i _ => n - (intOf i).toNat)
  case atStart => exact ⟨0, Nat.zero_le _, rfl, by simp [cnt], by simp [cnt]; omega⟩
  case round =>
    obtain ⟨k, hk, rfl, rfl, hle⟩ := hrel
    by_cases hlt : k < n
    · obtain ⟨b, off, Aj, cj, zj, m, rfl, hb, hr, hc, hjc, hjm, hz2, hj⟩ := H.out.at2 (j := k) (by rw [HN.out]; exact hlt)
      have nx := cnt_take (rs := rs) (j := k) (by rw [HN.out]; exact hlt)
      rw [hr] at nx
      have NX := Lib.hid (show cnt (rs.take (k + 1)) = cnt (rs.take k) + m from by dsimp only at nx; omega)
      have TL := Lib.hid (cnt_le rs (k + 1))
      obtain ⟨q, hq⟩ : ∃ q, cnt (rs.take k) = q := ⟨_, rfl⟩
      rw [hq] at NX hle ⊢
      have hml : m ≤ maxLen := Nat.le_trans hjc hjm
      clear hr hj hq nx hz2
      by_cases hov : l - n - q < m
      · have OV := Lib.hid (show l < n + cnt rs from by have h1 := NX.out; have h2 := TL.out; omega)
        go_wp2_with fail
        refine (szF_any Aj m cj (l - n - q) _ hml hle (by omega)).mono ?_
        rintro e w' ⟨rfl, rfl⟩
        rw [if_pos (by omega)]
        go_wp2
        go_ret
        exact ⟨by first | rfl | rw [if_pos OV.out], rfl⟩
      · have LE := Lib.hid (show l - n - cnt (rs.take (k + 1)) = l - n - q - m from by have h1 := NX.out; omega)
        go_wp2_with fail
        refine (szF_any Aj m cj (l - n - q) _ hml hle (by omega)).mono ?_
        rintro e w' ⟨rfl, rfl⟩
        rw [if_neg (by omega)]
        have hge : (0 : Int) ≤ l - n - q - m := by omega
        go_wp2
        go_round
        case rel => exact ⟨k + 1, by omega, by go_num, by rw [LE.out], by rw [LE.out]; exact hge⟩
        case measure => simp [intOf]; omega
    · obtain rfl : k = n := by omega
      have TA := Lib.hid (show cnt (rs.take k) = cnt rs from by rw [List.take_of_length_le (Nat.le_of_eq HN.out)])
      rw [TA.out] at hle ⊢
      go_wp2
      go_ret
      exact ⟨by first | rfl | rw [if_neg (by omega)], rfl⟩

/-- What a copy hands back: the same numbers in new memory. -/
def MadeS (w : World) (rs : List Rw) (e : Ending) (w' : World) : Prop :=
  ∃ g c rs', e = .returned (.slice (some ⟨g, 0, none⟩) rs'.length c) ∧ OwnS w' w.heap.size w'.heap.size (some ⟨g, 0, none⟩) c rs' ∧ vals rs' = vals rs ∧ Below w.heap.size w w'
/-- The rows that have been copied, and the rest still empty. -/
def CopS (rs : List Rw) (k : Nat) (qs : List Rw) : Prop := vals qs = vals (rs.take k) ++ List.replicate (rs.length - k) []
theorem CopS.start (rs : List Rw) : CopS rs 0 (List.replicate rs.length nilRw) := by simp [CopS, vals, nilRw]
theorem CopS.len {rs qs : List Rw} {k : Nat} (h : CopS rs k qs) (hk : k ≤ rs.length) : qs.length = rs.length := by
  have := congrArg List.length h
  simp [vals] at this
  omega
theorem CopS.set_ {rs qs : List Rw} {k : Nat} (h : CopS rs k qs) (hk : k < rs.length) {r : Rw} (hr : r.zs = (rs.getD k nilRw).zs) : CopS rs (k + 1) (qs.set k r) := by
  unfold CopS at h ⊢
  have e0 : (vals (rs.take k)).length = k := by simp [vals]; omega
  have e : k - (vals (rs.take k)).length = 0 := by omega
  have e2 : rs.length - k = (rs.length - (k + 1)) + 1 := by omega
  have e3 : vals (qs.set k r) = (vals qs).set k r.zs := by simp [vals, List.map_set]
  have e4 : vals (rs.take (k + 1)) = vals (rs.take k) ++ [r.zs] := by rw [take_row hk, vals, List.map_append, hr]; rfl
  rw [e3, h, e4, List.set_append_right _ _ (by omega), e, e2, List.replicate_succ, List.set_cons_zero, List.append_assoc]
  rfl
theorem CopS.all {rs qs : List Rw} (h : CopS rs rs.length qs) : vals qs = vals rs := by simpa [CopS] using h

set_option maxRecDepth 100000 in
set_option maxHeartbeats 4000000 in
theorem toSS_any (A : Option Addr) (c : Nat) (rs : List Rw) (w : World) (h : RdS w w.heap.size A rs) (hn : rs.length ≤ 1048576) (hrow : ∀ r ∈ rs, r.zs.length / 2 ≤ 1048576) :
    Calls Tryd.prog 68 #[.slice A rs.length c] w (MadeS w rs) := by
  have H := Lib.hid h
  have ROW := Lib.hid hrow
  clear h hrow
  have O0 := Lib.hid (OwnS.new w rs.length hn)
  have D0 := Lib.hid (al1 w (.cells (Array.replicate rs.length (Value.slice none 0 0)) 84))
  have hmk := run_make_rows rs.length hn
  obtain ⟨n, hrn⟩ : ∃ n, rs.length = n := ⟨_, rfl⟩
  have HN := Lib.hid hrn
  rw [hrn] at hmk O0 D0 hn
  have C0 := Lib.hid (CopS.start rs)
  rw [hrn] at C0
  rw [hrn]
  clear hrn
  go_enter Tryd.func68, Tryd.ntmps68
  go_wp2
  clear hmk
  go_loopw [4] (fun i W => ∃ (k : Nat) (qs : List Rw), k ≤ n ∧ i = .int .i64 k ∧ CopS rs k qs ∧ OwnS W w.heap.size W.heap.size (some ⟨w.heap.size, 0, none⟩) n qs ∧ Below w.heap.size w W) (fun i _ => n - (intOf i).toNat)
  case atStart => exact ⟨0, _, Nat.zero_le _, rfl, C0.out, O0.out.wide (Nat.le_refl _) (by simp), D0.out⟩
  case round =>
    obtain ⟨k, qs, hk, rfl, hcop, hown, hbel⟩ := hrel
    have C := Lib.hid hcop
    have O := Lib.hid hown
    have D := Lib.hid hbel
    have hsz : w.heap.size ≤ wr.heap.size := hbel.size
    have QL := Lib.hid (hcop.len (by rw [HN.out]; exact hk))
    clear hcop hown hbel O0 D0 C0
    by_cases hlt : k < n
    · obtain ⟨b, off, Aj, cj, zj, m, rfl, hb, hr, hc, hjc, hjm, hz2, hj⟩ := (H.out.into D.out).at2 (j := k) (by rw [HN.out]; exact hlt)
      have HR := Lib.hid hr
      have JL := Lib.hid (show m ≤ 1048576 from by have := ROW.out _ (getD_mem (rs := rs) (j := k) (by rw [HN.out]; exact hlt)); rw [hr] at this; dsimp only at this; omega)
      have Z2 := Lib.hid hz2
      have HJ := Lib.hid hj
      clear hr hj hz2
      go_wp2_with fail
      refine (toF_any Aj m cj zj _ HJ.out JL.out).mono ?_
      rintro e w1 ⟨rfl, hblk, hb1⟩
      have z1 : wr.heap.size ≤ w1.heap.size := hb1.size
      have R1 := Lib.hid (show Rw.In ⟨some ⟨wr.heap.size, 0, none⟩, m, zj⟩ w1 wr.heap.size w1.heap.size from ⟨⟨by have := Z2.out; dsimp only; omega, by have := Z2.out; dsimp only; omega⟩, Nat.le_trans JL.out (by unfold maxLen; omega), hblk.mine (Nat.le_refl _) hblk.lt rfl⟩)
      have O1 := Lib.hid (O.out.below hb1 (Nat.le_refl _))
      have D1 := Lib.hid (D.out.trans (hb1.mono hsz))
      obtain ⟨g', e', g1, g2, gc⟩ := O1.out.at_ (by rw [QL.out, HN.out]; omega)
      cases e'
      have gk := gc k (by rw [QL.out, HN.out]; exact hlt)
      obtain ⟨gk1, gk2⟩ := gk
      have i0 : (0 : Int) ≤ (k : Int) := by omega
      have i1 : (k : Int) < (n : Int) := by omega
      clear hblk hb1 gc
      go_wp2
      go_roundw
      case rel =>
        refine ⟨k + 1, qs.set k ⟨some ⟨wr.heap.size, 0, none⟩, m, zj⟩, by omega, by go_num, C.out.set_ (by rw [HN.out]; exact hlt) (by rw [HR.out]), ?_, D1.out.setCell (Nat.le_refl _) _⟩
        have := (O1.out.wide (Nat.le_refl _) z1).set_ k ⟨some ⟨wr.heap.size, 0, none⟩, m, zj⟩ (R1.out.wide hsz (Nat.le_refl _)) (R1.out.off (.inl g2)) (fun r' hr' => Apart.of_in R1.out (O1.out.mine r' hr') (.inr (Nat.le_refl _)))
        have e2 : zj.length / 2 = m := by have := Z2.out; omega
        unfold Rw.sv at this
        dsimp only at this
        rw [e2] at this
        exact this.wide (Nat.le_refl _) (by first | exact Nat.le_refl _ | simp [World.setCell])
      case measure => simp [intOf]; omega
    · obtain rfl : k = n := by omega
      go_wp2
      go_ret
      refine ⟨w.heap.size, k, qs, ?_, O.out, CopS.all (by rw [HN.out]; exact C.out), D.out⟩
      rw [QL.out, HN.out]
      rfl

set_option maxHeartbeats 2000000 in
theorem eqSS_any (A A' : Option Addr) (c c' : Nat) (rs qs : List Rw) (B B' : Nat) (w : World) (h : RdS w B A rs) (h' : RdS w B' A' qs) (hv : vals rs = vals qs) (hB : B ≤ w.heap.size) (hB' : B' ≤ w.heap.size) (hn : rs.length ≤ 1048576) (hrow : ∀ r ∈ rs, r.zs.length / 2 ≤ 1048576) :
    Calls Tryd.prog 74 #[.slice A rs.length c, .slice A' qs.length c'] w fun e w' => e = .returned (.bool true) ∧ Below w.heap.size w w' := by
  have H := Lib.hid h
  have H' := Lib.hid h'
  have HV := Lib.hid hv
  have ROW := Lib.hid hrow
  obtain ⟨n, hrn⟩ : ∃ n, rs.length = n := ⟨_, rfl⟩
  have hqn : qs.length = n := by rw [← hrn, ← vals_len rs, ← vals_len qs, hv]
  have HN := Lib.hid hrn
  have HQ := Lib.hid hqn
  rw [hrn] at hn ⊢
  rw [hqn]
  clear h h' hv hrow hrn hqn
  go_enter Tryd.func74, Tryd.ntmps74
  go_wp2
  go_loopw [5] (fun i wr => ∃ k : Nat, k ≤ n ∧ i = .int .i64 k ∧ Below w.heap.size w wr) (fun i _ => n - (intOf i).toNat)
  case atStart => exact ⟨0, Nat.zero_le _, rfl, Below.refl _ _⟩
  case round =>
    obtain ⟨k, hk, rfl, hbel⟩ := hrel
    have D := Lib.hid hbel
    clear hbel
    have i0 : (0 : Int) ≤ (k : Int) := by omega
    by_cases hlt : k < n
    · obtain ⟨b, off, Aj, cj, zj, m, rfl, hb, hr, hc, hjc, hjm, hz2, hj⟩ := (H.out.below (D.out.mono hB)).at2 (j := k) (by rw [HN.out]; exact hlt)
      obtain ⟨b', off', Aj', cj', zj', m', rfl, hb', hr', hc', hjc', hjm', hz2', hj'⟩ := (H'.out.below (D.out.mono hB')).at2 (j := k) (by rw [HQ.out]; exact hlt)
      have e := vals_at HV.out k
      have hl := ROW.out _ (getD_mem (rs := rs) (j := k) (by rw [HN.out]; exact hlt))
      rw [hr, hr'] at e
      rw [hr] at hl
      dsimp only at e hl
      subst e
      obtain rfl : m = m' := by omega
      have zD : w.heap.size ≤ wr.heap.size := D.out.size
      have EQ := Lib.hid (fun (W : World) (hb : Below wr.heap.size wr W) => eqF_any Aj Aj' m cj cj' zj B B' W (hj.below (hb.mono (by omega))) (hj'.below (hb.mono (by omega))) (by have := hb.size; omega) (by have := hb.size; omega) (by omega))
      have i1 : (k : Int) < (n : Int) := by omega
      clear hr hr' hj hj' hl hjc hjm hjc' hjm' hz2 hz2'
      go_upto_region 6 with fail
      go_region_held3 (fun W => (W.cell? ⟨b, off + k, none⟩ = some (.slice Aj m cj)) ∧ (W.cell? ⟨b', off' + k, none⟩ = some (.slice Aj' m cj'))) (go_keep)
        (first | (go_at_call 137; (refine (EQ.out _ (by exact Go.Joins.below_draws _ _ _)).mono ?_); rintro e w6 ⟨rfl, hb6'⟩; have hb6 := undrew hb6'; have B6 := Lib.hid hb6; have z6 := hb6.size; have e0 := (hb6.cell (p := ⟨b, off + k, none⟩) (by dsimp only; omega)).trans hc; have e1 := (hb6.cell (p := ⟨b', off' + k, none⟩) (by dsimp only; omega)).trans hc'; clear hb6 hb6'))
      all_goals
        go_wp2
        go_roundw
        case rel => exact ⟨k + 1, by omega, by go_num, D.out.trans (B6.out.mono zD)⟩
        case measure => simp [intOf]; omega
    · obtain rfl : k = n := by omega
      have i1 : ¬ (k : Int) < (k : Int) := by omega
      go_wp2
      go_ret
      exact ⟨rfl, D.out⟩

/-- The rows with the numbers k, k + 1, .. in them. -/
def mk (k : Int) : List Rw → List Rw
  | [] => []
  | r :: rs => ⟨r.A, r.c, marks k r.zs.length⟩ :: mk (k + r.zs.length) rs
theorem mk_len (rs : List Rw) : ∀ k, (mk k rs).length = rs.length := by
  induction rs with
  | nil => intro k; rfl
  | cons r rs ih => intro k; simp [mk, ih]
theorem mk_tot (rs : List Rw) : ∀ k, tot (mk k rs) = tot rs := by
  induction rs with
  | nil => intro k; rfl
  | cons r rs ih => intro k; simp [mk, tot, ih, marks_len]
theorem mk_at (rs : List Rw) : ∀ (k : Int) (j : Nat), j < rs.length → (mk k rs).getD j nilRw = ⟨(rs.getD j nilRw).A, (rs.getD j nilRw).c, marks (k + tot (rs.take j)) (rs.getD j nilRw).zs.length⟩ := by
  induction rs with
  | nil => intro k j h; simp at h
  | cons r rs ih =>
    intro k j h
    cases j with
    | zero => simp [mk, tot]
    | succ j =>
      have := ih (k + r.zs.length) j (by simpa using h)
      simp only [mk, List.getD_cons_succ, List.take_succ_cons, tot] at this ⊢
      rw [this]
      congr 2
      push_cast
      omega
/-- The first j rows marked. -/
def mkd (k : Int) (rs : List Rw) (j : Nat) : List Rw := mk k (rs.take j) ++ rs.drop j
theorem mkd_zero (k : Int) (rs : List Rw) : mkd k rs 0 = rs := by simp [mkd, mk]
theorem mkd_all (k : Int) (rs : List Rw) {n : Nat} (h : rs.length = n) : mkd k rs n = mk k rs := by simp [mkd, ← h]
theorem mkd_len (k : Int) (rs : List Rw) (j : Nat) : (mkd k rs j).length = rs.length := by simp [mkd, mk_len]; omega
theorem mk_snoc (rs : List Rw) (r : Rw) : ∀ k, mk k (rs ++ [r]) = mk k rs ++ [⟨r.A, r.c, marks (k + tot rs) r.zs.length⟩] := by
  induction rs with
  | nil => intro k; simp [mk, tot]
  | cons q rs ih =>
    intro k
    have e : k + (q.zs.length : Int) + (tot rs : Int) = k + ((q.zs.length + tot rs : Nat) : Int) := by push_cast; omega
    simp only [List.cons_append, mk, ih, tot, e]
theorem mkd_at (k : Int) (rs : List Rw) {j : Nat} (h : j < rs.length) : (mkd k rs j).getD j nilRw = rs.getD j nilRw := by
  have e : (mk k (rs.take j)).length = j := by rw [mk_len]; simp; omega
  rw [mkd, List.getD_eq_getElem?_getD, List.getElem?_append_right (by omega), e, Nat.sub_self, List.getElem?_drop, Nat.add_zero, ← List.getD_eq_getElem?_getD]
theorem mkd_set (k : Int) (rs : List Rw) {j : Nat} (h : j < rs.length) : (mkd k rs j).set j ⟨(rs.getD j nilRw).A, (rs.getD j nilRw).c, marks (k + tot (rs.take j)) (rs.getD j nilRw).zs.length⟩ = mkd k rs (j + 1) := by
  have e : (mk k (rs.take j)).length = j := by rw [mk_len]; simp; omega
  have e2 : rs.drop j = rs.getD j nilRw :: rs.drop (j + 1) := by
    rw [List.drop_eq_getElem_cons h, List.getD_eq_getElem?_getD, List.getElem?_eq_getElem h]; rfl
  unfold mkd
  rw [List.set_append_right _ _ (by omega), e, Nat.sub_self, e2, List.set_cons_zero, take_row h, mk_snoc, List.append_assoc]
  rfl

/-- A row's own numbers turn; all else stays. -/
theorem OwnS.turn {w w' : World} {lo hi c : Nat} {A : Option Addr} {rs : List Rw} (h : OwnS w lo hi A c rs) (hhi : hi ≤ w.heap.size) {j : Nat} {r : Rw} (hj : j < rs.length) (hr : rs.getD j nilRw = r) {new : List Int} (hlen : new.length = r.zs.length) (hm : Mine w' lo hi r.A new.length new)
    (hk : ∀ k, k < w.heap.size → r.Off k → w'.heap[k]? = w.heap[k]?) : OwnS w' lo hi A c (rs.set j ⟨r.A, r.c, new⟩) := by
  have hget : rs[j]'hj = r := by rw [← hr, List.getD_eq_getElem?_getD, List.getElem?_eq_getElem hj]; rfl
  have hsv : (rs.set j ⟨r.A, r.c, new⟩).map Rw.sv = rs.map Rw.sv := by
    rw [List.map_set]
    have e : Rw.sv ⟨r.A, r.c, new⟩ = Rw.sv r := by simp [Rw.sv, hlen]
    rw [e, ← hget]
    apply List.ext_getElem?
    intro i
    rw [List.getElem?_set]
    split
    · rename_i e'; subst e'; simp [hj]
    · rfl
  have hin : r ∈ rs := by rw [← hget]; exact List.getElem_mem hj
  have hkeep : ∀ (q : Rw) (_ : q ∈ rs), (∀ a, q.A = some a → 0 < q.zs.length → r.Off a.block) → q.In w' lo hi := fun q hq hd => by
    have hqi := h.mine q hq
    refine ⟨hqi.le, hqi.cap, hqi.mine.1, fun h0 => ?_⟩
    obtain ⟨g, off, e, h1, h2, h3⟩ := hqi.mine.2 h0
    have hb := hk g (by omega) (hd _ e h0)
    exact ⟨g, off, e, h1, h2, fun i hi' => ⟨(World.cell?_of_block (a := ⟨g, off + i, none⟩) hb).trans (h3 i hi').1, (World.frozen?_of_block (a := ⟨g, off + i, none⟩) hb).trans (h3 i hi').2⟩⟩
  refine ⟨?_, h.top, fun q hq => ?_, fun q hq a ha => ?_, ?_⟩
  · rw [hsv, List.length_set]
    refine ⟨h.row.1, ?_⟩
    rcases h.row.2 with h0 | ⟨g, cap, cur, hv, hb, hg, rest⟩
    · exact .inl h0
    · refine .inr ⟨g, cap, cur, hv, hb, ?_, rest⟩
      injection hv with h1 h2 h3
      rw [hk g (by have := h.top _ h1; dsimp only at this; omega) (by have := h.off r hin _ h1; exact this)]
      exact hg
  · obtain ⟨i, hi', rfl⟩ := List.mem_iff_getElem.1 hq
    rw [List.getElem_set]
    simp only [List.length_set] at hi'
    split
    · have hri := h.mine r hin
      exact ⟨by rw [hlen]; exact hri.le, hri.cap, hm⟩
    · rename_i hne
      refine hkeep _ (List.getElem_mem _) fun a ha h0 b hb h0' => ?_
      rcases Nat.lt_or_ge i j with hij | hij
      · have := (List.pairwise_iff_getElem.1 h.apart) i j hi' hj hij
        rw [hget] at this
        exact (this a b ha hb h0 h0').symm
      · have := (List.pairwise_iff_getElem.1 h.apart) j i hj hi' (by omega)
        rw [hget] at this
        exact this b a hb ha h0' h0
  · rcases List.mem_or_eq_of_mem_set hq with hq | rfl
    · exact h.off q hq a ha
    · intro b hb h0
      exact h.off r hin a ha b hb (by rw [← hlen]; exact h0)
  · rw [List.pairwise_iff_getElem]
    intro i k hi' hk' hik
    simp only [List.length_set] at hi' hk'
    have hp := (List.pairwise_iff_getElem.1 h.apart) i k hi' hk' hik
    rw [List.getElem_set, List.getElem_set]
    by_cases e1 : j = i
    · subst e1
      rw [if_pos rfl, if_neg (by omega)]
      rw [hget] at hp
      exact fun a b ha hb h0 h0' => hp a b ha hb (by rw [← hlen]; exact h0) h0'
    · rw [if_neg e1]
      by_cases e2 : j = k
      · subst e2
        rw [if_pos rfl]
        rw [hget] at hp
        exact fun a b ha hb h0 h0' => hp a b ha hb h0 (by rw [← hlen]; exact h0')
      · rw [if_neg e2]
        exact hp
/-- Where a row's numbers lie. -/
theorem Rw.In.narrow {w : World} {lo hi : Nat} {r : Rw} (h : r.In w lo hi) : ∃ gl gh, Mine w gl gh r.A r.zs.length r.zs ∧ (∀ k, r.Off k → ¬ (gl ≤ k ∧ k < gh)) ∧ (∀ k, gl ≤ k → k < gh → lo ≤ k ∧ k < hi) := by
  rcases Nat.eq_zero_or_pos r.zs.length with h0 | h0
  · exact ⟨0, 0, ⟨rfl, fun h => by omega⟩, fun k _ => by omega, fun k _ _ => by omega⟩
  · obtain ⟨g, off, e, h1, h2, h3⟩ := h.mine.2 h0
    refine ⟨g, g + 1, ⟨rfl, fun _ => ⟨g, off, e, Nat.le_refl _, Nat.lt_succ_self _, h3⟩⟩, fun k hk hg => ?_, fun k _ _ => by omega⟩
    exact hk _ e h0 (by dsimp only; omega)

set_option maxHeartbeats 2000000 in
theorem markSS_any (A : Option Addr) (c : Nat) (k : Int) (rs : List Rw) (lo hi : Nat) (w : World) (h : OwnS w lo hi A c rs) (hhi : hi ≤ w.heap.size) (ht : rs.length + tot rs ≤ 2097152) (h0 : 0 ≤ k) (h1 : k ≤ 1099500000000) :
    Calls Tryd.prog 81 #[.slice A rs.length c, .int .i64 k] w fun e w' => e = .returned (.int .i64 (k + tot rs)) ∧ OwnS w' lo hi A c (mk k rs) ∧ Kept lo hi w w' := by
  have H := Lib.hid h
  clear h
  obtain ⟨n, hrn⟩ : ∃ n, rs.length = n := ⟨_, rfl⟩
  have HN := Lib.hid hrn
  rw [hrn] at ht ⊢
  clear hrn
  go_enter Tryd.func81, Tryd.ntmps81
  go_wp2
  go_loopw [5, 1] (fun i m wr => ∃ j : Nat, j ≤ n ∧ i = .int .i64 j ∧ m = .int .i64 (k + tot (rs.take j)) ∧ OwnS wr lo hi A c (mkd k rs j) ∧ Kept lo hi w wr) (fun i _ _ => n - (intOf i).toNat)
  case atStart => exact ⟨0, Nat.zero_le _, rfl, by simp [tot], by rw [mkd_zero]; exact H.out, Kept.refl _ _ _⟩
  case round =>
    obtain ⟨j, hj, rfl, rfl, hown, hkept⟩ := hrel
    have O := Lib.hid hown
    have K := Lib.hid hkept
    have TL := tot_le rs j
    have z1 : w.heap.size ≤ wr.heap.size := hkept.size
    clear hown hkept
    obtain ⟨q, hq⟩ : ∃ q, tot (rs.take j) = q := ⟨_, rfl⟩
    have HQ := Lib.hid hq
    rw [hq] at TL ⊢
    clear hq
    by_cases hlt : j < n
    · have hjr : j < rs.length := by rw [HN.out]; exact hlt
      have hjm : j < (mkd k rs j).length := by rw [mkd_len]; exact hjr
      obtain ⟨g, rfl, g1, g2, gc⟩ := O.out.at_ (by omega)
      have gk := (gc j hjm).1
      have hat := mkd_at k rs hjr
      obtain ⟨r, hr⟩ : ∃ r, rs.getD j nilRw = r := ⟨_, rfl⟩
      rw [hr] at hat
      rw [hat] at gk
      have hri := O.out.mine r (by rw [← hat]; exact getD_mem hjm)
      have NX := tot_take hjr
      have TL2 := tot_le rs (j + 1)
      rw [hr, HQ.out] at NX
      obtain ⟨Aj, cj, zj⟩ := r
      obtain ⟨gl, gh, nm, no, nin⟩ := hri.narrow
      have HR := Lib.hid hr
      have HAT := Lib.hid hat
      have NO := Lib.hid no
      have NI := Lib.hid nin
      have NXH := Lib.hid NX
      dsimp only [Rw.sv] at gk
      have hz2 : zj.length = zj.length / 2 * 2 := by have := hri.le.2; dsimp only at this; omega
      obtain ⟨m, hm⟩ : ∃ m, zj.length / 2 = m := ⟨_, rfl⟩
      rw [hm] at gk hz2
      have Z2 := Lib.hid hz2
      have zl : m ≤ 1048576 := by dsimp only at NX; omega
      rw [hz2] at nm
      have NM := Lib.hid nm
      clear gc hat hr hri nm no nin NX hjr hjm hm hz2
      go_wp2_with fail
      refine (markF_any Aj m cj (k + q) zj gl gh _ NM.out zl (by omega) (by omega)).mono ?_
      rintro e w1 ⟨rfl, hm1, hk1⟩
      have KW := Lib.hid (show Kept lo hi wr w1 from ⟨hk1.os, hk1.tape, hk1.output, hk1.size, fun b hb hn => hk1.block b hb fun hh => hn (NI.out b hh.1 hh.2)⟩)
      have MW := Lib.hid (show Mine w1 lo hi Aj (marks (k + q) zj.length).length (marks (k + q) zj.length) from by
        rw [marks_len, Z2.out]
        exact ⟨hm1.1, fun h0 => by
          obtain ⟨b, off, e, b1, b2, b3⟩ := hm1.2 h0
          have := NI.out b b1 b2
          exact ⟨b, off, e, this.1, this.2, b3⟩⟩)
      have T := Lib.hid (OwnS.turn O.out (by omega) (j := j) (r := ⟨Aj, cj, zj⟩) (by rw [mkd_len, HN.out]; exact hlt) HAT.out (marks_len _ _) MW.out (fun b hb ho => hk1.block b hb (NO.out b ho)))
      have SET := Lib.hid (mkd_set k rs (j := j) (by rw [HN.out]; exact hlt))
      rw [HR.out, HQ.out] at SET
      clear hm1 hk1 gk
      go_wp2
      go_roundw
      case rel => exact ⟨j + 1, by omega, by go_num, by have := Z2.out; rw [NXH.out]; simp; omega, by rw [← SET.out]; exact T.out, K.out.trans KW.out⟩
      case measure => simp [intOf]; omega
    · obtain rfl : j = n := by omega
      have TA := Lib.hid (show q = tot rs from by rw [← HQ.out, List.take_of_length_le (Nat.le_of_eq HN.out)])
      rw [TA.out]
      go_wp2
      go_ret
      exact ⟨rfl, by rw [← mkd_all k rs HN.out]; exact O.out, K.out⟩

set_option maxHeartbeats 1000000 in
theorem heldSS_any (A : Option Addr) (c : Nat) (k : Int) (rs : List Rw) (B : Nat) (w : World) (h : RdS w B A (mk k rs)) (ht : rs.length + tot rs ≤ 2097152) (h0 : 0 ≤ k) (h1 : k ≤ 1099500000000) :
    Calls Tryd.prog 82 #[.slice A rs.length c, .int .i64 k] w fun e w' => e = .returned (.int .i64 (k + tot rs)) ∧ w = w' := by
  have H := Lib.hid h
  clear h
  obtain ⟨n, hrn⟩ : ∃ n, rs.length = n := ⟨_, rfl⟩
  have HN := Lib.hid hrn
  rw [hrn] at ht ⊢
  clear hrn
  go_enter Tryd.func82, Tryd.ntmps82
  go_wp2
  go_loop [5, 1] (fun i m => ∃ j : Nat, j ≤ n ∧ i = .int .i64 j ∧ m = .int .i64 (k + tot (rs.take j))) (fun i _ => n - (intOf i).toNat)
  case atStart => exact ⟨0, Nat.zero_le _, rfl, by simp [tot]⟩
  case round =>
    obtain ⟨j, hj, rfl, rfl⟩ := hrel
    have TL := tot_le rs j
    obtain ⟨q, hq⟩ : ∃ q, tot (rs.take j) = q := ⟨_, rfl⟩
    have HQ := Lib.hid hq
    rw [hq] at TL ⊢
    clear hq
    by_cases hlt : j < n
    · have hjr : j < rs.length := by rw [HN.out]; exact hlt
      obtain ⟨b, off, Aj, cj, zj, m2, rfl, hb, hr, hc, hjc, hjm, hz2, hi⟩ := H.out.at2 (j := j) (by rw [mk_len]; exact hjr)
      have hat := mk_at rs k j hjr
      have NX := tot_take hjr
      have TL2 := tot_le rs (j + 1)
      rw [hr, HQ.out] at hat
      rw [HQ.out] at NX
      injection hat with e1 e2 e3
      obtain ⟨m, hm⟩ : ∃ m, (rs.getD j nilRw).zs.length = m := ⟨_, rfl⟩
      rw [hm] at e3 NX
      subst e3
      rw [marks_len] at hz2
      rw [hz2] at hi
      have HI := Lib.hid hi
      rw [hz2] at NX
      have NXH := Lib.hid NX
      have ml : m2 ≤ 1048576 := by omega
      clear hr e1 e2 hm hi NX hjr hz2
      go_wp2_with fail
      refine (heldF_any Aj m2 cj (k + q) B _ HI.out ml (by omega) (by omega)).mono ?_
      rintro e w' ⟨rfl, rfl⟩
      go_wp2
      go_round
      case rel => exact ⟨j + 1, by omega, by go_num, by rw [NXH.out]; simp; omega⟩
      case measure => simp [intOf]; omega
    · obtain rfl : j = n := by omega
      have TA := Lib.hid (show q = tot rs from by rw [← HQ.out, List.take_of_length_le (Nat.le_of_eq HN.out)])
      rw [TA.out]
      go_wp2
      go_ret
      exact ⟨rfl, rfl⟩

theorem OwnS.far {w : World} {lo hi c : Nat} {A : Option Addr} {rs : List Rw} (h : OwnS w lo hi A c rs) {p : Addr} (hp : p.block < lo ∨ hi ≤ p.block) (u : Value) : OwnS (w.setCell p u) lo hi A c rs := h.keep fun k h1 h2 => Below.heap_setCell w p u k (by omega)
theorem OwnS.al {w w' : World} {lo hi c : Nat} {A : Option Addr} {rs : List Rw} (h : OwnS w lo hi A c rs) (hw : hi ≤ w.heap.size) (hb : Below w.heap.size w w') : OwnS w' lo hi A c rs := h.below hb hw

set_option maxHeartbeats 1000000 in
theorem szT_any (A : Option Addr) (c : Nat) (rs : List Rw) (l : Int) (w : World) (h : RdS w w.heap.size A rs) (hn : rs.length ≤ maxLen) (h0 : 0 ≤ l) (h1 : l ≤ 1048576) :
    Calls Tryd.prog 14 #[.agg #[.slice A rs.length c], .int .i64 l] w fun e w' => e = .returned (.int .i64 (if l < rs.length + cnt rs then -1 else l - rs.length - cnt rs)) ∧ Below w.heap.size w w' := by
  have D0 := Lib.hid (al1 w (Obj.cells #[.slice A rs.length c] 24))
  have SZ := Lib.hid (szSS_any A c rs l _ _ (h.below D0.out) hn h0 h1)
  have SZ' := Lib.hid (szSS_any A c rs l _ _ h hn h0 h1)
  clear h hn
  by_cases hl : l < rs.length + cnt rs
  · rw [if_pos hl] at SZ SZ' ⊢
    go_enter Tryd.func14, Tryd.ntmps14
    go_wp2_with fail
    first
      | refine SZ'.out.mono ?_
      | refine SZ.out.mono ?_
    rintro e w' ⟨rfl, rfl⟩
    go_wp2
    go_ret
    exact ⟨rfl, by first | exact Below.refl _ _ | exact D0.out⟩
  · rw [if_neg hl] at SZ SZ' ⊢
    obtain ⟨q, hq⟩ : ∃ q : Int, l - rs.length - cnt rs = q := ⟨_, rfl⟩
    have q0 : 0 ≤ q := by omega
    rw [hq] at SZ SZ' ⊢
    clear hq hl
    go_enter Tryd.func14, Tryd.ntmps14
    go_wp2_with fail
    first
      | refine SZ'.out.mono ?_
      | refine SZ.out.mono ?_
    rintro e w' ⟨rfl, rfl⟩
    go_wp2
    go_ret
    exact ⟨rfl, by first | exact Below.refl _ _ | exact D0.out⟩

/-- What a copy of a triangulation hands back. -/
def MadeP (w : World) (rs : List Rw) (e : Ending) (w' : World) : Prop :=
  ∃ g c rs', e = .returned (.agg #[.slice (some ⟨g, 0, none⟩) rs'.length c]) ∧ OwnS w' w.heap.size w'.heap.size (some ⟨g, 0, none⟩) c rs' ∧ vals rs' = vals rs ∧ Below w.heap.size w w'

set_option maxHeartbeats 1000000 in
theorem toT_any (A : Option Addr) (c : Nat) (rs : List Rw) (w : World) (h : RdS w w.heap.size A rs) (hn : rs.length ≤ 1048576) (hrow : ∀ r ∈ rs, r.zs.length / 2 ≤ 1048576) :
    Calls Tryd.prog 16 #[.agg #[.slice A rs.length c]] w (MadeP w rs) := by
  have H := Lib.hid h
  have ROW := Lib.hid hrow
  clear h hrow
  go_enter Tryd.func16, Tryd.ntmps16
  go_wp2_with fail
  refine (toSS_any A c rs _ (H.out.into (al3 _ _ _ _)) hn ROW.out).mono ?_
  rintro e w1 ⟨g, c1, rs1, rfl, ho, hv, hb⟩
  obtain ⟨hc, hf⟩ := bcell hb
  have O := Lib.hid ho
  have V := Lib.hid hv
  clear ho hv
  have hz : w.heap.size + 2 < w1.heap.size := by have := hb.size; simp at this; omega
  go_wp2
  refine bodyPost_ret (v := .agg #[.slice (some ⟨g, 0, none⟩) rs1.length c1]) (by simp [results, Tryd.results16, hc, go_sem]) rfl ⟨g, c1, rs1, rfl, ?_, V.out, ?_⟩
  · have h0 : OwnS w1 (w.heap.size + 1 + 1 + 1) w1.heap.size (some ⟨g, 0, none⟩) c1 rs1 := by simpa using O.out
    exact (((h0.far (p := ⟨w.heap.size + 1 + 1, 0, none⟩) (by dsimp only; omega) _).far (p := ⟨w.heap.size + 1, 0, none⟩) (by dsimp only; omega) _)).wide (by omega) (by simp [World.setCell])
  · exact ((on3 _ _ _ hb).setCell (by simp; omega) _).setCell (by simp) _

set_option maxHeartbeats 1000000 in
theorem eqT_any (A A' : Option Addr) (c c' : Nat) (rs qs : List Rw) (B B' : Nat) (w : World) (h : RdS w B A rs) (h' : RdS w B' A' qs) (hv : vals rs = vals qs) (hB : B ≤ w.heap.size) (hB' : B' ≤ w.heap.size) (hn : rs.length ≤ 1048576) (hrow : ∀ r ∈ rs, r.zs.length / 2 ≤ 1048576) :
    Calls Tryd.prog 18 #[.agg #[.slice A rs.length c], .agg #[.slice A' qs.length c']] w fun e w' => e = .returned (.bool true) ∧ Below w.heap.size w w' := by
  have D0 := Lib.hid (al2 w (Obj.cells #[.slice A rs.length c] 29) (Obj.cells #[.slice A' qs.length c'] 29))
  have EQ := Lib.hid (eqSS_any A A' c c' rs qs B B' _ (h.below (D0.out.mono hB)) (h'.below (D0.out.mono hB')) hv (Nat.le_trans hB D0.out.size) (Nat.le_trans hB' D0.out.size) hn hrow)
  clear h h' hv hrow
  go_enter Tryd.func18, Tryd.ntmps18
  go_wp2_with fail
  refine EQ.out.mono ?_
  rintro e w1 ⟨rfl, hb⟩
  have D1 := Lib.hid (on2 _ _ hb)
  clear hb
  go_wp2
  go_ret
  exact ⟨rfl, D1.out⟩

set_option maxHeartbeats 1000000 in
theorem markT_any (A : Option Addr) (c : Nat) (k : Int) (rs : List Rw) (lo hi : Nat) (w : World) (h : OwnS w lo hi A c rs) (hhi : hi ≤ w.heap.size) (ht : rs.length + tot rs ≤ 2097152) (h0 : 0 ≤ k) (h1 : k ≤ 1099400000000) :
    Calls Tryd.prog 21 #[.agg #[.slice A rs.length c], .int .i64 k] w fun e w' => e = .returned (.int .i64 (k + tot rs)) ∧ OwnS w' lo hi A c (mk k rs) ∧ Kept lo hi w w' := by
  have H := Lib.hid h
  clear h
  go_enter Tryd.func21, Tryd.ntmps21
  go_wp2_with fail
  refine (markSS_any A c k rs lo hi _ (H.out.al hhi (al1 _ _)) (by simp; omega) ht h0 (by omega)).mono ?_
  rintro e w1 ⟨rfl, hown, hkept⟩
  have HO := Lib.hid hown
  have HK := Lib.hid hkept
  clear hown hkept
  go_wp2
  go_ret
  exact ⟨rfl, HO.out, (Kept.of_below (al1 _ _) _ _).trans HK.out⟩

set_option maxHeartbeats 1000000 in
theorem heldT_any (A : Option Addr) (c : Nat) (k : Int) (rs : List Rw) (B : Nat) (w : World) (h : RdS w B A (mk k rs)) (hB : B ≤ w.heap.size) (ht : rs.length + tot rs ≤ 2097152) (h0 : 0 ≤ k) (h1 : k ≤ 1099400000000) :
    Calls Tryd.prog 22 #[.agg #[.slice A rs.length c], .int .i64 k] w fun e w' => e = .returned (.int .i64 (k + tot rs)) ∧ Below w.heap.size w w' := by
  have H := Lib.hid h
  clear h
  go_enter Tryd.func22, Tryd.ntmps22
  go_wp2_with fail
  refine (heldSS_any A c k rs B _ (H.out.below ((al1 _ _).mono hB)) ht h0 (by omega)).mono ?_
  rintro e w1 ⟨rfl, rfl⟩
  go_wp2
  go_ret
  exact ⟨rfl, al1 _ _⟩

theorem row_le_cnt {rs : List Rw} {r : Rw} (h : r ∈ rs) : r.zs.length / 2 ≤ cnt rs := by
  induction rs with
  | nil => simp at h
  | cons q rs ih =>
    simp only [cnt]
    rcases List.mem_cons.1 h with rfl | h
    · omega
    · have := ih h; omega
theorem vals_same {rs qs : List Rw} (h : vals rs = vals qs) : rs.length = qs.length := by rw [← vals_len rs, ← vals_len qs, h]
theorem rows_same {rs qs : List Rw} (h : vals rs = vals qs) {N : Nat} (hq : ∀ r ∈ qs, r.zs.length / 2 ≤ N) : ∀ r ∈ rs, r.zs.length / 2 ≤ N := fun r hr => by
  have h1 : r.zs ∈ vals qs := by rw [← h]; exact List.mem_map_of_mem hr
  obtain ⟨q, hq1, hq2⟩ := List.mem_map.1 h1
  rw [← hq2]
  exact hq q hq1

end Fc
end Go.Proofs.YtjendlfophdfeaaDoor
