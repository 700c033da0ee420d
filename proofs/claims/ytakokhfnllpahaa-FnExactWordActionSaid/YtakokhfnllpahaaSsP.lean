/- Contracts of the laws' helpers over presentations. No condition but those that each theorem names. -/
import Derived.Test.YtakokhfnllpahaaSsB
namespace Go.Proofs.Ytakokhfnllpahaa
open Go.RowKit

theorem OwnS.far {w : World} {lo hi c : Nat} {A : Option Addr} {rs : List Rw} (h : OwnS w lo hi A c rs) {p : Addr} (hp : p.block < lo ∨ hi ≤ p.block) (u : Value) : OwnS (w.setCell p u) lo hi A c rs := h.keep fun k h1 h2 => Below.heap_setCell w p u k (by omega)
theorem OwnS.al {w w' : World} {lo hi c : Nat} {A : Option Addr} {rs : List Rw} (h : OwnS w lo hi A c rs) (hw : hi ≤ w.heap.size) (hb : Below w.heap.size w w') : OwnS w' lo hi A c rs := h.below hb hw

set_option maxHeartbeats 1000000 in
theorem szP_any (r : Int) (A : Option Addr) (c : Nat) (rs : List Rw) (l : Int) (w : World) (h : RdS w w.heap.size A rs) (hn : rs.length ≤ maxLen) (h0 : 0 ≤ l) (h1 : l ≤ 1048576) :
    Calls Try.prog 23 #[.agg #[.int .i64 r, .slice A rs.length c], .int .i64 l] w fun e w' => e = .returned (.int .i64 (if l < rs.length + tot rs then -1 else l - rs.length - tot rs)) ∧ Below w.heap.size w w' := by
  have D0 := Lib.hid (al1 w (Obj.cells #[.int .i64 r, .slice A rs.length c] 40))
  have SZ := Lib.hid (szSS_any A c rs l _ _ (h.below D0.out) hn h0 h1)
  clear h hn
  by_cases hl : l < rs.length + tot rs
  · rw [if_pos hl] at SZ ⊢
    go_enter Try.func23, Try.ntmps23
    go_wp2_with fail
    refine SZ.out.mono ?_
    rintro e w' ⟨rfl, rfl⟩
    go_wp2
    go_ret
    exact ⟨rfl, D0.out⟩
  · rw [if_neg hl] at SZ ⊢
    obtain ⟨q, hq⟩ : ∃ q : Int, l - rs.length - tot rs = q := ⟨_, rfl⟩
    have q0 : 0 ≤ q := by omega
    rw [hq] at SZ ⊢
    clear hq hl
    go_enter Try.func23, Try.ntmps23
    go_wp2_with fail
    refine SZ.out.mono ?_
    rintro e w' ⟨rfl, rfl⟩
    go_wp2
    go_ret
    exact ⟨rfl, D0.out⟩

/-- What a copy of a presentation hands back. -/
def MadeP (w : World) (r : Int) (rs : List Rw) (e : Ending) (w' : World) : Prop :=
  ∃ g c rs', e = .returned (.agg #[.int .i64 r, .slice (some ⟨g, 0, none⟩) rs'.length c]) ∧ OwnS w' w.heap.size w'.heap.size (some ⟨g, 0, none⟩) c rs' ∧ vals rs' = vals rs ∧ Below w.heap.size w w'

set_option maxHeartbeats 1000000 in
theorem toP_any (r : Int) (A : Option Addr) (c : Nat) (rs : List Rw) (w : World) (h : RdS w w.heap.size A rs) (hn : rs.length ≤ 1048576) (hrow : ∀ r ∈ rs, r.zs.length ≤ 1048576) :
    Calls Try.prog 26 #[.agg #[.int .i64 r, .slice A rs.length c]] w (MadeP w r rs) := by
  have H := Lib.hid h
  have ROW := Lib.hid hrow
  clear h hrow
  go_enter Try.func26, Try.ntmps26
  go_wp2_with fail
  refine (toSS_any A c rs _ (H.out.into (al3 _ _ _ _)) hn ROW.out).mono ?_
  rintro e w1 ⟨g, c1, rs1, rfl, ho, hv, hb⟩
  obtain ⟨hc, hf⟩ := bcell hb
  have O := Lib.hid ho
  have V := Lib.hid hv
  clear ho hv
  have hz : w.heap.size + 2 < w1.heap.size := by have := hb.size; simp at this; omega
  go_wp2
  refine bodyPost_ret (v := .agg #[.int .i64 r, .slice (some ⟨g, 0, none⟩) rs1.length c1]) (by simp [results, Try.results26, hc, go_sem]) rfl ⟨g, c1, rs1, rfl, ?_, V.out, ?_⟩
  · have h0 : OwnS w1 (w.heap.size + 1 + 1 + 1) w1.heap.size (some ⟨g, 0, none⟩) c1 rs1 := by simpa using O.out
    exact ((((h0.far (p := ⟨w.heap.size + 1 + 1, 1, none⟩) (by dsimp only; omega) _).far (p := ⟨w.heap.size + 1, 0, none⟩) (by dsimp only; omega) _).far (p := ⟨w.heap.size + 1, 1, none⟩) (by dsimp only; omega) _)).wide (by omega) (by simp [World.setCell])
  · exact (((on3 _ _ _ hb).setCell (by simp; omega) _).setCell (by simp) _).setCell (by simp) _

set_option maxHeartbeats 1000000 in
theorem eqP_any (r : Int) (A A' : Option Addr) (c c' : Nat) (rs qs : List Rw) (B B' : Nat) (w : World) (h : RdS w B A rs) (h' : RdS w B' A' qs) (hv : vals rs = vals qs) (hB : B ≤ w.heap.size) (hB' : B' ≤ w.heap.size) (hn : rs.length ≤ 1048576) (hrow : ∀ r ∈ rs, r.zs.length ≤ 1048576) :
    Calls Try.prog 28 #[.agg #[.int .i64 r, .slice A rs.length c], .agg #[.int .i64 r, .slice A' qs.length c']] w fun e w' => e = .returned (.bool true) ∧ Below w.heap.size w w' := by
  have D0 := Lib.hid (al2 w (Obj.cells #[.int .i64 r, .slice A rs.length c] 29) (Obj.cells #[.int .i64 r, .slice A' qs.length c'] 29))
  have EQ := Lib.hid (eqSS_any A A' c c' rs qs B B' _ (h.below (D0.out.mono hB)) (h'.below (D0.out.mono hB')) hv (Nat.le_trans hB D0.out.size) (Nat.le_trans hB' D0.out.size) hn hrow)
  clear h h' hv hrow
  go_enter Try.func28, Try.ntmps28
  go_wp2_with fail
  refine EQ.out.mono ?_
  rintro e w1 ⟨rfl, hb⟩
  have D1 := Lib.hid (on2 _ _ hb)
  clear hb
  go_wp2
  go_ret
  exact ⟨rfl, D1.out⟩

set_option maxHeartbeats 1000000 in
theorem markP_any (r : Int) (A : Option Addr) (c : Nat) (k : Int) (rs : List Rw) (lo hi : Nat) (w : World) (h : OwnS w lo hi A c rs) (hhi : hi ≤ w.heap.size) (ht : rs.length + tot rs ≤ 1048576) (h0 : 0 ≤ k) (h1 : k ≤ 1099500000000) :
    Calls Try.prog 39 #[.agg #[.int .i64 r, .slice A rs.length c], .int .i64 k] w fun e w' => e = .returned (.int .i64 (k + tot rs)) ∧ OwnS w' lo hi A c (mk k rs) ∧ Kept lo hi w w' := by
  have H := Lib.hid h
  clear h
  go_enter Try.func39, Try.ntmps39
  go_wp2_with fail
  refine (markSS_any A c k rs lo hi _ (H.out.al hhi (al1 _ _)) (by simp; omega) ht h0 h1).mono ?_
  rintro e w1 ⟨rfl, hown, hkept⟩
  have HO := Lib.hid hown
  have HK := Lib.hid hkept
  clear hown hkept
  go_wp2
  go_ret
  exact ⟨rfl, HO.out, (Kept.of_below (al1 _ _) _ _).trans HK.out⟩

set_option maxHeartbeats 1000000 in
theorem heldP_any (r : Int) (A : Option Addr) (c : Nat) (k : Int) (rs : List Rw) (B : Nat) (w : World) (h : RdS w B A (mk k rs)) (hB : B ≤ w.heap.size) (ht : rs.length + tot rs ≤ 1048576) (h0 : 0 ≤ k) (h1 : k ≤ 1099500000000) :
    Calls Try.prog 48 #[.agg #[.int .i64 r, .slice A rs.length c], .int .i64 k] w fun e w' => e = .returned (.int .i64 (k + tot rs)) ∧ Below w.heap.size w w' := by
  have H := Lib.hid h
  clear h
  go_enter Try.func48, Try.ntmps48
  go_wp2_with fail
  refine (heldSS_any A c k rs B _ (H.out.below ((al1 _ _).mono hB)) ht h0 h1).mono ?_
  rintro e w1 ⟨rfl, rfl⟩
  go_wp2
  go_ret
  exact ⟨rfl, al1 _ _⟩

/-- Lists that are not too long for the laws' helpers. -/
def Sized (zss : List (List Int)) : Prop := zss.length + (zss.map List.length).sum ≤ 1048576
theorem tot_sum (rs : List Rw) : tot rs = ((vals rs).map List.length).sum := by
  induction rs with
  | nil => rfl
  | cons r rs ih => simp [tot, vals] at ih ⊢; omega
theorem row_le_tot {rs : List Rw} {r : Rw} (h : r ∈ rs) : r.zs.length ≤ tot rs := by
  induction rs with
  | nil => simp at h
  | cons q rs ih =>
    simp only [tot]
    rcases List.mem_cons.1 h with rfl | h
    · omega
    · have := ih h; omega
theorem Sized.tot {rs : List Rw} {zss : List (List Int)} (h : Sized zss) (hv : vals rs = zss) : rs.length + tot rs ≤ 1048576 := by
  subst hv
  rw [tot_sum, ← vals_len rs]
  exact h
theorem Sized.row {rs : List Rw} {zss : List (List Int)} (h : Sized zss) (hv : vals rs = zss) : ∀ r ∈ rs, r.zs.length ≤ 1048576 := fun r hr => by
  have h1 := h.tot hv
  have h2 := row_le_tot hr
  omega
theorem Sized.len {rs : List Rw} {zss : List (List Int)} (h : Sized zss) (hv : vals rs = zss) : rs.length ≤ 1048576 := by
  have h1 := h.tot hv
  omega
theorem sized_of {rs : List Rw} (h : rs.length + Go.Proofs.Ytakokhfnllpahaa.tot rs ≤ 1048576) : Sized (vals rs) := by
  unfold Sized
  rw [← tot_sum, vals_len]
  exact h

end Go.Proofs.Ytakokhfnllpahaa
