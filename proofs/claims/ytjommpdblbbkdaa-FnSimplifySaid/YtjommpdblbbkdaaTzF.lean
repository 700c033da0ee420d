/- The specification's copies of rows: l04Copy. No condition but those that each theorem names. -/
import Derived.Test.YtjommpdblbbkdaaWdN
namespace Go.Proofs.Ytjommpdblbbkdaa
open Go.RowKit

/-- Rows in new memory. -/
def ResSl (w : World) (zss : List (List Int)) (e : Ending) (w' : World) : Prop :=
  ∃ A c rs, e = .returned (.slice A rs.length c) ∧ OwnS w' w.heap.size w'.heap.size A c rs ∧ vals rs = zss ∧ Below w.heap.size w w'
/-- All but the one at i. -/
def exc (i : Int) (l : List (List Int)) : List (List Int) := if i < 0 then l else l.eraseIdx i.toNat
theorem exc_none {i : Int} (h : i < 0) (l : List (List Int)) : exc i l = l := by simp [exc, h]
theorem exc_at (i : Nat) (l : List (List Int)) : exc (i : Int) l = l.eraseIdx i := by simp [exc]; omega
theorem exc_keep {i : Int} (l : List (List Int)) {k : Nat} (hk : k < l.length) (hne : (k : Int) ≠ i) : exc i (l.take (k + 1)) = exc i (l.take k) ++ [l.getD k []] := by
  unfold exc
  split
  · rw [List.take_succ_eq_append_getElem hk, List.getD_eq_getElem?_getD, List.getElem?_eq_getElem hk]; rfl
  · exact Wd.er_keep l [] hk (by omega)
theorem exc_skip {i : Int} (l : List (List Int)) {k : Nat} (hk : k < l.length) (he : (k : Int) = i) : exc i (l.take (k + 1)) = exc i (l.take k) := by
  subst he
  rw [exc_at, exc_at]
  exact Wd.er_skip l hk
theorem exc_start (i : Int) : exc i [] = [] := by
  unfold exc
  split <;> simp

set_option maxRecDepth 100000 in
set_option maxHeartbeats 8000000 in
theorem copy_spec (i : Int) (A : Option Addr) (n c : Nat) (rs : List Rw) (w : World) (h : RdS w w.heap.size A rs) (hrn : rs.length = n) (hn : n ≤ 1048576) (hrow : ∀ q ∈ rs, q.zs.length ≤ 1048576) :
    Calls Try.prog 47 #[.slice A n c, .int .i64 i] w (ResSl w (exc i (vals rs))) := by
  have H := Lib.hid h
  have ROW := Lib.hid hrow
  have HN := Lib.hid hrn
  have O0 := Lib.hid (OwnS.empty w)
  have D0 := Lib.hid (al1 w (Obj.cells #[] 34))
  clear h hrow hrn
  go_enter Try.func47, Try.ntmps47
  go_wp2
  obtain ⟨V, hV⟩ : ∃ V, V = w.alloc (Obj.cells #[] 34) := ⟨_, rfl⟩
  have sV : V.heap.size = w.heap.size + 1 := by rw [hV]; simp
  have OV := Lib.hid (show OwnS V w.heap.size V.heap.size (some ⟨w.heap.size, 0, none⟩) 0 [] from by rw [hV]; exact O0.out.wide (Nat.le_refl _) (by simp))
  have DV := Lib.hid (show Below w.heap.size w V from by rw [hV]; exact D0.out)
  rw [← hV]
  clear hV O0 D0
  go_loopw [6, 5] (fun x out W => ∃ (k : Nat) (A2 : Option Addr) (q c2 : Nat) (qs : List Rw), k ≤ n ∧ x = .int .i64 k ∧ out = .slice A2 q c2 ∧ qs.length = q ∧ OwnS W w.heap.size W.heap.size A2 c2 qs ∧ vals qs = exc i ((vals rs).take k) ∧ Below w.heap.size w W ∧ q ≤ k) (fun x _ _ => n - (intOf x).toNat)
  case atStart => exact ⟨0, _, 0, _, [], Nat.zero_le _, rfl, rfl, rfl, OV.out, by simp [vals, exc_start], DV.out, Nat.le_refl _⟩
  case round =>
    obtain ⟨k, A2, q, c2, qs, hk, rfl, rfl, hq, ho, hv, hd, hqk⟩ := hrel
    have QL := Lib.hid hq
    have O := Lib.hid ho
    have V1 := Lib.hid hv
    have D := Lib.hid hd
    have zw : w.heap.size ≤ wr.heap.size := hd.size
    clear hq ho hv hd OV
    by_cases hlt : k < n
    · obtain ⟨b, off, Aj, cj, zj, rfl, hb, hr, hc, hjc, hjm, hj⟩ := (H.out.below D.out).at_ (j := k) (by rw [HN.out]; exact hlt)
      have hl := ROW.out _ (getD_mem (rs := rs) (j := k) (by rw [HN.out]; exact hlt))
      rw [hr] at hl
      dsimp only at hl
      by_cases hki : (k : Int) = i
      · have t1 : ((k : Int) != i) = false := by simpa using hki
        have NX := Lib.hid (show exc i ((vals rs).take (k + 1)) = exc i ((vals rs).take k) from exc_skip _ (by rw [vals_len, HN.out]; exact hlt) hki)
        clear hki hr hj
        go_wp2
        go_roundw
        case rel => exact ⟨k + 1, A2, q, c2, qs, by omega, by go_num, rfl, QL.out, O.out, by rw [NX.out]; exact V1.out, D.out, by omega⟩
        case measure => simp [intOf]; omega
      · have t1 : ((k : Int) != i) = true := by simpa using hki
        have NX := Lib.hid (show exc i ((vals rs).take (k + 1)) = exc i ((vals rs).take k) ++ [zj] from by
          rw [exc_keep _ (by rw [vals_len, HN.out]; exact hlt) hki, vals_getD, hr])
        have HJ := Lib.hid (hj.more zw)
        have i0 : (0 : Int) ≤ (k : Int) := by omega
        have i1 : (k : Int) < (n : Int) := by omega
        have hb' : b < wr.heap.size := by omega
        clear hki hr hj
        go_wp2_with (at_builtin; first
          | (refine Wd.push_any rfl _ _ rfl wr.heap.size (wr.heap.size + 1) 0 wr.heap.size 0 zj.length cj (some ⟨wr.heap.size, 0, none⟩) Aj [] zj rfl (by exact Wd.own_nil wr) rfl (by exact HJ.out.below (al1 wr _)) (by simp) (by simp) (by omega) ?_; intro A7 c7 w7 h5 h6; have O7 := Lib.hid (show Own w7 wr.heap.size w7.heap.size A7 zj.length c7 zj from by simpa using h5); have D7 := Lib.hid ((al1 wr _).trans (h6.below (Nat.le_refl _) (by simp))); have s7 := D7.out.size; clear h5 h6)
          | (refine push_row rfl _ _ rfl w.heap.size wr.heap.size wr.heap.size c2 q w7.heap.size A2 qs ⟨A7, c7, zj⟩ rfl QL.out (by exact O.out.below (D7.out.trans ((al1 w7 _).mono s7)) (Nat.le_refl _)) rfl (by exact Wd.alloc_first _ _ _ _ rfl) (by exact Rw.In.below (w := w7) ⟨(Wd.own_caps O7.out).1, (Wd.own_caps O7.out).2, O7.out.mine⟩ (al1 w7 _) (Nat.le_refl _) |>.wide (Nat.le_refl _) (by simp)) (Nat.le_refl _) zw (by simp; omega) (by simp; omega) (by omega) ?_; intro A8 c8 w8 h5 h6; have O8 := Lib.hid h5; have K8 := Lib.hid h6; have s8 := h6.size; simp only [World.size_alloc] at s8; clear h5 h6))
        have D8 := Lib.hid ((D.out.trans (D7.out.mono zw)).trans (((al1 w7 _).mono (by omega)).trans (K8.out.below (B := w.heap.size) (Nat.le_refl _) (by simp; omega))))
        go_roundw
        case rel => exact ⟨k + 1, A8, q + 1, c8, _, by omega, by go_num, rfl, by rw [List.length_append, QL.out]; rfl, O8.out, by rw [NX.out, ← V1.out]; simp [vals], D8.out, by omega⟩
        case measure => simp [intOf]; omega
    · obtain rfl : k = n := by omega
      have VA := Lib.hid (show vals qs = exc i (vals rs) from by rw [V1.out, List.take_of_length_le (by rw [vals_len, HN.out]; exact Nat.le_refl _)])
      go_wp2
      go_ret
      exact ⟨A2, c2, qs, by rw [QL.out]; rfl, O.out, VA.out, D.out⟩

end Go.Proofs.Ytjommpdblbbkdaa
