/- Contract of the library's function that turns a slice of int64 round. No condition but those that each theorem names. -/
import Derived.Test.YtpkjjcfcpmcdiaaLauC
import Derived.RegionTactic
namespace Go.Proofs.Ytpkjjcfcpmcdiaa
open Go.RowKit

/-- A list of which k numbers at either end have been exchanged. -/
def Turned (zs L : List Int) (k : Nat) : Prop := L.length = zs.length ∧ ∀ t, t < zs.length → L.getD t 0 = if t < k ∨ zs.length - k ≤ t then zs.getD (zs.length - 1 - t) 0 else zs.getD t 0
theorem Turned.zero (zs : List Int) : Turned zs zs 0 := ⟨rfl, fun t ht => by rw [if_neg (by omega)]⟩
theorem Turned.fin {zs L : List Int} {k : Nat} (h : Turned zs L k) (hk : zs.length ≤ 2 * k + 1) : L = zs.reverse := by
  apply List.ext_getElem
  · rw [List.length_reverse]; exact h.1
  · intro i h1 h2
    have hi : i < zs.length := by have := h.1; omega
    have := h.2 i hi
    rw [List.getElem_reverse]
    have e1 : L.getD i 0 = L[i] := by simp [List.getElem?_eq_getElem h1]
    have e2 : zs.getD (zs.length - 1 - i) 0 = zs[zs.length - 1 - i] := by simp [List.getElem?_eq_getElem (show zs.length - 1 - i < zs.length by omega)]
    rw [← e1, ← e2, this]
    split
    · rfl
    · rw [show zs.length - 1 - i = i by omega]
theorem getD_set {l : List Int} {i : Nat} (x : Int) (t : Nat) (h : i < l.length) : (l.set i x).getD t 0 = if t = i then x else l.getD t 0 := by
  by_cases e : t = i
  · subst e
    rw [if_pos rfl, List.getD_eq_getElem?_getD, List.getElem?_set_self h]; rfl
  · rw [if_neg e, List.getD_eq_getElem?_getD, List.getElem?_set_ne (by omega), ← List.getD_eq_getElem?_getD]
theorem Turned.swap {zs L : List Int} {k j : Nat} (h : Turned zs L k) (hj : k + j + 1 = zs.length) (hk : k < j) : Turned zs ((L.set k (L.getD j 0)).set j (L.getD k 0)) (k + 1) := by
  have h1 := h.1
  refine ⟨by simp [h1], fun t ht => ?_⟩
  rw [getD_set _ _ (by rw [List.length_set]; omega), getD_set _ _ (by omega)]
  have hk1 := h.2 k (by omega)
  have hj1 := h.2 j (by omega)
  rw [if_neg (by omega)] at hk1 hj1
  by_cases e1 : t = j
  · subst e1
    rw [if_pos rfl, if_pos (by omega), hk1]
    congr 1; omega
  · rw [if_neg e1]
    by_cases e2 : t = k
    · subst e2
      rw [if_pos rfl, if_pos (by omega), hj1]
      congr 1; omega
    · rw [if_neg e2, h.2 t ht]
      by_cases e3 : t < k ∨ zs.length - k ≤ t
      · rw [if_pos e3, if_pos (by omega)]
      · rw [if_neg e3, if_neg (by omega)]

theorem Own.drawn_ {w : World} {lo hi : Nat} {A : Option Addr} {n c m : Nat} {zs : List Int} (h : Own w lo hi A n c zs) : Own (w.drewN m) lo hi A n c zs := h

set_option maxHeartbeats 2000000 in
theorem reverse_any (A : Option Addr) (n c lo hi : Nat) (zs : List Int) (w : World) (h : Own w lo hi A n c zs) (hhi : hi ≤ w.heap.size) (hn : n ≤ 1048576) :
    Calls Try.prog 21 #[.slice A n c] w fun e w' => e = .returned (.tuple #[]) ∧ Own w' lo hi A n c zs.reverse ∧ Kept lo hi w w' := by
  have hl := Lib.hid h.len
  have H := Lib.hid h
  clear h
  go_enter Try.func21, Try.ntmps21
  go_wp2
  go_loopw [2, 3] (fun x y wr => ∃ (k : Nat) (L : List Int), x = .int .i64 k ∧ y = .int .i64 ((n : Int) - 1 - k) ∧ 2 * k ≤ n + 1 ∧ Turned zs L k ∧ Own wr lo hi A n c L ∧ Kept lo hi w wr) (fun x _ _ => n - (intOf x).toNat)
  case atStart => exact ⟨0, zs, rfl, by simp, by omega, Turned.zero _, H.out, Kept.refl _ _ _⟩
  case round =>
    obtain ⟨k, L, rfl, rfl, hk2, hT, hown, hkept⟩ := hrel
    have HT := Lib.hid hT
    have HO := Lib.hid hown
    have HK := Lib.hid hkept
    have sz : w.heap.size ≤ wr.heap.size := hkept.size
    clear hT hown hkept
    by_cases hlt : 2 * k + 1 < n
    · obtain ⟨g, zi, rfl, hlo, hhi2, hzi, hci, hfi⟩ := HO.out.at_ (k := k) (by omega)
      obtain ⟨g', zj, eg, _, _, hzj, hcj, hfj⟩ := HO.out.at_ (k := n - 1 - k) (by omega)
      cases eg
      obtain ⟨j, hj⟩ : ∃ j : Nat, n - 1 - k = j := ⟨_, rfl⟩
      rw [hj] at hcj hfj hzj
      have ej : (n : Int) - 1 - (k : Int) = (j : Int) := by omega
      have JK := Lib.hid (show k + j + 1 = n by omega)
      have hkj : k < j := by omega
      have hjn : j < n := by omega
      have hkn : k < n := by omega
      rw [ej]
      have i0 : (0 : Int) ≤ (k : Int) := by omega
      have i1 : (k : Int) < (n : Int) := by omega
      have i2 : (0 : Int) ≤ (j : Int) := by omega
      have i3 : (j : Int) < (n : Int) := by omega
      have i4 : (k : Int) < (j : Int) := by omega
      have hne : ¬ k = j := by omega
      have hne' : ¬ j = k := by omega
      have hgw : g < wr.heap.size := by omega
      have QS := Lib.hid (HT.out.swap (k := k) (j := j) (by have := hl.out; have := JK.out; omega) hkj)
      rw [hzi, hzj] at QS
      clear hzi hzj ej hj
      go_wp2
      go_region
      all_goals
        go_wp2
        go_roundw
        case rel => exact ⟨k + 1, (L.set k zj).set j zi, by go_num, by have := JK.out; congr 1; omega, by have := JK.out; omega, QS.out, (HO.out.drawn_.set_ _ _).set_ _ _, ((HK.out.drewN _).set_ (p := ⟨g, k, none⟩) hlo hhi2 _).set_ (p := ⟨g, j, none⟩) hlo hhi2 _⟩
        case measure => simp [intOf]; omega
    · have i4 : ¬ (k : Int) < (n : Int) - 1 - (k : Int) := by omega
      have HR := Lib.hid (HT.out.fin (by have := hl.out; omega))
      go_wp2
      go_end0
      exact ⟨rfl, by rw [← HR.out]; exact HO.out, HK.out⟩

end Go.Proofs.Ytpkjjcfcpmcdiaa
