/- Parts of the program's moves: the rotation of a word, the place of a letter, the value of a generator. No condition but those that each theorem names. -/
import Derived.Test.YtjommpdblbbkdaaWdP
import Derived.Test.YtjommpdblbbkdaaDsA
import Derived.StillTailTactics
import Derived.Deep.DeepCutAuto
namespace Go.Proofs.Ytjommpdblbbkdaa
open Go.RowKit

namespace Wd
/-- The first letter at the end. -/
def rot (l : List Int) : List Int := l.drop 1 ++ l.take 1
theorem rot_len (l : List Int) : (rot l).length = l.length := by simp [rot]; omega
/-- A part of a list that reads. -/
theorem ints_part {w : World} {B b off n : Nat} {zs : List Int} (h : Ints w B (some ⟨b, off, none⟩) n zs) {i j : Nat} (hij : i ≤ j) (hj : j ≤ n) : Ints w B (some ⟨b, off + i, none⟩) (j - i) (Lau.cut zs i j) := ⟨Lau.cut_len (by rw [h.1]; exact hj), fun h0 => by
  obtain ⟨b', off', e, hb, hc⟩ := h.2 (by omega)
  cases e
  refine ⟨b, off + i, rfl, hb, fun t ht => ?_⟩
  rw [Lau.cut_at ht, Nat.add_assoc]
  exact hc (i + t) (by omega)⟩
theorem ints_nil {w : World} {B : Nat} (A : Option Addr) : Ints w B A 0 [] := ⟨rfl, fun h => by omega⟩
end Wd
theorem NewS.resLM {w w' : World} {l : List Int} {e : Ending} (h : NewS w l e w') : ResLM w l e w' := by
  obtain ⟨A, c, he, h1, h2, h3, h4⟩ := h
  exact ⟨A, c, he, ⟨h1, h2⟩, h3.mine, h4⟩

set_option maxRecDepth 100000 in
set_option maxHeartbeats 4000000 in
theorem rotated_impl (A : Option Addr) (n c : Nat) (zs : List Int) (w : World) (h : Ints w w.heap.size A n zs) (hn : n ≤ 1048576) (hc : n ≤ c) (hm : c ≤ maxLen) :
    Calls Try.prog 67 #[.slice A n c] w (ResLM w (Wd.rot zs)) := by
  unfold maxLen at hm
  have hl := Lib.hid h.1
  by_cases h0 : n = 0
  · subst h0
    have E := Lib.hid (show Wd.rot zs = [] from by rw [List.length_eq_zero_iff.1 h.1]; rfl)
    clear h
    go_enter Try.func67, Try.ntmps67
    go_wp2
    go_ret
    rw [E.out]
    exact ⟨none, 0, rfl, ⟨Nat.le_refl _, Nat.zero_le _⟩, Mine.none_ _ _ _ _, Below.refl _ _⟩
  · have t0 : ((n : Int) == 0) = false := by simpa using h0
    have t1 : (1 : Int) ≤ (n : Int) := by omega
    have t2 : (1 : Int) ≤ (c : Int) := by omega
    have n1 : 1 ≤ n := by omega
    have c1 : 1 ≤ c := by omega
    obtain ⟨b, off, rfl, hb, _⟩ := h.2 (by omega)
    have H := Lib.hid h
    have SPL := Lib.hid (show Lau.cut zs 1 n ++ Lau.cut zs 0 1 = Wd.rot zs from by
      unfold Wd.rot Lau.cut
      rw [List.take_of_length_le (Nat.le_of_eq h.1), List.drop_zero])
    clear h
    have W1 := Lib.hid (fun (A1 A2 : Option Addr) (c1 c2 : Nat) (W : World) (h1 : Ints W W.heap.size A1 (n - 1) (Lau.cut zs 1 n)) (h2 : Ints W W.heap.size A2 1 (Lau.cut zs 0 1)) =>
      concat_any A1 A2 (n - 1) c1 1 c2 W.heap.size (Lau.cut zs 1 n) (Lau.cut zs 0 1) (W.alloc (Obj.cells #[.slice A1 (n - 1) c1, .slice A2 1 c2] 34)) (h1.into (al1 _ _)) (h2.into (al1 _ _)) (by omega) (BoxG.new _ _ _ _) (by simp))
    rw [SPL.out] at W1
    by_cases hc1 : c = 1
    · obtain rfl : n = 1 := by omega
      subst hc1
      go_enter Try.func67, Try.ntmps67
      go_upto_region 3 with fail
      go_still_tail 4, (by kernel_rfl)
      change wpList _ _ _ _ _ w.drew
      have HX := Lib.hid (show Ints w.drew w.drew.heap.size (some ⟨b, off, none⟩) 1 zs from H.out)
      have DX := Lib.hid (show Below w.heap.size w w.drew from (Below.refl _ _).drew)
      obtain ⟨V, hV⟩ : ∃ V, V = w.drew := ⟨_, rfl⟩
      have zV : w.heap.size ≤ V.heap.size := by rw [hV]; exact Nat.le_refl _
      rw [← hV] at HX DX
      rw [← hV]
      clear hV
      have P2 := Lib.hid (Wd.ints_part HX.out (i := 0) (j := 1) (by omega) (by omega))
      rw [Nat.add_zero, Nat.sub_zero] at P2
      go_wp2_with fail
      refine (W1.out _ _ _ _ _ (by rw [Lau.cut_none]; exact Wd.ints_nil _) P2.out).mono ?_
      rintro e w1 ⟨A1, c1', rfl, q1, q2, hown, hb1⟩
      have O := Lib.hid hown
      have D := Lib.hid (DX.out.trans ((on1 _ hb1).mono zV))
      clear hown hb1
      go_wp2
      go_ret
      exact ⟨A1, c1', rfl, ⟨q1, q2⟩, O.out.mine.wide (by simp; omega) (Nat.le_refl _), D.out⟩
    · go_enter Try.func67, Try.ntmps67
      go_upto_region 3 with fail
      go_still_tail 4, (by kernel_rfl)
      change wpList _ _ _ _ _ w.drew
      have HX := Lib.hid (show Ints w.drew w.drew.heap.size (some ⟨b, off, none⟩) n zs from H.out)
      have DX := Lib.hid (show Below w.heap.size w w.drew from (Below.refl _ _).drew)
      obtain ⟨V, hV⟩ : ∃ V, V = w.drew := ⟨_, rfl⟩
      have zV : w.heap.size ≤ V.heap.size := by rw [hV]; exact Nat.le_refl _
      rw [← hV] at HX DX
      rw [← hV]
      clear hV
      have P1 := Lib.hid (Wd.ints_part HX.out (i := 1) (j := n) (by omega) (by omega))
      have P2 := Lib.hid (Wd.ints_part HX.out (i := 0) (j := 1) (by omega) (by omega))
      rw [Nat.add_zero, Nat.sub_zero] at P2
      go_wp2_with fail
      refine (W1.out _ _ _ _ _ P1.out P2.out).mono ?_
      rintro e w1 ⟨A1, c1', rfl, q1, q2, hown, hb1⟩
      have O := Lib.hid hown
      have D := Lib.hid (DX.out.trans ((on1 _ hb1).mono zV))
      clear hown hb1
      go_wp2
      go_ret
      exact ⟨A1, c1', rfl, ⟨q1, q2⟩, O.out.mine.wide (by simp; omega) (Nat.le_refl _), D.out⟩

end Go.Proofs.Ytjommpdblbbkdaa
