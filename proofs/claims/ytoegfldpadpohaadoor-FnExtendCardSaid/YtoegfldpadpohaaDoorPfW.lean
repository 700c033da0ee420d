/- The laws' order drawn by the dice. No condition but those that each theorem names. -/
import Derived.Test.YtoegfldpadpohaaDoorDic
import Derived.Test.YtoegfldpadpohaaDoorPfB
import Derived.Test.YtoegfldpadpohaaDoorPfV
namespace Go.Proofs.YtoegfldpadpohaaDoor
open Go.RowKit

theorem Kept.setNew {a w : World} {lo hi : Nat} (h : Kept lo hi a w) {p : Addr} (hp : a.heap.size ≤ p.block) (u : Value) : Kept lo hi a (w.setCell p u) :=
  ⟨h.os, h.tape, h.output, by simpa [World.setCell] using h.size, fun k hk hn => (Below.heap_setCell w p u k (by omega)).trans (h.block k hk hn)⟩
theorem Dic.far {w : World} {g : Nat} {A : Option Addr} {n c : Nat} {a x : Int} (h : Dic w g A n c a x) {p : Addr} (hp : g ≠ p.block) (u : Value) : Dic (w.setCell p u) g A n c a x := by
  have e := Below.heap_setCell w p u g hp
  exact ⟨⟨(World.cell?_of_block (a := ⟨g, 0, none⟩) e).trans h.1.1, (World.cell?_of_block (a := ⟨g, 1, none⟩) e).trans h.1.2.1, (World.cell?_of_block (a := ⟨g, 2, none⟩) e).trans h.1.2.2⟩, fun o => (World.frozen?_of_block (a := ⟨g, o, none⟩) e).trans (h.2.1 o), h.2.2⟩
/-- A list of four with two places exchanged. -/
def P4.swap (l : List Int) (i j : Nat) : List Int := (l.set i (l.getD j 0)).set j (l.getD i 0)
theorem P4.swap_ix : ∀ s, s < 24 → ∀ i, i < 4 → ∀ j, j < 4 → P4.ix (P4.swap (P4.im s) i j) < 24 := by decide +kernel
theorem P4.upto : ∀ k, k ≤ 4 → (marks 0 k) = (P4.im 0).take k := by decide +kernel
/-- An order of four, in memory of the call's own, and the dice behind it. -/
def OrdR (w : World) (g : Nat) (A : Option Addr) (n c : Nat) (e : Ending) (w' : World) : Prop :=
  ∃ b c2 s a x, s < 24 ∧ e = .returned (.slice (some ⟨b, 0, none⟩) 4 c2) ∧ Own w' b (b + 1) (some ⟨b, 0, none⟩) 4 c2 (P4.im s) ∧ w.heap.size ≤ b ∧ b < w'.heap.size ∧ Dic w' g A n c a x ∧ Kept g (g + 1) w w'

set_option maxRecDepth 100000 in
set_option maxHeartbeats 8000000 in
theorem order4_impl (g : Nat) (A : Option Addr) (n c : Nat) (bs : List Int) (a x : Int) (w : World) (h : Bys w g A n bs) (hn : n ≤ 4096) (hs : Dic w g A n c a x) :
    Calls Tryd.prog 23 #[.pointer (some ⟨g, 0, none⟩), .int .i64 4] w (OrdR w g A n c) := by
  have H := Lib.hid h
  have S := Lib.hid hs
  have gl := hs.lt
  have O0 := Lib.hid (Wd.own_nil w)
  have D0 := Lib.hid (al1 w (Obj.cells #[] 2))
  clear h hs
  go_enter Tryd.func23, Tryd.ntmps23
  go_wp2
  go_loopw [5, 6] (fun o i W => ∃ k : Nat, k ≤ 4 ∧ i = .int .i64 k ∧ ∃ b c2, o = .slice (some ⟨b, 0, none⟩) k c2 ∧ Own W w.heap.size W.heap.size (some ⟨b, 0, none⟩) k c2 ((P4.im 0).take k) ∧ w.heap.size ≤ b ∧ b < W.heap.size ∧ Below w.heap.size w W) (fun _ i _ => 4 - (intOf i).toNat)
  case atStart => exact ⟨0, Nat.zero_le _, rfl, _, _, rfl, O0.out.wide (Nat.le_refl _) (by simp), Nat.le_refl _, by simp, D0.out⟩
  case round =>
    obtain ⟨k, hk, rfl, b, c2, rfl, ho, hb0, hb1, hbel⟩ := hrel
    have O := Lib.hid ho
    have D := Lib.hid hbel
    have zD := hbel.size
    clear ho hbel O0 D0
    by_cases hlt : k < 4
    · have NX := Lib.hid (show (P4.im 0).take (k + 1) = (P4.im 0).take k ++ [(k : Int)] from by
        have h : k = 0 ∨ k = 1 ∨ k = 2 ∨ k = 3 := by omega
        rcases h with rfl | rfl | rfl | rfl <;> rfl)
      have i1 : (k : Int) < 4 := by omega
      go_wp2_with (at_builtin; refine Wd.push_int rfl _ _ rfl w.heap.size wr.heap.size c2 wr.heap.size k (some ⟨b, 0, none⟩) _ (k : Int) rfl (by exact O.out.below (al1 wr _) (Nat.le_refl _)) rfl (by exact Wd.alloc_first _ _ _ _ rfl) (by simp; omega) (by omega) ?_; intro A7 c7 w7 h5 h6; obtain ⟨g7, z7, rfl, hg7, hg7', hx1, hx2, hx3⟩ := h5.at_ (k := k) (by omega); clear hx1 hx2 hx3; have O7 := Lib.hid h5; have D7 := Lib.hid ((D.out.trans ((al1 wr _).mono D.out.size)).trans (h6.below (Nat.le_refl _) (by simp; omega))); clear h5 h6)
      go_roundw
      case rel => exact ⟨k + 1, by omega, by go_num, g7, c7, rfl, by rw [NX.out]; exact O7.out, hg7, hg7', D7.out⟩
      case measure => simp [intOf]; omega
    · obtain rfl : k = 4 := by omega
      have O4 := Lib.hid (show Own wr b (b + 1) (some ⟨b, 0, none⟩) 4 c2 (P4.im 0) from O.out.tight)
      have DC := Lib.hid (S.out.below D.out gl)
      have KP := Lib.hid (Kept.of_below D.out g (g + 1))
      clear O D
      go_wp2
      (try rw [show ((4 : Nat) : Int) = 4 from rfl])
      go_loopw [7] (fun i W => ∃ k : Nat, k ≤ 3 ∧ i = .int .i64 k ∧ ∃ s a x, s < 24 ∧ Own W b (b + 1) (some ⟨b, 0, none⟩) 4 c2 (P4.im s) ∧ b < W.heap.size ∧ Dic W g A n c a x ∧ Kept g (g + 1) w W) (fun i _ => (intOf i).toNat)
      case atStart => exact ⟨3, Nat.le_refl _, rfl, 0, a, x, by omega, O4.out, hb1, DC.out, KP.out⟩
      case round =>
        obtain ⟨k, hk, rfl, s, a2, x2, hs, ho, hb2, hd, hkp⟩ := hrel
        have O := Lib.hid ho
        have DC2 := Lib.hid hd
        have KP2 := Lib.hid hkp
        have zK := hkp.size
        clear ho hd hkp O4 DC KP
        by_cases hpos : 0 < k
        · have i1 : (0 : Int) < (k : Int) := by omega
          have BI := Lib.hid (H.out.kept KP2.out (Nat.le_refl _) (by omega))
          have ws : IntKind.i64.wrap ((k : Int) + 1) = (k : Int) + 1 := IntWalk.i64_in _ (by omega)
          go_wp2_with fail
          refine (below_impl g A n c bs ((k : Int) + 1) _ _ _ BI.out hn DC2.out (by omega) (by omega)).mono ?_
          rintro e w3 ⟨v, a3, x3, rfl, v0, v1, hd3, hk3⟩
          obtain ⟨j, rfl⟩ : ∃ j : Nat, v = j := ⟨v.toNat, by omega⟩
          have DC3 := Lib.hid hd3
          have KP3 := Lib.hid (show Kept g (g + 1) w w3 from KP2.out.trans hk3)
          have O3 := Lib.hid (O.out.kept hk3 (by omega) (.inr (by omega)))
          have z3 := hk3.size
          clear hd3 hk3 O DC2 KP2 BI
          obtain ⟨b', zi, e1, _, _, hzi, hci, hfi⟩ := O3.out.at_ (k := k) (by omega)
          cases e1
          obtain ⟨b', zj, e2, _, _, hzj, hcj, hfj⟩ := O3.out.at_ (k := j) (by omega)
          cases e2
          have SW := Lib.hid (show ((P4.im s).set k zj).set j zi = P4.im (P4.ix (P4.swap (P4.im s) k j)) from by
            rw [P4.im_ix (P4.swap_ix s hs k (by omega) j (by omega)), P4.swap, hzi, hzj])
          have SL := P4.swap_ix s hs k (by omega) j (by omega)
          obtain ⟨s', hs'⟩ : ∃ s', P4.ix (P4.swap (P4.im s) k j) = s' := ⟨_, rfl⟩
          rw [hs'] at SW SL
          have cj := (O3.out.set_ k zj).at_ (k := j) (by omega)
          obtain ⟨b', zj', e3, _, _, _, hcj', hfj'⟩ := cj
          cases e3
          have j1 : (j : Int) < 4 := by omega
          have k1 : (k : Int) < 4 := by omega
          clear hzi hzj hs'
          go_wp2
          go_roundw
          case rel => exact ⟨k - 1, by omega, by congr 1; omega, s', a3, x3, SL, by rw [← SW.out]; exact (O3.out.set_ k zj).set_ j zi, by simp [World.setCell]; omega, (DC3.out.far (by dsimp only; omega) _).far (by dsimp only; omega) _, (KP3.out.setNew (by dsimp only; omega) _).setNew (by dsimp only; omega) _⟩
          case measure => simp [intOf]; omega
        · obtain rfl : k = 0 := by omega
          go_wp2
          go_ret
          exact ⟨b, c2, s, a2, x2, hs, rfl, O.out, hb0, hb2, DC2.out, KP2.out⟩

end Go.Proofs.YtoegfldpadpohaaDoor
