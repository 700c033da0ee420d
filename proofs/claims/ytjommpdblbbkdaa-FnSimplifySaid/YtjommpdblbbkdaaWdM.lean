/- A relator in which a generator is replaced: the program's replacedIn. No condition but those that each theorem names. -/
import Derived.Test.YtjommpdblbbkdaaWdL
namespace Go.Proofs.Ytjommpdblbbkdaa
open Go.RowKit

namespace Wd
/-- The first k letters renumbered. -/
def renK (g : Int) (l : List Int) (k : Nat) : List Int := (l.take k).map (ren g) ++ l.drop k
theorem renK_zero (g : Int) (l : List Int) : renK g l 0 = l := by simp [renK]
theorem renK_all (g : Int) (l : List Int) {k : Nat} (h : l.length = k) : renK g l k = l.map (ren g) := by simp [renK, ← h]
theorem renK_len (g : Int) (l : List Int) (k : Nat) : (renK g l k).length = l.length := by simp [renK]; omega
theorem renK_at (g : Int) (l : List Int) {k : Nat} (h : k < l.length) : (renK g l k).getD k 0 = l.getD k 0 := by
  have e : ((l.take k).map (ren g)).length = k := by simp; omega
  rw [renK, List.getD_eq_getElem?_getD, List.getElem?_append_right (by omega), e, Nat.sub_self, List.getElem?_drop, Nat.add_zero, ← List.getD_eq_getElem?_getD]
theorem renK_set (g : Int) (l : List Int) {k : Nat} (h : k < l.length) : (renK g l k).set k (ren g (l.getD k 0)) = renK g l (k + 1) := by
  have e : ((l.take k).map (ren g)).length = k := by simp; omega
  have e2 : l.drop k = l.getD k 0 :: l.drop (k + 1) := by
    rw [List.drop_eq_getElem_cons h, List.getD_eq_getElem?_getD, List.getElem?_eq_getElem h]; rfl
  unfold renK
  rw [List.set_append_right _ _ (by omega), e, Nat.sub_self, e2, List.set_cons_zero, take_snoc l h, List.map_append, List.append_assoc]
  rfl
theorem renK_keep (g : Int) (l : List Int) {k : Nat} (h : k < l.length) (hk : ren g (l.getD k 0) = l.getD k 0) : renK g l (k + 1) = renK g l k := by
  rw [← renK_set g l h, hk]
  have hlen : k < (renK g l k).length := by rw [renK_len]; exact h
  have := renK_at g l h
  rw [List.getD_eq_getElem?_getD, List.getElem?_eq_getElem hlen] at this
  rw [← this]
  exact List.set_getElem_self hlen
theorem sub_take (g : Int) (b l : List Int) {k : Nat} (h : k < l.length) : sub g b (l.take (k + 1)) = sub g b (l.take k) ++ (if l.getD k 0 = g then b else if l.getD k 0 = -g then inv b else [l.getD k 0]) := by
  rw [take_snoc l h, sub_snoc]
theorem sub_sm {g : Int} {b l : List Int} (hb : Sm b) (hl : Sm l) : Sm (sub g b l) := fun x hx => by
  rcases sub_mem hx with h | h | h
  · exact hb x h
  · have := hb _ h; omega
  · exact hl x h.1
end Wd

set_option maxRecDepth 100000 in
set_option maxHeartbeats 8000000 in
theorem tz_replaced (i g : Int) (A B : Option Addr) (n c m cb : Nat) (zs ys : List Int) (w : World) (h : Ints w w.heap.size A n zs) (h2 : Ints w w.heap.size B m ys) (hn : n ≤ 120) (hm : m ≤ 120) (hg : 1 ≤ g) (hg' : g ≤ 900) (hs : Wd.Sm zs) (hs2 : Wd.Sm ys) :
    Calls Try.prog 73 #[.agg #[.int .i64 i, .int .i64 g], .slice A n c, .slice B m cb] w (ResLM w ((Wd.sub g ys zs).map (Wd.ren g))) := by
  have hl := Lib.hid h.1
  have hl2 := Lib.hid h2.1
  have H := Lib.hid h
  have H2 := Lib.hid h2
  have S := Lib.hid hs
  have S2 := Lib.hid hs2
  have SS := Lib.hid (Wd.sub_sm (g := g) hs2 hs)
  have NG : IntKind.i64.wrap (-g) = -g := IntWalk.i64_in _ (by omega)
  have K0 := Lib.hid (BoxG.new w 83 (.int .i64 i) (.int .i64 g))
  have ILN := Lib.hid (show (Wd.inv ys).length = m from by rw [Wd.inv_len]; exact h2.1)
  have BND := Lib.hid (fun k (hk : k ≤ n) => (show (Wd.sub g ys (zs.take k)).length ≤ 14520 from by
    have h3 := Wd.sub_len g ys (zs.take k)
    have h4 : (zs.take k).length ≤ 120 := by rw [List.length_take]; omega
    have h5 : ys.length + 1 ≤ 121 := by rw [h2.1]; omega
    have := Nat.mul_le_mul h4 h5
    omega))
  clear h h2 hs hs2
  go_enter Try.func73, Try.ntmps73
  go_wp2_with fail
  refine (invw_impl B m cb ys _ (H2.out.into (al1 _ _)) (by omega) S2.out).mono ?_
  rintro e w1 ⟨R, t, rfl, hc1, hm1, hb1⟩
  rw [ILN.out] at hm1 ⊢
  have z1 : w.heap.size < w1.heap.size := by have := hb1.size; simp at this; omega
  have K1 := Lib.hid (K0.out.below hb1 (by simp))
  have I1 := Lib.hid hm1
  have D1 := Lib.hid (on1 _ hb1)
  have hmk := Wd.run_make_cap (n + m) (by omega) w1
  have wnm : IntKind.i64.wrap ((n : Int) + (m : Int)) = ((n + m : Nat) : Int) := by rw [IntWalk.i64_in _ (by omega)]; push_cast; rfl
  have O0 := Lib.hid (Wd.own_new w1 (n + m) (by omega))
  have D0 := Lib.hid (al1 w1 (.cells (Array.replicate (n + m) (Value.int .i64 0)) 2))
  have hmk2 : (Instr.makeSlice 34 (.int .i64 0) (.int .i64 ((n : Int) + (m : Int)))).run Try.prog w1 = .ok (.slice (some ⟨w1.heap.size, 0, none⟩) 0 (n + m)) (w1.alloc (.cells (Array.replicate (n + m) (Value.int .i64 0)) 2)) := by
    have := hmk
    push_cast at this
    simpa using this
  clear hc1 hm1 hb1 K0 hmk
  go_wp2
  clear hmk2 wnm
  obtain ⟨V, hV⟩ : ∃ V, V = w1.alloc (.cells (Array.replicate (n + m) (Value.int .i64 0)) 2) := ⟨_, rfl⟩
  have zV : w1.heap.size < V.heap.size := by rw [hV]; simp
  have O1 := Lib.hid (show Own V w1.heap.size V.heap.size (some ⟨w1.heap.size, 0, none⟩) 0 (n + m) [] from by rw [hV]; exact O0.out.wide (Nat.le_refl _) (by simp))
  have D2 := Lib.hid (show Below w1.heap.size w1 V from by rw [hV]; exact D0.out)
  have K2 := Lib.hid (K1.out.below D2.out z1)
  have I2 := Lib.hid (I1.out.ints.below D2.out)
  have DW := Lib.hid (D1.out.trans (D2.out.mono (by omega)))
  rw [← hV]
  clear hV O0 D0 K1 I1
  go_loopw [23, 8] (fun x out W => ∃ (k : Nat) (A2 : Option Addr) (q c2 : Nat), k ≤ n ∧ x = .int .i64 k ∧ out = .slice A2 q c2 ∧ Own W w1.heap.size W.heap.size A2 q c2 (Wd.sub g ys (zs.take k)) ∧ Below w1.heap.size V W) (fun x _ _ => n - (intOf x).toNat)
  case atStart => exact ⟨0, _, 0, _, Nat.zero_le _, rfl, rfl, O1.out, Below.refl _ _⟩
  case round =>
    obtain ⟨k, A2, q, c2, hk, rfl, rfl, ho, hbel⟩ := hrel
    have O := Lib.hid ho
    have D := Lib.hid hbel
    have hq : q ≤ 14520 := by have := BND.out k hk; rw [ho.len] at this; exact this
    have zW : V.heap.size ≤ wr.heap.size := hbel.size
    clear ho hbel O1
    obtain ⟨k0, k1⟩ := K2.out.below D.out z1
    by_cases hlt : k < n
    · have NX := Lib.hid (Wd.sub_take g ys zs (k := k) (by rw [hl.out]; exact hlt))
      have hzb := S.out.at_ (k := k) (by rw [hl.out]; exact hlt)
      obtain ⟨b, off, z, rfl, hb, hz, hc⟩ := ((H.out.below DW.out).below (D.out.mono (by omega))).at_z hlt
      rw [hz] at NX hzb
      obtain ⟨zb1, zb2⟩ := hzb
      clear hz
      by_cases e1 : z = g
      · have t1 : (z == g) = true := by simpa using e1
        have N2 := Lib.hid (show Wd.sub g ys (zs.take (k + 1)) = Wd.sub g ys (zs.take k) ++ ys from by rw [NX.out, if_pos e1])
        clear e1
        go_wp2_with (at_builtin; refine Wd.push_any rfl _ _ rfl w1.heap.size wr.heap.size c2 w.heap.size q m cb A2 B _ ys rfl (by exact O.out) rfl (by exact (H2.out.below DW.out).below (D.out.mono (by omega))) (by omega) (Nat.le_refl _) (by omega) ?_; intro A7 c7 w7 h5 h6; have O7 := Lib.hid h5; have D7 := Lib.hid (D.out.trans (h6.below (Nat.le_refl _) (by omega))); clear h5 h6)
        go_roundw
        case rel => exact ⟨k + 1, A7, _, c7, by omega, by go_num, rfl, by rw [N2.out]; exact O7.out, D7.out⟩
        case measure => simp [intOf]; omega
      have t1 : (z == g) = false := by simpa using e1
      by_cases e2 : z = -g
      · have t2 : (z == -g) = true := by simpa using e2
        have N2 := Lib.hid (show Wd.sub g ys (zs.take (k + 1)) = Wd.sub g ys (zs.take k) ++ Wd.inv ys from by rw [NX.out, if_neg e1, if_pos e2])
        clear e1 e2
        go_wp2_with (at_builtin; refine Wd.push_any rfl _ _ rfl w1.heap.size wr.heap.size c2 w1.heap.size q m t A2 R _ (Wd.inv ys) rfl (by exact O.out) rfl (by exact I2.out.below D.out) (by omega) (Nat.le_refl _) (by omega) ?_; intro A7 c7 w7 h5 h6; have O7 := Lib.hid h5; have D7 := Lib.hid (D.out.trans (h6.below (Nat.le_refl _) (by omega))); clear h5 h6)
        go_roundw
        case rel => exact ⟨k + 1, A7, _, c7, by omega, by go_num, rfl, by rw [N2.out]; exact O7.out, D7.out⟩
        case measure => simp [intOf]; omega
      have t2 : (z == -g) = false := by simpa using e2
      have N2 := Lib.hid (show Wd.sub g ys (zs.take (k + 1)) = Wd.sub g ys (zs.take k) ++ [z] from by rw [NX.out, if_neg e1, if_neg e2])
      clear e1 e2
      go_wp2_with (at_builtin; refine Wd.push_int rfl _ _ rfl w1.heap.size wr.heap.size c2 wr.heap.size q A2 _ z rfl (by exact O.out.below (al1 wr _) (Nat.le_refl _)) rfl (by exact Wd.alloc_first _ _ _ _ rfl) (by simp; omega) (by omega) ?_; intro A7 c7 w7 h5 h6; have O7 := Lib.hid h5; have D7 := Lib.hid ((D.out.trans ((al1 wr _).mono (by omega))).trans (h6.below (Nat.le_refl _) (by simp; omega))); clear h5 h6)
      go_roundw
      case rel => exact ⟨k + 1, A7, _, c7, by omega, by go_num, rfl, by rw [N2.out]; exact O7.out, D7.out⟩
      case measure => simp [intOf]; omega
    · obtain rfl : k = n := by omega
      have OL := Lib.hid (show Own wr w1.heap.size wr.heap.size A2 q c2 (Wd.sub g ys zs) from by have := O.out; rwa [List.take_of_length_le (Nat.le_of_eq hl.out)] at this)
      have QL := Lib.hid OL.out.len
      clear O
      go_wp2
      clear k0 k1
      rename World => U
      go_loopw [50] (fun x W => ∃ j : Nat, j ≤ q ∧ x = .int .i64 j ∧ Own W w1.heap.size U.heap.size A2 q c2 (Wd.renK g (Wd.sub g ys zs) j) ∧ Kept w1.heap.size U.heap.size U W) (fun x _ => q - (intOf x).toNat)
      case atStart => exact ⟨0, Nat.zero_le _, rfl, by rw [Wd.renK_zero]; exact OL.out, Kept.refl _ _ _⟩
      case round =>
        obtain ⟨j, hj, rfl, ho, hke⟩ := hrel
        have O := Lib.hid ho
        have KE := Lib.hid hke
        have zU : U.heap.size ≤ wr.heap.size := hke.size
        have K3 := Lib.hid (K2.out.below (D.out.trans (KE.out.below (B := w1.heap.size) (Nat.le_refl _) (by omega))) z1)
        clear ho hke OL
        obtain ⟨k0, k1⟩ := K3.out
        by_cases hlt2 : j < q
        · obtain ⟨b, z, rfl, hb1, hb2, hz, hc, hf⟩ := O.out.at_ hlt2
          rw [Wd.renK_at g _ (by rw [QL.out]; exact hlt2)] at hz
          have hzb := SS.out.at_ (k := j) (by rw [QL.out]; exact hlt2)
          have SET := Lib.hid (Wd.renK_set g (Wd.sub g ys zs) (k := j) (by rw [QL.out]; exact hlt2))
          have KEEP := Lib.hid (Wd.renK_keep g (Wd.sub g ys zs) (k := j) (by rw [QL.out]; exact hlt2))
          rw [hz] at hzb SET KEEP
          obtain ⟨zb1, zb2⟩ := hzb
          clear hz
          by_cases e1 : z > g
          · have R1 := Lib.hid (show Wd.ren g z = z - 1 from by unfold Wd.ren; rw [if_pos e1])
            have e2 : ¬ z < -g := by omega
            rw [R1.out] at SET
            go_wp2
            go_roundw
            case rel => exact ⟨j + 1, by omega, by go_num, by rw [← SET.out]; exact O.out.set_ _ _, KE.out.set_ hb1 hb2 _⟩
            case measure => simp [intOf]; omega
          · by_cases e2 : z < -g
            · have R1 := Lib.hid (show Wd.ren g z = z + 1 from by unfold Wd.ren; rw [if_neg e1, if_pos e2])
              rw [R1.out] at SET
              go_wp2
              go_roundw
              case rel => exact ⟨j + 1, by omega, by go_num, by rw [← SET.out]; exact O.out.set_ _ _, KE.out.set_ hb1 hb2 _⟩
              case measure => simp [intOf]; omega
            · have R1 := Lib.hid (KEEP.out (by unfold Wd.ren; rw [if_neg e1, if_neg e2]))
              go_wp2
              go_roundw
              case rel => exact ⟨j + 1, by omega, by go_num, by rw [R1.out]; exact O.out, KE.out⟩
              case measure => simp [intOf]; omega
        · obtain rfl : j = q := by omega
          have FA := Lib.hid (Wd.renK_all g (Wd.sub g ys zs) QL.out)
          have OF := Lib.hid (show Own wr w1.heap.size U.heap.size A2 j c2 ((Wd.sub g ys zs).map (Wd.ren g)) from by rw [← FA.out]; exact O.out)
          have LF := Lib.hid OF.out.len
          go_wp2
          go_ret
          unfold ResLM
          rw [LF.out]
          exact ⟨A2, c2, rfl, Wd.own_caps OF.out, OF.out.mine.wide (by omega) zU, DW.out.trans ((D.out.mono (by omega)).trans (KE.out.below (B := w.heap.size) (by omega) (by omega)))⟩

end Go.Proofs.Ytjommpdblbbkdaa
