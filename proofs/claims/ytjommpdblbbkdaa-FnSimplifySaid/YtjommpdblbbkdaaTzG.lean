/- A relator in which a generator is replaced: the specification's l04Put. No condition but those that each theorem names. -/
import Derived.Test.YtjommpdblbbkdaaWdM
namespace Go.Proofs.Ytjommpdblbbkdaa
open Go.RowKit

set_option maxRecDepth 100000 in
set_option maxHeartbeats 8000000 in
theorem put_spec (g : Int) (A B : Option Addr) (n c m cb : Nat) (zs ys : List Int) (w : World) (h : Ints w w.heap.size A n zs) (h2 : Ints w w.heap.size B m ys) (hn : n ≤ 120) (hm : m ≤ 120) (hg : 1 ≤ g) (hg' : g ≤ 900) (hs : Wd.Sm zs) (hs2 : Wd.Sm ys) :
    Calls Try.prog 65 #[.slice A n c, .int .i64 g, .slice B m cb] w (ResLM w ((Wd.rd (Wd.sub g ys zs)).map (Wd.ren g))) := by
  have hl := Lib.hid h.1
  have hl2 := Lib.hid h2.1
  have H := Lib.hid h
  have H2 := Lib.hid h2
  have S := Lib.hid hs
  have S2 := Lib.hid hs2
  have SS := Lib.hid (Wd.sub_sm (g := g) hs2 hs)
  have SR := Lib.hid (Wd.sub_sm (g := g) hs2 hs).rd
  have NG : IntKind.i64.wrap (-g) = -g := IntWalk.i64_in _ (by omega)
  have ILN := Lib.hid (show (Wd.inv ys).length = m from by rw [Wd.inv_len]; exact h2.1)
  have BND := Lib.hid (fun k (hk : k ≤ n) => (show (Wd.sub g ys (zs.take k)).length ≤ 14520 from by
    have h3 := Wd.sub_len g ys (zs.take k)
    have h4 : (zs.take k).length ≤ 120 := by rw [List.length_take]; omega
    have h5 : ys.length + 1 ≤ 121 := by rw [h2.1]; omega
    have := Nat.mul_le_mul h4 h5
    omega))
  have O0 := Lib.hid (Wd.own_nil w)
  have D0 := Lib.hid (al1 w (Obj.cells #[] 2))
  clear h h2 hs hs2
  go_enter Try.func65, Try.ntmps65
  go_wp2
  obtain ⟨V, hV⟩ : ∃ V, V = w.alloc (Obj.cells #[] 2) := ⟨_, rfl⟩
  have zV : w.heap.size < V.heap.size := by rw [hV]; simp
  have O1 := Lib.hid (show Own V w.heap.size V.heap.size (some ⟨w.heap.size, 0, none⟩) 0 0 [] from by rw [hV]; exact O0.out.wide (Nat.le_refl _) (by simp))
  have DV := Lib.hid (show Below w.heap.size w V from by rw [hV]; exact D0.out)
  rw [← hV]
  clear hV O0 D0
  go_loopw [8, 7] (fun x out W => ∃ (k : Nat) (A2 : Option Addr) (q c2 : Nat), k ≤ n ∧ x = .int .i64 k ∧ out = .slice A2 q c2 ∧ Own W w.heap.size W.heap.size A2 q c2 (Wd.sub g ys (zs.take k)) ∧ Below w.heap.size V W) (fun x _ _ => n - (intOf x).toNat)
  case atStart => exact ⟨0, _, 0, _, Nat.zero_le _, rfl, rfl, O1.out, Below.refl _ _⟩
  case round =>
    obtain ⟨k, A2, q, c2, hk, rfl, rfl, ho, hbel⟩ := hrel
    have O := Lib.hid ho
    have D := Lib.hid hbel
    have DW := Lib.hid (DV.out.trans hbel)
    have hq : q ≤ 14520 := by have := BND.out k hk; rw [ho.len] at this; exact this
    have zW : V.heap.size ≤ wr.heap.size := hbel.size
    clear ho hbel O1
    by_cases hlt : k < n
    · have NX := Lib.hid (Wd.sub_take g ys zs (k := k) (by rw [hl.out]; exact hlt))
      have hzb := S.out.at_ (k := k) (by rw [hl.out]; exact hlt)
      obtain ⟨b, off, z, rfl, hb, hz, hc⟩ := (H.out.below DW.out).at_z hlt
      rw [hz] at NX hzb
      obtain ⟨zb1, zb2⟩ := hzb
      clear hz
      by_cases e1 : z = g
      · have t1 : (z == g) = true := by simpa using e1
        have N2 := Lib.hid (show Wd.sub g ys (zs.take (k + 1)) = Wd.sub g ys (zs.take k) ++ ys from by rw [NX.out, if_pos e1])
        clear e1
        go_wp2_with (at_builtin; refine Wd.push_any rfl _ _ rfl w.heap.size wr.heap.size c2 w.heap.size q m cb A2 B _ ys rfl (by exact O.out) rfl (by exact H2.out.below DW.out) (by omega) (Nat.le_refl _) (by omega) ?_; intro A7 c7 w7 h5 h6; have O7 := Lib.hid h5; have D7 := Lib.hid (D.out.trans (h6.below (Nat.le_refl _) (by omega))); clear h5 h6)
        go_roundw
        case rel => exact ⟨k + 1, A7, _, c7, by omega, by go_num, rfl, by rw [N2.out]; exact O7.out, D7.out⟩
        case measure => simp [intOf]; omega
      have t1 : (z == g) = false := by simpa using e1
      by_cases e2 : z = -g
      · have t2 : (z == -g) = true := by simpa using e2
        have N2 := Lib.hid (show Wd.sub g ys (zs.take (k + 1)) = Wd.sub g ys (zs.take k) ++ Wd.inv ys from by rw [NX.out, if_neg e1, if_pos e2])
        clear e1 e2
        go_wp2_with fail
        refine (invw_spec B m cb ys _ (H2.out.into DW.out) (by omega) S2.out).mono ?_
        rintro e w3 ⟨R, t, rfl, hc1, hm1, hb3⟩
        rw [ILN.out] at hm1 ⊢
        have z3 := hb3.size
        have I3 := Lib.hid hm1
        have D3 := Lib.hid (D.out.trans (hb3.mono (by omega)))
        have O3 := Lib.hid (O.out.below hb3 (Nat.le_refl _))
        clear hc1 hm1 hb3
        go_wp2_with (at_builtin; refine Wd.push_any rfl _ _ rfl w.heap.size wr.heap.size c2 w3.heap.size q m t A2 R _ (Wd.inv ys) rfl (by exact O3.out) rfl (by exact I3.out.ints) (by omega) (by omega) (by omega) ?_; intro A7 c7 w7 h5 h6; have O7 := Lib.hid h5; have D7 := Lib.hid (D3.out.trans (h6.below (Nat.le_refl _) (by omega))); clear h5 h6)
        go_roundw
        case rel => exact ⟨k + 1, A7, _, c7, by omega, by go_num, rfl, by rw [N2.out]; exact O7.out, D7.out⟩
        case measure => simp [intOf]; omega
      have t2 : (z == -g) = false := by simpa using e2
      have N2 := Lib.hid (show Wd.sub g ys (zs.take (k + 1)) = Wd.sub g ys (zs.take k) ++ [z] from by rw [NX.out, if_neg e1, if_neg e2])
      clear e1 e2
      go_wp2_with (at_builtin; refine Wd.push_int rfl _ _ rfl w.heap.size wr.heap.size c2 wr.heap.size q A2 _ z rfl (by exact O.out.below (al1 wr _) (Nat.le_refl _)) rfl (by exact Wd.alloc_first _ _ _ _ rfl) (by simp; omega) (by omega) ?_; intro A7 c7 w7 h5 h6; have O7 := Lib.hid h5; have D7 := Lib.hid ((D.out.trans ((al1 wr _).mono (by omega))).trans (h6.below (Nat.le_refl _) (by simp; omega))); clear h5 h6)
      go_roundw
      case rel => exact ⟨k + 1, A7, _, c7, by omega, by go_num, rfl, by rw [N2.out]; exact O7.out, D7.out⟩
      case measure => simp [intOf]; omega
    · obtain rfl : k = n := by omega
      rename World => X
      have OL := Lib.hid (show Own X w.heap.size X.heap.size A2 q c2 (Wd.sub g ys zs) from by have := O.out; rwa [List.take_of_length_le (Nat.le_of_eq hl.out)] at this)
      have QL := Lib.hid OL.out.len
      clear O
      go_wp2_with fail
      refine (reduced_spec A2 q c2 (Wd.sub g ys zs) _ OL.out.ints (by omega) SS.out).mono ?_
      rintro e w3 ⟨R, t, rfl, hc3, hm3, hb3⟩
      have z3 := hb3.size
      have C3 := Lib.hid hc3
      have M3 := Lib.hid hm3
      have D3 := Lib.hid (DW.out.trans (hb3.mono (by omega)))
      obtain ⟨l, hl3⟩ : ∃ l, Wd.rd (Wd.sub g ys zs) = l := ⟨_, rfl⟩
      rw [hl3] at C3 M3 SR ⊢
      obtain ⟨p, hp⟩ : ∃ p, l.length = p := ⟨_, rfl⟩
      rw [hp] at C3 M3 ⊢
      have hp14 : p ≤ 14520 := by
        have h1 := Wd.rd_len (Wd.sub g ys zs)
        have h2 := OL.out.len
        rw [hl3, hp] at h1
        omega
      have PL := Lib.hid hp
      have LE := Lib.hid hl3
      clear hc3 hm3 hb3 hp hl3 OL
      go_wp2
      rename World => U
      go_loopw [9] (fun x W => ∃ j : Nat, j ≤ p ∧ x = .int .i64 j ∧ Mine W X.heap.size U.heap.size R p (Wd.renK g l j) ∧ Kept X.heap.size U.heap.size U W) (fun x _ => p - (intOf x).toNat)
      case atStart => exact ⟨0, Nat.zero_le _, rfl, by rw [Wd.renK_zero]; exact M3.out, Kept.refl _ _ _⟩
      case round =>
        obtain ⟨j, hj, rfl, ho, hke⟩ := hrel
        have O := Lib.hid ho
        have KE := Lib.hid hke
        have zU := hke.size
        clear ho hke M3
        by_cases hlt2 : j < p
        · obtain ⟨b, off, z, rfl, hb1, hb2, hz, hc, hf⟩ := O.out.at_ hlt2
          rw [Wd.renK_at g _ (by rw [PL.out]; exact hlt2)] at hz
          have hzb := SR.out.at_ (k := j) (by rw [PL.out]; exact hlt2)
          have SET := Lib.hid (Wd.renK_set g l (k := j) (by rw [PL.out]; exact hlt2))
          have KEEP := Lib.hid (Wd.renK_keep g l (k := j) (by rw [PL.out]; exact hlt2))
          rw [hz] at hzb SET KEEP
          obtain ⟨zb1, zb2⟩ := hzb
          clear hz
          by_cases e1 : z > g
          · have R1 := Lib.hid (show Wd.ren g z = z - 1 from by unfold Wd.ren; rw [if_pos e1])
            rw [R1.out] at SET
            go_wp2
            go_roundw
            case rel => exact ⟨j + 1, by omega, by go_num, by rw [← SET.out]; exact O.out.set_ hlt2 _, KE.out.set_ hb1 hb2 _⟩
            case measure => simp [intOf]; omega
          · by_cases e2 : z < -g
            · have R1 := Lib.hid (show Wd.ren g z = z + 1 from by unfold Wd.ren; rw [if_neg e1, if_pos e2])
              rw [R1.out] at SET
              go_wp2
              go_roundw
              case rel => exact ⟨j + 1, by omega, by go_num, by rw [← SET.out]; exact O.out.set_ hlt2 _, KE.out.set_ hb1 hb2 _⟩
              case measure => simp [intOf]; omega
            · have R1 := Lib.hid (KEEP.out (by unfold Wd.ren; rw [if_neg e1, if_neg e2]))
              go_wp2
              go_roundw
              case rel => exact ⟨j + 1, by omega, by go_num, by rw [R1.out]; exact O.out, KE.out⟩
              case measure => simp [intOf]; omega
        · obtain rfl : j = p := by omega
          have FA := Lib.hid (Wd.renK_all g l PL.out)
          have OF := Lib.hid (show Mine wr X.heap.size U.heap.size R j (l.map (Wd.ren g)) from by rw [← FA.out]; exact O.out)
          go_wp2
          go_ret
          unfold ResLM
          rw [LE.out, List.length_map, PL.out]
          exact ⟨R, t, rfl, C3.out, OF.out.wide (by omega) zU, D3.out.trans (KE.out.below (B := w.heap.size) (by omega) (by omega))⟩

end Go.Proofs.Ytjommpdblbbkdaa
