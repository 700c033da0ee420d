/- The program's index of a list of images. No condition but those that each theorem names. -/
import Derived.Test.YtoegfldpadpohaaDoorPfQ
namespace Go.Proofs.YtoegfldpadpohaaDoor
open Go.RowKit

theorem P4.ixr_not {zs : List Int} (h : zs.length ≠ 4 ∨ P4.vs zs = false) : P4.ixr zs = -1 := P4.ixr_no fun k hk e => by
  rcases h with h | h
  · exact h (by rw [← e, P4.im_len k hk])
  · rw [P4.vs, decide_eq_false_iff_not] at h
    exact h fun j hj => by rw [← e] at hj ⊢; exact P4.im_in k hk j (by rw [P4.im_len k hk] at hj; exact hj)
theorem L4.of_vs {zs : List Int} (h : zs.length = 4) (hv : P4.vs zs = true) : L4 zs := ⟨h, by
  rw [P4.vs, decide_eq_true_iff, h] at hv
  exact hv⟩
/-- What a look-up with 'ok' gives. -/
theorem MapAt.look_ok {W : World} {b : Nat} (h : MapAt W b) {x0 x1 x2 x3 : Nat} (b0 : x0 < 4) (b1 : x1 < 4) (b2 : x2 < 4) (b3 : x3 < 4) :
    (Instr.lookup 44 (.map (some b)) (.agg #[.int .u8 (x0 : Int), .int .u8 (x1 : Int), .int .u8 (x2 : Int), .int .u8 (x3 : Int)]) true).run Tryd.prog W = .ok (.tuple #[.int .i64 (if P4.ix [(x0 : Int), (x1 : Int), (x2 : Int), (x3 : Int)] < 24 then (P4.ix [(x0 : Int), (x1 : Int), (x2 : Int), (x3 : Int)] : Int) else 0), .bool (decide (P4.ix [(x0 : Int), (x1 : Int), (x2 : Int), (x3 : Int)] < 24))]) W := by
  obtain ⟨v, ps, hrun, hv⟩ := World.ownsMap.look_ok h lawK Tryd.underlying44 (zeroI W) (plainElem_int Tryd.underlying2 (by decide)) (keyL_of b0 b1 b2 b3)
  obtain ⟨c, rfl, hc, hwc⟩ := plainElem_int_inv Tryd.underlying2 hv
  have hat := congrArg Prod.fst hc
  dsimp only at hat
  have hl := look_all x0 b0 x1 b1 x2 b2 x3 b3
  rw [hat] at hl
  have e := Option.some.inj hl
  rw [has_all x0 b0 x1 b1 x2 b2 x3 b3] at hrun
  rw [← e]
  exact hrun

set_option maxHeartbeats 4000000 in
theorem indexOf_impl (A : Option Addr) (n c : Nat) (zs : List Int) (w : World) (h : Ints w w.heap.size A n zs) (hn : n ≤ 1048576) (ht : Tb w) :
    Calls Tryd.prog 20 #[.slice A n c] w (ResI w (P4.ixr zs)) := by
  have h0 : 0 < w.heap.size := World.block_lt_of_cell? w ⟨0, 0, none⟩ (ht 0 (.int .u8 0) rfl)
  have HT := Lib.hid ht
  have VA := Lib.hid (fun (W : World) (hW : Ints W w.heap.size A n zs) => vertices_impl A n c zs w.heap.size W hW hn)
  have H := Lib.hid h
  clear h ht
  obtain ⟨V, hV⟩ : ∃ V, V = w.alloc (Obj.cells #[Value.int .u8 0, Value.int .u8 0, Value.int .u8 0, Value.int .u8 0] 47) := ⟨_, rfl⟩
  have DV := Lib.hid (show Below w.heap.size w V from by rw [hV]; exact al1 _ _)
  have sV : w.heap.size + 1 ≤ V.heap.size := by rw [hV]; simp
  have BV := Lib.hid (show BlkP V w.heap.size [0, 0, 0, 0] from by rw [hV]; exact heap_alloc_new w _)
  have HV := Lib.hid (H.out.below DV.out)
  by_cases h4 : n = 4
  case neg =>
    have NO := Lib.hid (show P4.ixr zs = -1 from P4.ixr_not (.inl (by rw [H.out.1]; exact h4)))
    have t0 : ((n : Int) != 4) = true := by simp; omega
    rw [NO.out]
    clear NO h4
    go_enter Tryd.func20, Tryd.ntmps20
    go_upto_region 2 with fail
    rw [← hV]
    clear hV
    go_wp2
    go_ret
    exact ⟨rfl, DV.out⟩
  subst h4
  have t0 : (((4 : Nat) : Int) != 4) = false := by simp
  by_cases hv : P4.vs zs = true
  case neg =>
    have hv2 : P4.vs zs = false := by simpa using hv
    have NO := Lib.hid (show P4.ixr zs = -1 from P4.ixr_not (.inr hv2))
    rw [hv2] at VA
    rw [NO.out]
    clear NO hv hv2
    go_enter Tryd.func20, Tryd.ntmps20
    go_upto_region 2 with fail
    rw [← hV]
    clear hV
    go_wp2_with fail
    refine (VA.out _ HV.out).mono ?_
    rintro e w2 ⟨rfl, rfl⟩
    go_wp2
    go_ret
    exact ⟨rfl, DV.out⟩
  have LZ := Lib.hid (L4.of_vs H.out.1 hv)
  rw [hv] at VA
  obtain ⟨r, hr⟩ : ∃ r, P4.ixr zs = r := ⟨_, rfl⟩
  have HR := Lib.hid hr
  rw [hr]
  clear hv hr
  have TV := Lib.hid (HT.out.below DV.out h0)
  obtain ⟨g, hg⟩ : ∃ g, w.heap.size = g := ⟨_, rfl⟩
  have HG := Lib.hid hg
  go_enter Tryd.func20, Tryd.ntmps20
  go_upto_region 2 with fail
  rw [← hV]
  clear hV
  rw [hg] at VA DV BV HV sV h0
  clear hg
  go_wp2_with fail
  refine (VA.out _ HV.out).mono ?_
  rintro e w2 ⟨rfl, rfl⟩
  go_wp2
  go_loopw [18] (fun i W => ∃ k : Nat, k ≤ 4 ∧ i = .int .i64 k ∧ BlkP W g (part zs k 4) ∧ Below g V W) (fun i _ => 4 - (intOf i).toNat)
  case atStart => exact ⟨0, Nat.zero_le _, rfl, BV.out, Below.refl _ _⟩
  case round =>
    obtain ⟨k, hk, rfl, hblk, hbel⟩ := hrel
    have B := Lib.hid hblk
    have D := Lib.hid hbel
    have zD := hbel.size
    clear hblk hbel
    by_cases hlt : k < 4
    · obtain ⟨b, off, z, rfl, hb, hz, hc⟩ := (HV.out.below D.out).at_z hlt
      have NX := Lib.hid (part_set zs k 4 LZ.out.len hlt)
      obtain ⟨Z, hZ, hz4⟩ := LZ.out.nat hlt
      rw [hz] at NX hZ
      subst hZ
      have c1 := B.out.cell (i := k) (by rw [part_len _ _ _ LZ.out.len (by omega)]; exact hlt)
      have f1 := B.out.frozen k
      have i1 : (k : Int) < 4 := by omega
      have u1 : IntKind.u8.wrap (Z : Int) = (Z : Int) := by
        have h : Z = 0 ∨ Z = 1 ∨ Z = 2 ∨ Z = 3 := by omega
        rcases h with rfl | rfl | rfl | rfl <;> rfl
      clear hz
      go_wp2
      go_roundw
      case rel => exact ⟨k + 1, by omega, by go_num, by rw [← NX.out]; exact B.out.set_ _ _, D.out.setCell (Nat.le_refl _) _⟩
      case measure => simp [intOf]; omega
    · obtain rfl : k = 4 := by omega
      obtain ⟨x0, x1, x2, x3, hx, b0, b1, b2, b3⟩ := LZ.out.four
      have B4 := Lib.hid (show BlkP wr g [(x0 : Int), (x1 : Int), (x2 : Int), (x3 : Int)] from by have := B.out; rwa [part_full _ _ LZ.out.len, hx] at this)
      have RV := Lib.hid (show r = if P4.ix [(x0 : Int), (x1 : Int), (x2 : Int), (x3 : Int)] < 24 then (P4.ix [(x0 : Int), (x1 : Int), (x2 : Int), (x3 : Int)] : Int) else -1 from by rw [← HR.out, P4.ixr, hx])
      have TD := Lib.hid (show Tb wr.drew from TV.out.below D.out.drew h0)
      obtain ⟨c0, c1, c2, c3⟩ := B4.out.four
      have h1 : g < wr.heap.size := by omega
      clear hx
      obtain ⟨I, hI⟩ : ∃ I, P4.ix [(x0 : Int), (x1 : Int), (x2 : Int), (x3 : Int)] = I := ⟨_, rfl⟩
      have HI := Lib.hid hI
      rw [hI] at RV
      clear hI
      by_cases hI24 : I < 24
      · have RW := Lib.hid (show r = (I : Int) from by rw [RV.out, if_pos hI24])
        have LK := Lib.hid (show (if I < 24 then (I : Int) else 0) = (I : Int) ∧ decide (I < 24) = true from ⟨if_pos hI24, by simpa using hI24⟩)
        clear hI24
        go_wp2_with fail
        go_region_held3 (fun W => W.cell? ⟨g, 0, none⟩ = some (.int .u8 (x0 : Int)) ∧ W.cell? ⟨g, 1, none⟩ = some (.int .u8 (x1 : Int)) ∧ W.cell? ⟨g, 2, none⟩ = some (.int .u8 (x2 : Int)) ∧ W.cell? ⟨g, 3, none⟩ = some (.int .u8 (x3 : Int))) (go_keep)
          ((go_at_call 38; (with_reducible refine (indices_impl _ (by exact TD.out)).mono ?_); rintro e w1 ⟨rfl, hm, hb'⟩; have hb := undrew hb'; have M1 := Lib.hid (show MapAt w1 wr.heap.size from hm); have D1 := Lib.hid (D.out.trans (hb.mono (by omega))); have e0 := (hb.cell (p := ⟨g, 0, none⟩) h1).trans c0; have e1 := (hb.cell (p := ⟨g, 1, none⟩) h1).trans c1; have e2 := (hb.cell (p := ⟨g, 2, none⟩) h1).trans c2; have e3 := (hb.cell (p := ⟨g, 3, none⟩) h1).trans c3; have lk := MapAt.look_ok M1.out b0 b1 b2 b3; rw [HI.out, LK.out.1, LK.out.2] at lk; clear hm hb hb'))
        all_goals
          go_wp2
          go_ret
          exact ⟨by rw [RW.out]; rfl, by rw [HG.out]; exact DV.out.trans D1.out⟩
      · have RW := Lib.hid (show r = -1 from by rw [RV.out, if_neg hI24])
        have LK := Lib.hid (show (if I < 24 then (I : Int) else 0) = 0 ∧ decide (I < 24) = false from ⟨if_neg hI24, by simpa using hI24⟩)
        clear hI24
        go_wp2_with fail
        go_region_held3 (fun W => W.cell? ⟨g, 0, none⟩ = some (.int .u8 (x0 : Int)) ∧ W.cell? ⟨g, 1, none⟩ = some (.int .u8 (x1 : Int)) ∧ W.cell? ⟨g, 2, none⟩ = some (.int .u8 (x2 : Int)) ∧ W.cell? ⟨g, 3, none⟩ = some (.int .u8 (x3 : Int))) (go_keep)
          ((go_at_call 38; (with_reducible refine (indices_impl _ (by exact TD.out)).mono ?_); rintro e w1 ⟨rfl, hm, hb'⟩; have hb := undrew hb'; have M1 := Lib.hid (show MapAt w1 wr.heap.size from hm); have D1 := Lib.hid (D.out.trans (hb.mono (by omega))); have e0 := (hb.cell (p := ⟨g, 0, none⟩) h1).trans c0; have e1 := (hb.cell (p := ⟨g, 1, none⟩) h1).trans c1; have e2 := (hb.cell (p := ⟨g, 2, none⟩) h1).trans c2; have e3 := (hb.cell (p := ⟨g, 3, none⟩) h1).trans c3; have lk := MapAt.look_ok M1.out b0 b1 b2 b3; rw [HI.out, LK.out.1, LK.out.2] at lk; clear hm hb hb'))
        all_goals
          go_wp2
          go_ret
          exact ⟨by rw [RW.out]; rfl, by rw [HG.out]; exact DV.out.trans D1.out⟩

end Go.Proofs.YtoegfldpadpohaaDoor
