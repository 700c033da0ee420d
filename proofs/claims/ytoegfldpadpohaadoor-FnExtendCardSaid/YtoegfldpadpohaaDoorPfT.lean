/- The program's extension of lists to permutations. No condition but those that each theorem names. -/
import Derived.Test.YtoegfldpadpohaaDoorPfS
namespace Go.Proofs.YtoegfldpadpohaaDoor
open Go.RowKit

theorem P4.ext_no {n m : Nat} {zs ys : List Int} (h : ¬ (n = m ∧ P4.vs zs = true ∧ P4.vs ys = true)) : P4.ext n m zs ys = none := if_neg h
theorem P4.ext_yes {n : Nat} {zs ys : List Int} (h1 : P4.vs zs = true) (h2 : P4.vs ys = true) : P4.ext n n zs ys = P4.first zs ys n 24 := if_pos ⟨rfl, h1, h2⟩

set_option maxRecDepth 100000 in
set_option maxHeartbeats 4000000 in
theorem extend_impl (A A' : Option Addr) (n n' c c' : Nat) (zs ys : List Int) (w : World) (h : Ints w w.heap.size A n zs) (h' : Ints w w.heap.size A' n' ys) (hn : n ≤ 1048576) (hn' : n' ≤ 1048576) (ht : Tb w) :
    Calls Tryd.prog 24 #[.slice A n c, .slice A' n' c'] w (ResX w (P4.ext n n' zs ys)) := by
  have h0 : 0 < w.heap.size := World.block_lt_of_cell? w ⟨0, 0, none⟩ (ht 0 (.int .u8 0) rfl)
  have HT := Lib.hid ht
  have H := Lib.hid h
  have H' := Lib.hid h'
  clear ht h h'
  by_cases hnn : n = n'
  case neg =>
    rw [P4.ext_no (fun e => hnn e.1)]
    have t0 : ((n : Int) != (n' : Int)) = true := by simp; omega
    clear hnn
    go_enter Tryd.func24, Tryd.ntmps24
    go_wp2
    refine bodyPost_ret (v := .tuple #[.int .i64 0, .bool false]) (by simp [results, Tryd.results24, go_sem]) rfl ⟨rfl, Below.refl _ _⟩
  subst hnn
  have t0 : ((n : Int) != (n : Int)) = false := by simp
  have V1 := Lib.hid (vertices_impl A n c zs _ w H.out hn)
  have V2 := Lib.hid (vertices_impl A' n c' ys _ w H'.out hn)
  rcases hv1 : P4.vs zs with _ | _
  · rw [P4.ext_no (fun e => by rw [hv1] at e; exact absurd e.2.1 (by decide))]
    rw [hv1] at V1
    clear hv1
    go_enter Tryd.func24, Tryd.ntmps24
    go_wp2_with fail
    refine V1.out.mono ?_
    rintro e w1 ⟨rfl, rfl⟩
    go_wp2
    refine bodyPost_ret (v := .tuple #[.int .i64 0, .bool false]) (by simp [results, Tryd.results24, go_sem]) rfl ⟨rfl, Below.refl _ _⟩
  rcases hv2 : P4.vs ys with _ | _
  · rw [P4.ext_no (fun e => by rw [hv2] at e; exact absurd e.2.2 (by decide))]
    rw [hv1] at V1
    rw [hv2] at V2
    clear hv1 hv2
    go_enter Tryd.func24, Tryd.ntmps24
    go_wp2_with fail
    refine V1.out.mono ?_
    rintro e w1 ⟨rfl, rfl⟩
    go_wp2_with fail
    refine V2.out.mono ?_
    rintro e w1 ⟨rfl, rfl⟩
    go_wp2
    refine bodyPost_ret (v := .tuple #[.int .i64 0, .bool false]) (by simp [results, Tryd.results24, go_sem]) rfl ⟨rfl, Below.refl _ _⟩
  rw [P4.ext_yes hv1 hv2]
  have MA := Lib.hid (fun (k : Nat) (hk : k < 24) (W : World) (hb : Below w.heap.size w W) => mapsAll_impl (P4.im k) A A' n c c' zs ys W (L4.im hk) ((H.out.below hb).more hb.size) ((H'.out.below hb).more hb.size) hn hv1)
  rw [hv1] at V1
  rw [hv2] at V2
  have RX := Lib.hid row_index
  obtain ⟨X, hX⟩ : ∃ X, TC.toArray = X := ⟨_, rfl⟩
  have HX := Lib.hid hX
  rw [hX] at RX
  obtain ⟨r, hr⟩ : ∃ r, P4.first zs ys n 24 = r := ⟨_, rfl⟩
  have HR := Lib.hid hr
  rw [hr]
  clear hX hv1 hv2 hr
  go_enter Tryd.func24, Tryd.ntmps24
  go_wp2_with fail
  refine V1.out.mono ?_
  rintro e w1 ⟨rfl, rfl⟩
  go_wp2_with fail
  refine V2.out.mono ?_
  rintro e w1 ⟨rfl, rfl⟩
  go_wp2_with (refine wpList_load_mid rfl 48 (.global 0) rfl 0 0 rfl TC (.array 24 47) HT.out Tryd.underlying48 rfl size24 ?_; rw [HX.out])
  go_loopw [24] (fun i W => ∃ k : Nat, k ≤ 24 ∧ i = .int .i64 k ∧ r = P4.first zs ys n (24 - k) ∧ Below w.heap.size w W) (fun i _ => 24 - (intOf i).toNat)
  case atStart => exact ⟨0, Nat.zero_le _, rfl, HR.out.symm, Below.refl _ _⟩
  case round =>
    obtain ⟨k, hk, rfl, hF, hbel⟩ := hrel
    have F := Lib.hid hF
    have D := Lib.hid hbel
    have zD := hbel.size
    clear hF hbel
    by_cases hlt : k < 24
    · have ix := RX.out k hlt
      obtain ⟨x0, x1, x2, x3, hx, b0, b1, b2, b3⟩ := (L4.im hlt).four
      have ST := Lib.hid (P4.first_step zs ys n k hlt)
      have MK := Lib.hid (MA.out k hlt)
      rw [hx] at ix MK
      have MK2 := Lib.hid (show ∀ W, Below w.heap.size w W → Calls Tryd.prog 45 #[.agg #[.int .u8 (x0 : Int), .int .u8 (x1 : Int), .int .u8 (x2 : Int), .int .u8 (x3 : Int)], .slice A n c, .slice A' n c'] W fun e w' => e = .returned (.bool (P4.fk (P4.im k) zs ys n)) ∧ Below W.heap.size W w' from by rw [hx]; exact MK.out)
      have ix2 : ∀ w : World, (Instr.index 48 (.agg X) (.int .i64 (k : Int))).run Tryd.prog w = .ok (.agg #[.int .u8 (x0 : Int), .int .u8 (x1 : Int), .int .u8 (x2 : Int), .int .u8 (x3 : Int)]) w := ix
      have i1 : (k : Int) < 24 := by omega
      clear hx ix MK
      rcases hf : P4.fk (P4.im k) zs ys n with _ | _
      · rw [hf] at MK2 ST
        have NX := Lib.hid (show r = P4.first zs ys n (24 - (k + 1)) from by rw [F.out, ST.out]; rfl)
        clear hf
        go_wp2_with fail
        refine (MK2.out _ (D.out.alloc zD _)).mono ?_
        rintro e w3 ⟨rfl, hb3⟩
        have D3 := Lib.hid ((D.out.alloc zD (Obj.cells #[.int .u8 (x0 : Int), .int .u8 (x1 : Int), .int .u8 (x2 : Int), .int .u8 (x3 : Int)] 47)).trans (hb3.mono (by simp; omega)))
        clear hb3
        go_wp2
        go_roundw
        case rel => exact ⟨k + 1, by omega, by go_num, NX.out, D3.out⟩
        case measure => simp [intOf]; omega
      · rw [hf] at MK2 ST
        have NX := Lib.hid (show r = some k from by rw [F.out, ST.out]; rfl)
        clear hf
        go_wp2_with fail
        refine (MK2.out _ (D.out.alloc zD _)).mono ?_
        rintro e w3 ⟨rfl, hb3⟩
        have D3 := Lib.hid ((D.out.alloc zD (Obj.cells #[.int .u8 (x0 : Int), .int .u8 (x1 : Int), .int .u8 (x2 : Int), .int .u8 (x3 : Int)] 47)).trans (hb3.mono (by simp; omega)))
        clear hb3
        go_wp2
        refine bodyPost_ret (v := .tuple #[.int .i64 (k : Int), .bool true]) (by simp [results, Tryd.results24, go_sem]) rfl ⟨by rw [NX.out]; rfl, D3.out⟩
    · obtain rfl : k = 24 := by omega
      have NO := Lib.hid (show r = none from by rw [F.out]; rfl)
      go_wp2
      refine bodyPost_ret (v := .tuple #[.int .i64 0, .bool false]) (by simp [results, Tryd.results24, go_sem]) rfl ⟨by rw [NO.out]; rfl, D.out⟩

end Go.Proofs.YtoegfldpadpohaaDoor
