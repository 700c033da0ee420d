/- Contracts of the program's product of two polynomials. No condition but those that each theorem names. -/
import Derived.Test.YtpkjjcfcpmcdiaaLauY
import Derived.Deep.RegionHeld3
import Derived.Deep.DeepCutAuto
namespace Go.Proofs.Ytpkjjcfcpmcdiaa
open Go.RowKit

theorem boxPut {W : World} {b : Nat} {x y : Value} (u v : Value) (hx : BoxG W b x y) : BoxG ((W.setCell ⟨b, 0, none⟩ u).setCell ⟨b, 1, none⟩ v) b u v := by
  refine ⟨?_, ?_⟩
  · rw [World.cell?_setCell_other _ _ _ _ (by simp)]
    exact World.cell?_setCell_same _ _ _ hx.1
  · exact World.cell?_setCell_same _ _ _ (by rw [World.cell?_setCell_other _ _ _ _ (by simp)]; exact hx.2)

/-- What a statement leaves whose order is drawn: a polynomial's box, its list, and all that was there as it was. -/
def CutP (wj : World) (rk : Int) (ll : List Int) (v p x : Value) (W : World) : Prop :=
  ∃ b R t, p = .pointer (some ⟨b, 0, none⟩) ∧ x = v ∧ BoxG W b (.int .i64 rk) (.slice R ll.length t) ∧ Free W b ∧ wj.heap.size ≤ b ∧ b < W.heap.size ∧ Mine W wj.heap.size W.heap.size R ll.length ll ∧ Below wj.heap.size wj W
theorem CutP.new {wj W : World} {rk : Int} {ll : List Int} {v : Value} {lo hi : Nat} {R : Option Addr} {t : Nat} {T : TypeId} (ho : Mine W lo hi R ll.length ll) (hb : Below wj.heap.size wj W) (hl : wj.heap.size ≤ lo) (hh : hi ≤ W.heap.size) :
    CutP wj rk ll v (.pointer (some ⟨W.heap.size, 0, none⟩)) v (W.alloc (Obj.cells #[.int .i64 rk, .slice R ll.length t] T)) :=
  ⟨W.heap.size, R, t, rfl, rfl, BoxG.new _ _ _ _, Free.new _ _ _, hb.size, by simp, (ho.al hh (al1 _ _)).wide hl (by simp; omega), hb.alloc hb.size _⟩
theorem CutP.old {wj W : World} {rk : Int} {ll : List Int} {v : Value} {lo hi b : Nat} {R : Option Addr} {t : Nat} {x y : Value} (ho : Mine W lo hi R ll.length ll) (hx : BoxG W b x y) (hf : Free W b) (hb : Below wj.heap.size wj W) (hl : wj.heap.size ≤ b) (hlo : b < lo ∨ hi ≤ b) (h0 : wj.heap.size ≤ lo) (h1 : hi ≤ W.heap.size) (hh : b < W.heap.size) :
    CutP wj rk ll v (.pointer (some ⟨b, 0, none⟩)) v ((W.setCell ⟨b, 0, none⟩ (.int .i64 rk)).setCell ⟨b, 1, none⟩ (.slice R ll.length t)) := by
  refine ⟨b, R, t, rfl, rfl, boxPut _ _ hx, ?_, hl, by simpa [World.setCell] using hh, ?_, ?_⟩
  · intro o
    rw [World.frozen?_setCell, World.frozen?_setCell]
    exact hf o
  · refine ((ho.far (p := ⟨b, 0, none⟩) hlo _).far (p := ⟨b, 1, none⟩) hlo _).wide h0 (by simpa [World.setCell] using h1)
  · exact (hb.setCell hl _).setCell hl _

/-- The state of the loop that multiplies by one polynomial: nothing done, or done. -/
def LoopP (w2 w3 : World) (b : Nat) (rk : Int) (ll : List Int) (code : Int) (x y : Value) (wr : World) : Prop :=
  (x = .int .i64 0 ∧ y = .int .i64 0 ∧ wr = w3) ∨ (x = .int .i64 1 ∧ y = .int .i64 0 ∧ code = 0 ∧ ∃ R t, BoxG wr b (.int .i64 rk) (.slice R ll.length t) ∧ Mine wr w2.heap.size wr.heap.size R ll.length ll ∧ Below w2.heap.size w2 wr)

section
variable (r s : Int) (A B : Option Addr) (ca m cb g : Nat) (zs ys : List Int) (w : World) (hA : Ints w w.heap.size A zs.length zs) (hn : zs.length ≤ 1048576)
include hA hn

set_option maxHeartbeats 2000000 in
theorem prod_impl_badA (sl : Value) (hP : ¬ Lau.LOk r zs) : Calls Try.prog 18 #[.agg #[.int .i64 r, .slice A zs.length ca], sl] w (ResLC w 0 [] 1) := by
  have HL := Lib.hid (isLi_no r A zs.length ca zs _ (hA.into (al2 w (Obj.cells #[.int .i64 r, .slice A zs.length ca] 26) (Obj.cells #[.int .i64 0, .slice none 0 0] 26))) hn hP)
  have K0 := Lib.hid (BoxG.new (w.alloc (Obj.cells #[.int .i64 r, .slice A zs.length ca] 26)) 26 (.int .i64 0) (.slice none 0 0))
  have F0 := Lib.hid (Free.new (w.alloc (Obj.cells #[.int .i64 r, .slice A zs.length ca] 26)) 26 #[.int .i64 0, .slice none 0 0])
  simp only [World.size_alloc] at K0 F0
  clear hA hP
  go_enter Try.func18, Try.ntmps18
  go_wp2_with fail
  refine HL.out.mono ?_
  rintro e2 w1 ⟨rfl, hb⟩
  have s1 : w.heap.size + 1 < w1.heap.size := by have := hb.size; simp at this; omega
  obtain ⟨n0, n1⟩ := K0.out.below hb (by simp)
  have f0 := F0.out.below hb (by simp)
  unfold Free at f0
  have HB := Lib.hid (on2 _ _ hb)
  clear hb
  go_wp2
  refine bodyPost_ret (v := .tuple #[.agg #[.int .i64 0, .slice none 0 0], .int .i64 1]) (by simp [results, Try.results18, n0, n1, go_sem]) rfl ?_
  exact ⟨none, 0, rfl, Mine.none_ _ _ _ _, (HB.out.setCell (by dsimp only; omega) _).setCell (by dsimp only; omega) _⟩

variable (hB : Ints w w.heap.size B m ys) (hm : m ≤ 1048576) (hg : BoxG w g (.int .i64 s) (.slice B m cb)) (hgw : g < w.heap.size)
include hB hm hg hgw

set_option maxHeartbeats 2000000 in
theorem prod_impl_badB (hP : Lau.LOk r zs) (hQ : ¬ Lau.LOk s ys) : Calls Try.prog 18 #[.agg #[.int .i64 r, .slice A zs.length ca], .slice (some ⟨g, 0, none⟩) 1 1] w (ResLC w 0 [] 1) := by
  have HL := Lib.hid (isLi_yes r A zs.length ca zs _ (hA.into (al2 w (Obj.cells #[.int .i64 r, .slice A zs.length ca] 26) (Obj.cells #[.int .i64 0, .slice none 0 0] 26))) hn hP)
  have HL2 := Lib.hid (fun (W : World) (hb : Below w.heap.size w W) => isLi_no s B m cb ys W (hB.into hb) hm hQ)
  have K0 := Lib.hid (BoxG.new (w.alloc (Obj.cells #[.int .i64 r, .slice A zs.length ca] 26)) 26 (.int .i64 0) (.slice none 0 0))
  have F0 := Lib.hid (Free.new (w.alloc (Obj.cells #[.int .i64 r, .slice A zs.length ca] 26)) 26 #[.int .i64 0, .slice none 0 0])
  simp only [World.size_alloc] at K0 F0
  have HG := Lib.hid hg
  clear hA hP hB hQ hg
  go_enter Try.func18, Try.ntmps18
  go_wp2_with fail
  refine HL.out.mono ?_
  rintro e2 w1 ⟨rfl, hb⟩
  have s1 : w.heap.size + 1 < w1.heap.size := by have := hb.size; simp at this; omega
  have K1 := Lib.hid (K0.out.below hb (by simp))
  have F1 := Lib.hid (F0.out.below hb (by simp))
  have HB := Lib.hid (on2 _ _ hb)
  have G1 := Lib.hid (HG.out.below HB.out (by omega))
  clear hb K0 F0
  go_wp2
  go_loopw [18] (fun x wr => x = .int .i64 0 ∧ wr = w1) (fun x _ => 1 - (intOf x).toNat)
  case atStart => exact ⟨rfl, rfl⟩
  case round =>
    obtain ⟨rfl, rfl⟩ := hrel
    obtain ⟨g0, g1⟩ := G1.out
    go_wp2_with fail
    refine (HL2.out _ (HB.out.alloc (by omega) _)).mono ?_
    rintro e2 w2 ⟨rfl, hb⟩
    have s2 : wr.heap.size < w2.heap.size := by have := hb.size; simp at this; omega
    have U2 := Lib.hid (on1 _ hb)
    obtain ⟨n0, n1⟩ := K1.out.below U2.out (by omega)
    have f0 := F1.out.below U2.out (by omega)
    unfold Free at f0
    have HB2 := Lib.hid (HB.out.trans (U2.out.mono (by omega)))
    clear hb g0 g1
    go_wp2
    refine bodyPost_ret (v := .tuple #[.agg #[.int .i64 0, .slice none 0 0], .int .i64 1]) (by simp [results, Try.results18, n0, n1, go_sem]) rfl ?_
    exact ⟨none, 0, rfl, Mine.none_ _ _ _ _, (HB2.out.setCell (by dsimp only; omega) _).setCell (by dsimp only; omega) _⟩

set_option maxHeartbeats 8000000 in
theorem prod_impl_yes (rk : Int) (ll : List Int) (code : Int) (hP : Lau.LOk r zs) (hQ : Lau.LOk s ys) (hcode : code = 0 ∨ (code = 3 ∧ rk = 0 ∧ ll = []))
    (hT : ∀ (W : World) (R : Option Addr) (t : Nat), Ints W W.heap.size R zs.length zs → Ints W W.heap.size B m ys → Calls Try.prog 25 #[.agg #[.int .i64 r, .slice R zs.length t], .agg #[.int .i64 s, .slice B m cb]] W (ResLC W rk ll code)) :
    Calls Try.prog 18 #[.agg #[.int .i64 r, .slice A zs.length ca], .slice (some ⟨g, 0, none⟩) 1 1] w (ResLC w rk ll code) := by
  have HL := Lib.hid (isLi_yes r A zs.length ca zs _ (hA.into (al2 w (Obj.cells #[.int .i64 r, .slice A zs.length ca] 26) (Obj.cells #[.int .i64 0, .slice none 0 0] 26))) hn hP)
  have HL2 := Lib.hid (fun (W : World) (hb : Below w.heap.size w W) => isLi_yes s B m cb ys W (hB.into hb) hm hQ)
  have X0 := Lib.hid ((BoxG.new w 26 (.int .i64 r) (.slice A zs.length ca)).below (al1 _ (Obj.cells #[.int .i64 0, .slice none 0 0] 26)) (by simp))
  have K0 := Lib.hid (BoxG.new (w.alloc (Obj.cells #[.int .i64 r, .slice A zs.length ca] 26)) 26 (.int .i64 0) (.slice none 0 0))
  have F0 := Lib.hid (Free.new (w.alloc (Obj.cells #[.int .i64 r, .slice A zs.length ca] 26)) 26 #[.int .i64 0, .slice none 0 0])
  simp only [World.size_alloc] at K0 F0
  have HG := Lib.hid hg
  have HA := Lib.hid hA
  have HBB := Lib.hid hB
  have HC := Lib.hid hcode
  have HO := Lib.hid (show LOut (Lau.lowOf r 0 zs.length) (Lau.cut zs 0 zs.length) r zs 0 by rw [Lau.cut_all, hP.lowOf]; exact .inl ⟨hP, rfl, rfl, rfl⟩)
  have HTR := Lib.hid hP.trim
  have HT := Lib.hid hT
  have hlow := hP.low
  clear hA hP hB hQ hg hcode hT
  go_enter Try.func18, Try.ntmps18
  go_wp2_with fail
  refine HL.out.mono ?_
  rintro e2 w1 ⟨rfl, hb⟩
  have s1 : w.heap.size + 1 < w1.heap.size := by have := hb.size; simp at this; omega
  have X1 := Lib.hid (X0.out.below hb (by simp; omega))
  have K1 := Lib.hid (K0.out.below hb (by simp))
  have F1 := Lib.hid (F0.out.below hb (by simp))
  have HB := Lib.hid (on2 _ _ hb)
  have G1 := Lib.hid (HG.out.below HB.out (by omega))
  clear hb X0 K0 F0
  go_wp2
  go_loopw [18] (fun x wr => ∃ k : Int, (k = 0 ∨ k = 1) ∧ x = .int .i64 k ∧ Below w1.heap.size w1 wr) (fun x _ => 1 - (intOf x).toNat)
  case atStart => exact ⟨0, .inl rfl, rfl, Below.refl _ _⟩
  case round =>
    obtain ⟨k, hk, rfl, hbel⟩ := hrel
    have HL1 := Lib.hid hbel
    have HB1 := Lib.hid (HB.out.trans (hbel.mono (by omega)))
    have z1 : w1.heap.size ≤ wr.heap.size := hbel.size
    obtain ⟨g0, g1⟩ := G1.out.below hbel (by omega)
    clear hbel
    rcases hk with rfl | rfl
    · go_wp2_with fail
      refine (HL2.out _ (HB1.out.alloc (by omega) _)).mono ?_
      rintro e2 w2 ⟨rfl, hb⟩
      have U2 := Lib.hid (HL1.out.trans ((on1 _ hb).mono (by omega)))
      clear hb
      go_wp2
      go_roundw
      case rel => exact ⟨1, .inr rfl, by go_num, U2.out⟩
      case measure => simp [intOf]
    · obtain ⟨x0, x1⟩ := X1.out.below HL1.out (by omega)
      have X2 := Lib.hid (X1.out.below HL1.out (by omega))
      have K2 := Lib.hid (K1.out.below HL1.out (by omega))
      have F2 := Lib.hid (F1.out.below HL1.out (by omega))
      have G2 := Lib.hid (G1.out.below HL1.out (by omega))
      obtain ⟨w2, rfl⟩ : ∃ w2, w2 = wr := ⟨_, rfl⟩
      clear g0 g1 X1 K1 F1 G1
      go_wp2_with fail
      go_cut [8, 9] (fun p x W => CutP w2 r zs (.int .i64 0) p x W)
      case first =>
        go_region_held3 (fun W => W.cell? ⟨w.heap.size, 0, none⟩ = some (.int .i64 r) ∧ W.cell? ⟨w.heap.size, 1, none⟩ = some (.slice A zs.length ca)) (go_keep)
          (first
            | (go_at_call 20; (with_reducible refine (clone_any A zs.length ca zs _ (by first | exact HA.out.into HB1.out.drew | exact HA.out.into (HB1.out.alloc (by omega) _).drew) hn).mono ?_); rintro e6 w6 ⟨A6, c6, rfl, q1, q2, hown, hb6⟩; (first | (have U6 : Hid (Below w2.heap.size w2 w6) := Lib.hid (undrew hb6); have M6 : Hid (Mine w6 w2.heap.size w6.heap.size A6 zs.length zs) := Lib.hid hown.mine; have z6 : w2.heap.size ≤ w6.heap.size := U6.out.size) | (have U6 : Hid (Below w2.heap.size w2 w6) := Lib.hid (on1 _ (undrew hb6)); have M6 : Hid (Mine w6 (w2.heap.size + 1) w6.heap.size A6 zs.length zs) := Lib.hid (by simpa using hown.mine); have z6 : w2.heap.size < w6.heap.size := (by have := (undrew hb6).size; simp at this; omega); have Zb := Lib.hid ((BoxG.new w2 26 (.int .i64 0) (.slice none 0 0)).below (undrew hb6) (by simp)); have Zf := Lib.hid ((Free.new w2 26 #[.int .i64 0, .slice none 0 0]).below (undrew hb6) (by simp)))); obtain ⟨e0, e1⟩ := X2.out.below U6.out (by omega); have y6 : w.heap.size < w6.heap.size := (by omega); have y6' : w.heap.size + 1 < w6.heap.size := (by omega); (try obtain ⟨j0, j1⟩ := Zb.out); (try have jf := Zf.out); (try unfold Free at jf); clear hb6 hown)
            | (go_at_call 16; (with_reducible refine (valid_any r A6 zs.length c6 zs 0 zs.length _ w6.heap.size r zs 0 _ (by first | exact M6.out | exact M6.out.al (Nat.le_refl _) (al1 _ _)) (by first | exact Nat.le_refl _ | simp) q1 hn q2 (by omega) (by omega) HTR.out HO.out).mono ?_); rintro e7 w7 ⟨A7, c7, rfl, hM, hb7⟩; (first | (have U7 : Hid (Below w6.heap.size w6 w7) := Lib.hid hb7; have z7 : w6.heap.size ≤ w7.heap.size := U7.out.size; (try have Zb := Lib.hid (Zb.out.below U7.out (by omega))); (try have Zf := Lib.hid (Zf.out.below U7.out (by omega)))) | (have U7 : Hid (Below w6.heap.size w6 w7) := Lib.hid (on1 _ hb7); have z7 : w6.heap.size < w7.heap.size := (by have := hb7.size; simp at this; omega); have Zb := Lib.hid ((BoxG.new w6 26 (.int .i64 0) (.slice none 0 0)).below hb7 (by simp)); have Zf := Lib.hid ((Free.new w6 26 #[.int .i64 0, .slice none 0 0]).below hb7 (by simp)))); have M7 := Lib.hid hM; obtain ⟨f0, f1⟩ := (X2.out.below U6.out (by omega)).below U7.out (by omega); have y7 : w.heap.size < w7.heap.size := (by omega); have y7' : w.heap.size + 1 < w7.heap.size := (by omega); have xa : ¬ w2.heap.size = w.heap.size := (by omega); have xb : ¬ w6.heap.size = w.heap.size := (by omega); have xc : ¬ w7.heap.size = w.heap.size := (by omega); (try clear j0 j1 jf); (try obtain ⟨j0, j1⟩ := Zb.out); (try have jf := Zf.out); (try unfold Free at jf); clear hM hb7))
        all_goals
          have UH := Lib.hid (U6.out.trans (U7.out.mono (by omega)))
          clear e0 e1 f0 f1
          go_wp2_with fail
          go_meet
          first
            | exact CutP.new M7.out UH.out (by omega) (by omega)
            | exact CutP.old M7.out Zb.out Zf.out UH.out (by omega) (.inl (by omega)) (by omega) (by omega) (by omega)
            | exact CutP.old M7.out Zb.out Zf.out UH.out (by omega) (.inr (by omega)) (by omega) (by omega) (by omega)
      obtain ⟨β, R3, t3, rfl, rfl, hbx, hfr, hlo, hhi, hown, hb⟩ := hcut
      obtain ⟨w3, rfl⟩ : ∃ W : World, W = wc := ⟨_, rfl⟩
      have C3 := Lib.hid hbx
      have CF3 := Lib.hid hfr
      have M3 := Lib.hid hown
      have U3 := Lib.hid hb
      have HB3 := Lib.hid (HB1.out.trans (hb.mono (by omega)))
      clear hbx hfr hown hb x0 x1
      go_wp2
      go_loopw [38, 9] (fun x y wr => LoopP w2 w3 β rk ll code x y wr) (fun x _ _ => 1 - (intOf x).toNat)
      case atStart => exact .inl ⟨rfl, rfl, rfl⟩
      case round =>
        rcases hrel with ⟨rfl, rfl, rfl⟩ | ⟨rfl, rfl, hc0, R, t, hbx, hown, hb⟩
        · obtain ⟨g0, g1⟩ := G2.out.below U3.out (by omega)
          obtain ⟨c0, c1⟩ := C3.out
          have z3 : w2.heap.size ≤ wr.heap.size := U3.out.size
          have bn1 : ¬ β = wr.heap.size := by omega
          have bn2 : ¬ β = w.heap.size + 1 := by omega
          have bn3 : ¬ w.heap.size + 1 = β := by omega
          go_wp2_with fail
          refine (HT.out _ R3 t3 (M3.out.ints.into (al1 _ _)) (HBB.out.into (HB3.out.alloc (by omega) _))).mono ?_
          rintro e4 w4 ⟨A4, c4, rfl, hM, hb⟩
          have s4 : wr.heap.size < w4.heap.size := by have := hb.size; simp at this; omega
          have U4 := Lib.hid (on1 _ hb)
          have M4 : Hid (Mine w4 wr.heap.size w4.heap.size A4 ll.length ll) := Lib.hid (hM.wide (by simp) (Nat.le_refl _))
          have C4 := Lib.hid (C3.out.below U4.out hhi)
          have CF4 := Lib.hid (CF3.out.below U4.out hhi)
          obtain ⟨n0, n1⟩ := (K2.out.below U3.out (by omega)).below U4.out (by omega)
          have f0 := (F2.out.below U3.out (by omega)).below U4.out (by omega)
          unfold Free at f0
          have HB4 := Lib.hid (HB3.out.trans (U4.out.mono (by omega)))
          have V4 := Lib.hid (U3.out.trans (U4.out.mono (by omega)))
          clear hb hM g0 g1 c0 c1
          obtain ⟨c0, c1⟩ := C4.out
          have cf := CF4.out
          unfold Free at cf
          rcases HC.out with h0 | ⟨h0, h1, h2⟩
          · subst h0
            go_wp2
            go_roundw
            case rel => exact .inr ⟨by go_num, rfl, rfl, A4, c4, boxPut _ _ C4.out, ((M4.out.far (p := ⟨β, 0, none⟩) (.inl hhi) _).far (p := ⟨β, 1, none⟩) (.inl hhi) _).wide z3 (by simp [World.setCell]), (V4.out.setCell hlo _).setCell hlo _⟩
            case measure => simp [intOf]
          · subst h0
            subst h1
            subst h2
            go_wp2
            refine bodyPost_ret (v := .tuple #[.agg #[.int .i64 0, .slice none 0 0], .int .i64 3]) (by simp [results, Try.results18, n0, n1, go_sem]) rfl ?_
            exact ⟨none, 0, rfl, Mine.none_ _ _ _ _, (((HB4.out.setCell (by dsimp only; omega) _).setCell (by dsimp only; omega) _).setCell (by dsimp only; omega) _).setCell (by dsimp only; omega) _⟩
        · subst hc0
          obtain ⟨c0, c1⟩ := hbx
          obtain ⟨n0, n1⟩ := K2.out.below hb (by omega)
          have f0 := F2.out.below hb (by omega)
          unfold Free at f0
          have HB5 := Lib.hid (HB1.out.trans (hb.mono (by omega)))
          have M5 := Lib.hid hown
          have z5 : w2.heap.size ≤ wr.heap.size := hb.size
          have bn2 : ¬ β = w.heap.size + 1 := by omega
          have bn3 : ¬ w.heap.size + 1 = β := by omega
          clear hown hb
          go_wp2
          refine bodyPost_ret (v := .tuple #[.agg #[.int .i64 rk, .slice R ll.length t], .int .i64 0]) (by simp [results, Try.results18, n0, n1, go_sem]) rfl ?_
          exact ResLC.fin M5.out HB5.out (by omega) (.inl (by omega)) (by omega) (Nat.le_refl _)
end

section
variable (r s : Int) (A B : Option Addr) (n ca m cb : Nat) (zs ys : List Int) (w : World) (hA : Ints w w.heap.size A n zs) (hB : Ints w w.heap.size B m ys)
include hA hB

set_option maxHeartbeats 4000000 in
theorem mul_impl (rk : Int) (ll : List Int) (code : Int)
    (hT : ∀ (W : World) (g : Nat), Ints W W.heap.size A n zs → Ints W W.heap.size B m ys → BoxG W g (.int .i64 s) (.slice B m cb) → g < W.heap.size → Calls Try.prog 18 #[.agg #[.int .i64 r, .slice A n ca], .slice (some ⟨g, 0, none⟩) 1 1] W (ResLC W rk ll code)) :
    Calls Try.prog 9 #[.agg #[.int .i64 r, .slice A n ca], .agg #[.int .i64 s, .slice B m cb]] w (ResLC w rk ll code) := by
  have K0 := Lib.hid (BoxG.new ((w.alloc (Obj.cells #[.int .i64 r, .slice A n ca] 26)).alloc (Obj.cells #[.int .i64 s, .slice B m cb] 26)) 26 (.int .i64 0) (.slice none 0 0))
  have F0 := Lib.hid (Free.new ((w.alloc (Obj.cells #[.int .i64 r, .slice A n ca] 26)).alloc (Obj.cells #[.int .i64 s, .slice B m cb] 26)) 26 #[.int .i64 0, .slice none 0 0])
  have Z0 := Lib.hid (BoxG.new (((w.alloc (Obj.cells #[.int .i64 r, .slice A n ca] 26)).alloc (Obj.cells #[.int .i64 s, .slice B m cb] 26)).alloc (Obj.cells #[.int .i64 0, .slice none 0 0] 26)) 26 (.int .i64 s) (.slice B m cb))
  simp only [World.size_alloc] at K0 F0 Z0
  have D0 := Lib.hid (al3 w (Obj.cells #[.int .i64 r, .slice A n ca] 26) (Obj.cells #[.int .i64 s, .slice B m cb] 26) (Obj.cells #[.int .i64 0, .slice none 0 0] 26))
  have HA := Lib.hid hA
  have HB := Lib.hid hB
  have HT := Lib.hid hT
  clear hA hB hT
  go_enter Try.func9, Try.ntmps9
  go_wp2_with fail
  have D1 := Lib.hid (D0.out.alloc (by simp <;> omega) (Obj.cells #[.int .i64 s, .slice B m cb] 26))
  refine (HT.out _ _ (HA.out.into D1.out) (HB.out.into D1.out) Z0.out (by simp)).mono ?_
  rintro e4 w4 ⟨A4, c4, rfl, hM, hb⟩
  have s4 : w.heap.size + 1 + 1 + 1 < w4.heap.size := by have := hb.size; simp at this; omega
  obtain ⟨n0, n1⟩ := (K0.out.below (al1 _ _) (by simp)).below hb (by simp <;> omega)
  have f0 := (F0.out.below (al1 _ _) (by simp)).below hb (by simp <;> omega)
  unfold Free at f0
  have HB4 := Lib.hid (D1.out.trans (hb.mono (by simp <;> omega)))
  have M4 : Hid (Mine w4 (w.heap.size + 1 + 1 + 1) w4.heap.size A4 ll.length ll) := Lib.hid (hM.wide (by simp) (Nat.le_refl _))
  clear hb hM
  go_wp2
  refine bodyPost_ret (v := .tuple #[.agg #[.int .i64 rk, .slice A4 ll.length c4], .int .i64 code]) (by simp [results, Try.results9, n0, n1, go_sem]) rfl ?_
  exact ResLC.fin M4.out HB4.out (by omega) (.inl (by omega)) (by omega) (Nat.le_refl _)
end

end Go.Proofs.Ytpkjjcfcpmcdiaa
