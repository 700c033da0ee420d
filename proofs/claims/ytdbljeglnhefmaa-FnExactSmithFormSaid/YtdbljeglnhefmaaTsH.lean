/- The specification's SmithForm. No condition but those that each theorem names. -/
import Derived.Test.YtdbljeglnhefmaaTsG
import Derived.StillTailTactics
namespace Go.Proofs.Ytdbljeglnhefmaa
open Go.RowKit

/-- A reduction that can be read, with a code. -/
def ResI (w : World) (R C : Int) (s : Sm.St) (code : Int) (e : Ending) (w' : World) : Prop :=
  ∃ (Al Ali Ad Ar Ari : Option Addr) (cl cli cd cr cri : Nat), e = .returned (.tuple #[.agg #[.int .i64 R, .int .i64 R, .slice Al s.l.length cl, .int .i64 R, .int .i64 R, .slice Ali s.li.length cli, .int .i64 R, .int .i64 C, .slice Ad s.d.length cd, .int .i64 C, .int .i64 C, .slice Ar s.r.length cr, .int .i64 C, .int .i64 C, .slice Ari s.ri.length cri], .int .i64 code]) ∧ RedInts w' w'.heap.size s Al Ali Ad Ar Ari ∧ Below w.heap.size w w'
theorem ResI.none_ {w w' : World} {code : Int} (hb : Below w.heap.size w w') : ResI w 0 0 noSt code (.returned (.tuple #[.agg #[.int .i64 0, .int .i64 0, .slice none 0 0, .int .i64 0, .int .i64 0, .slice none 0 0, .int .i64 0, .int .i64 0, .slice none 0 0, .int .i64 0, .int .i64 0, .slice none 0 0, .int .i64 0, .int .i64 0, .slice none 0 0], .int .i64 code])) w' :=
  ⟨none, none, none, none, none, 0, 0, 0, 0, 0, rfl, ⟨⟨rfl, fun h => absurd h (Nat.lt_irrefl _)⟩, ⟨rfl, fun h => absurd h (Nat.lt_irrefl _)⟩, ⟨rfl, fun h => absurd h (Nat.lt_irrefl _)⟩, ⟨rfl, fun h => absurd h (Nat.lt_irrefl _)⟩, ⟨rfl, fun h => absurd h (Nat.lt_irrefl _)⟩⟩, hb⟩
/-- What the specification's Smith form answers for a valid matrix. -/
def SpSays (w : World) (R C : Nat) (o : Option Sm.St) (e : Ending) (w' : World) : Prop :=
  match o with
  | some s => ResI w R C s 0 e w'
  | none => ResI w 0 0 noSt 3 e w'

set_option maxHeartbeats 4000000 in
theorem smith_spec_no (R C : Int) (A : Option Addr) (n c : Nat) (zs : List Int) (w : World) (h : Ints w w.heap.size A n zs) (hn : n ≤ 1048576) (hP : ¬ MOk R C zs) :
    Calls Try.prog 31 #[.agg #[.int .i64 R, .int .i64 C, .slice A n c]] w (ResI w 0 0 noSt 1) := by
  have HP := Lib.hid hP
  have H := Lib.hid h
  have T0 := Lib.hid (Row.new (w.alloc (Obj.cells #[.int .i64 R, .int .i64 C, .slice A n c] 27)) #[.int .i64 0, .int .i64 0, .slice none 0 0, .int .i64 0, .int .i64 0, .slice none 0 0, .int .i64 0, .int .i64 0, .slice none 0 0, .int .i64 0, .int .i64 0, .slice none 0 0, .int .i64 0, .int .i64 0, .slice none 0 0] 44)
  simp only [World.size_alloc] at T0
  clear h hP
  go_enter Try.func31, Try.ntmps31
  go_wp2_with fail
  refine (isMs_no R C A n c zs _ (H.out.into (al2 _ _ _)) hn HP.out).mono ?_
  rintro e w1 ⟨rfl, hb⟩
  have T1 := Lib.hid (T0.out.below hb (by simp <;> omega))
  have TT := Lib.hid (T1.out.there (n := 15) rfl)
  have HB := Lib.hid (on2 _ _ hb)
  clear hb T0 T1
  go_wp2_with (refine wpList_store_mid (by rfl) 44 (.tmp 2) (.tmp 8) (by rfl) (w.heap.size + 1) 0 #[.int .i64 0, .int .i64 0, .slice none 0 0, .int .i64 0, .int .i64 0, .slice none 0 0, .int .i64 0, .int .i64 0, .slice none 0 0, .int .i64 0, .int .i64 0, .slice none 0 0, .int .i64 0, .int .i64 0, .slice none 0 0] (by rfl) (by rfl) (by exact TT.out) sizeR (by simp [Value.oneCell']) ?_)
  refine bodyPost_ret (v := .tuple #[.agg #[.int .i64 0, .int .i64 0, .slice none 0 0, .int .i64 0, .int .i64 0, .slice none 0 0, .int .i64 0, .int .i64 0, .slice none 0 0, .int .i64 0, .int .i64 0, .slice none 0 0, .int .i64 0, .int .i64 0, .slice none 0 0], .int .i64 1]) (results_cell_tmp (cs := [.int .i64 0, .int .i64 0, .slice none 0 0, .int .i64 0, .int .i64 0, .slice none 0 0, .int .i64 0, .int .i64 0, .slice none 0 0, .int .i64 0, .int .i64 0, .slice none 0 0, .int .i64 0, .int .i64 0, .slice none 0 0]) Try.results31 _ _ (w.heap.size + 1) _ (by rfl) (World.rangeAt_setCells_same _ _ _ _ TT.out) Try.underlying44 rfl sizeR) rfl ?_
  exact ResI.none_ (below_setCells (by omega) _ _ _ HB.out)

set_option maxRecDepth 100000 in
set_option maxHeartbeats 8000000 in
theorem smith_spec_yes (R C : Nat) (A : Option Addr) (n c : Nat) (zs : List Int) (o : Option Sm.St) (w : World) (h : Ints w w.heap.size A n zs) (hR : R ≤ 48) (hC : C ≤ 48) (hP : MOk R C zs) (ho : Sm.Outcome R C (min R C) 0 (start R C zs) o) :
    Calls Try.prog 31 #[.agg #[.int .i64 R, .int .i64 C, .slice A n c]] w (SpSays w R C o) := by
  have p1 := rc_le hR hC
  have hnn : n = R * C := by have h1 := hP.2.2.2.2.1; rw [h.1, castM] at h1; exact_mod_cast h1
  have HN := Lib.hid hnn
  have HP := Lib.hid hP
  have HO := Lib.hid ho
  have H := Lib.hid h
  have K0 := Lib.hid ((Box3.new w 27 (.int .i64 R) (.int .i64 C) (.slice A n c)).below (al1 _ (Obj.cells #[.int .i64 0, .int .i64 0, .slice none 0 0, .int .i64 0, .int .i64 0, .slice none 0 0, .int .i64 0, .int .i64 0, .slice none 0 0, .int .i64 0, .int .i64 0, .slice none 0 0, .int .i64 0, .int .i64 0, .slice none 0 0] 44)) (by simp))
  have T0 := Lib.hid (Row.new (w.alloc (Obj.cells #[.int .i64 R, .int .i64 C, .slice A n c] 27)) #[.int .i64 0, .int .i64 0, .slice none 0 0, .int .i64 0, .int .i64 0, .slice none 0 0, .int .i64 0, .int .i64 0, .slice none 0 0, .int .i64 0, .int .i64 0, .slice none 0 0, .int .i64 0, .int .i64 0, .slice none 0 0] 44)
  simp only [World.size_alloc] at T0
  clear h hP ho hnn
  go_enter Try.func31, Try.ntmps31
  go_wp2_with fail
  refine (isMs_yes R C A n c zs _ (H.out.into (al2 _ _ _)) (by have := HN.out; omega) HP.out).mono ?_
  rintro e w1 ⟨rfl, hb⟩
  have s1 : w.heap.size + 1 < w1.heap.size := by have := hb.size; simp at this; omega
  have K1 := Lib.hid (K0.out.below hb (by simp <;> omega))
  have T1 := Lib.hid (T0.out.below hb (by simp <;> omega))
  have HB1 := Lib.hid (on2 _ _ hb)
  clear hb K0 T0
  obtain ⟨k0, k1, k2⟩ := K1.out
  go_wp2_with fail
  refine (reduce_spec R C A n c zs o _ (H.out.into HB1.out) HN.out hR hC HP.out HO.out).mono ?_
  rintro e w2 ⟨gw, rfl, hread, hb⟩
  have s2 : w1.heap.size ≤ w2.heap.size := hb.size
  have T2 := Lib.hid (T1.out.below hb (by omega))
  have TT := Lib.hid (T2.out.there (n := 15) rfl)
  have HB2 := Lib.hid (HB1.out.trans (hb.mono (by omega)))
  clear hb T1 HB1 k0 k1 k2 K1
  cases o with
  | none =>
    obtain ⟨hlt, hc⟩ := hread
    go_wp2_with (refine wpList_store_mid (by rfl) 44 (.tmp 2) (.tmp 15) (by rfl) (w.heap.size + 1) 0 #[.int .i64 0, .int .i64 0, .slice none 0 0, .int .i64 0, .int .i64 0, .slice none 0 0, .int .i64 0, .int .i64 0, .slice none 0 0, .int .i64 0, .int .i64 0, .slice none 0 0, .int .i64 0, .int .i64 0, .slice none 0 0] (by rfl) (by rfl) (by exact TT.out) sizeR (by simp [Value.oneCell']) ?_)
    refine bodyPost_ret (v := .tuple #[.agg #[.int .i64 0, .int .i64 0, .slice none 0 0, .int .i64 0, .int .i64 0, .slice none 0 0, .int .i64 0, .int .i64 0, .slice none 0 0, .int .i64 0, .int .i64 0, .slice none 0 0, .int .i64 0, .int .i64 0, .slice none 0 0], .int .i64 3]) (results_cell_tmp (cs := [.int .i64 0, .int .i64 0, .slice none 0 0, .int .i64 0, .int .i64 0, .slice none 0 0, .int .i64 0, .int .i64 0, .slice none 0 0, .int .i64 0, .int .i64 0, .slice none 0 0, .int .i64 0, .int .i64 0, .slice none 0 0]) Try.results31 _ _ (w.heap.size + 1) _ (by rfl) (World.rangeAt_setCells_same _ _ _ _ TT.out) Try.underlying44 rfl sizeR) rfl ?_
    exact ResI.none_ (below_setCells (by omega) _ _ _ HB2.out)
  | some s =>
    obtain ⟨Ad, Al, Ali, Ar, Ari, cd, cl, cli, cr, cri, hrow, hred⟩ := hread
    have XR := Lib.hid hrow
    have RI := Lib.hid hred
    clear hrow hred
    obtain ⟨y0, y1, y2, y3, y4, y5, y6, y7, y8, y9, y10, y11, y12, y13, y14, y15⟩ := XR.out.box16
    go_upto_region 6 with fail
    go_still_tail 21, (by kernel_rfl)
    change wpList _ _ _ _ _ w2.drew
    have TX := Lib.hid (show (w2.drew).there (w.heap.size + 1) 0 15 from TT.out)
    have RX := Lib.hid (show RedFrom (w2.drew) w1.heap.size (w2.drew).heap.size s Al Ali Ad Ar Ari cl cli cd cr cri from RI.out)
    have BX := Lib.hid (HB2.out.drew)
    obtain ⟨wx, hwx⟩ : ∃ wx, w2.drew = wx := ⟨_, rfl⟩
    rw [hwx] at TX RX BX
    rw [hwx]
    clear hwx y0 y1 y2 y3 y4 y5 y6 y7 y8 y9 y10 y11 y12 y13 y14 y15 XR RI HB2 TT T2
    go_wp2_with (refine wpList_store_mid (by rfl) 44 (.tmp 2) (.tmp 36) (by rfl) (w.heap.size + 1) 0 #[.int .i64 R, .int .i64 R, .slice Al s.l.length cl, .int .i64 R, .int .i64 R, .slice Ali s.li.length cli, .int .i64 R, .int .i64 C, .slice Ad s.d.length cd, .int .i64 C, .int .i64 C, .slice Ar s.r.length cr, .int .i64 C, .int .i64 C, .slice Ari s.ri.length cri] (by rfl) (by rfl) (by exact TX.out) sizeR (by simp [Value.oneCell']) ?_)
    refine bodyPost_ret (v := .tuple #[.agg #[.int .i64 R, .int .i64 R, .slice Al s.l.length cl, .int .i64 R, .int .i64 R, .slice Ali s.li.length cli, .int .i64 R, .int .i64 C, .slice Ad s.d.length cd, .int .i64 C, .int .i64 C, .slice Ar s.r.length cr, .int .i64 C, .int .i64 C, .slice Ari s.ri.length cri], .int .i64 0]) (results_cell_tmp (cs := [.int .i64 R, .int .i64 R, .slice Al s.l.length cl, .int .i64 R, .int .i64 R, .slice Ali s.li.length cli, .int .i64 R, .int .i64 C, .slice Ad s.d.length cd, .int .i64 C, .int .i64 C, .slice Ar s.r.length cr, .int .i64 C, .int .i64 C, .slice Ari s.ri.length cri]) Try.results31 _ _ (w.heap.size + 1) _ (by rfl) (World.rangeAt_setCells_same _ _ _ _ TX.out) Try.underlying44 rfl sizeR) rfl ?_
    have z0 : (wx.setCells (w.heap.size + 1) 0 (#[.int .i64 R, .int .i64 R, .slice Al s.l.length cl, .int .i64 R, .int .i64 R, .slice Ali s.li.length cli, .int .i64 R, .int .i64 C, .slice Ad s.d.length cd, .int .i64 C, .int .i64 C, .slice Ar s.r.length cr, .int .i64 C, .int .i64 C, .slice Ari s.ri.length cri] : Array Value).toList).heap.size = wx.heap.size := size_setCells _ _ _ _
    refine ⟨Al, Ali, Ad, Ar, Ari, cl, cli, cd, cr, cri, rfl, ?_, below_setCells (by omega) _ _ _ BX.out⟩
    rw [z0]
    exact (RX.out.setCells (by omega) _ 0).ints

end Go.Proofs.Ytdbljeglnhefmaa
