/- The program's InvariantFactors. No condition but those that each theorem names. -/
import Derived.Test.YtpojkahlllochaaInvB
import Derived.Test.YtpojkahlllochaaRed
namespace Go.Proofs.Ytpojkahlllochaa
open Go.RowKit

theorem ResL.empty {w w' : World} {code : Int} (hb : Below w.heap.size w w') : ResL w [] code (.returned (.tuple #[.slice none 0 0, .int .i64 code])) w' := ⟨none, 0, rfl, Own.none_ _ _ _, hb⟩

set_option maxRecDepth 100000 in
set_option maxHeartbeats 4000000 in
theorem inv_impl_no (R C : Int) (A : Option Addr) (n c : Nat) (zs : List Int) (w : World) (h : Ints w w.heap.size A n zs) (hn : n ≤ 1048576) (hP : ¬ MOk R C zs) :
    Calls Try.prog 92 #[.agg #[.int .i64 R, .int .i64 C, .slice A n c]] w (ResL w [] 1) := by
  have HS := Lib.hid (smith_impl_no R C A n c zs (w.alloc (Obj.cells #[.int .i64 R, .int .i64 C, .slice A n c] 77)) (h.into (al1 w (Obj.cells #[.int .i64 R, .int .i64 C, .slice A n c] 77))) hn hP)
  clear h hP
  go_enter Try.func92, Try.ntmps92
  go_wp2_with fail
  refine HS.out.mono ?_
  intro e w1 hres
  obtain ⟨Al, Ali, Ad, Ar, Ari, cl, cli, cd, cr, cri, rfl, _, hb⟩ := hres.red
  have HB := Lib.hid (on1 _ hb)
  clear hb hres
  go_wp2
  go_ret2
  exact ResL.empty (HB.out.alloc HB.out.size _)

/-- What the invariant factors are, if any, and the code. -/
def invOut (R C : Nat) : Option Sm.St → List Int × Int
  | some s => (nz (diag C s.d (min R C)), 0)
  | none => ([], 3)

set_option maxRecDepth 100000 in
set_option maxHeartbeats 8000000 in
theorem inv_impl_yes (R C : Nat) (A : Option Addr) (n c : Nat) (zs : List Int) (o : Option Sm.St) (w : World) (h : Ints w w.heap.size A n zs) (hR : R ≤ 48) (hC : C ≤ 48) (hP : MOk R C zs) (ho : Sm.Outcome2 R C (min R C) 0 (start R C zs) o) (hg : ∀ t, o = some t → Sm.Good R C t) :
    Calls Try.prog 92 #[.agg #[.int .i64 R, .int .i64 C, .slice A n c]] w (ResL w (invOut R C o).1 (invOut R C o).2) := by
  have HS := Lib.hid (smith_impl_yes R C A n c zs o (w.alloc (Obj.cells #[.int .i64 R, .int .i64 C, .slice A n c] 77)) (h.into (al1 w (Obj.cells #[.int .i64 R, .int .i64 C, .slice A n c] 77))) hR hC hP ho)
  clear h hP ho
  go_enter Try.func92, Try.ntmps92
  go_wp2_with fail
  refine HS.out.mono ?_
  intro e w1 hres
  cases o with
  | none =>
    obtain ⟨Al, Ali, Ad, Ar, Ari, cl, cli, cd, cr, cri, rfl, _, hb⟩ := ResR.red hres
    have HB := Lib.hid (on1 _ hb)
    clear hb hres
    go_wp2
    go_ret2
    exact ResL.empty (HB.out.alloc HB.out.size _)
  | some s =>
    have G := hg s rfl
    clear hg
    obtain ⟨Al, Ali, Ad, Ar, Ari, cl, cli, cd, cr, cri, rfl, hown, hb⟩ := ResR.red hres
    have HB := Lib.hid (on1 _ hb)
    have s1 : w.heap.size < w1.heap.size := by have := hb.size; simp at this; omega
    have ID := Lib.hid ((hown.ints (Nat.le_refl _)).2.2.1.into (al1 w1 (Obj.cells #[.int .i64 (R : Int), .int .i64 (R : Int), .slice Al s.l.length cl, .int .i64 (R : Int), .int .i64 (R : Int), .slice Ali s.li.length cli, .int .i64 (R : Int), .int .i64 (C : Int), .slice Ad s.d.length cd, .int .i64 (C : Int), .int .i64 (C : Int), .slice Ar s.r.length cr, .int .i64 (C : Int), .int .i64 (C : Int), .slice Ari s.ri.length cri] 120)))
    have ND := Lib.hid G.nd
    have X0 := Lib.hid (Row.new w1 #[.int .i64 (R : Int), .int .i64 (R : Int), .slice Al s.l.length cl, .int .i64 (R : Int), .int .i64 (R : Int), .slice Ali s.li.length cli, .int .i64 (R : Int), .int .i64 (C : Int), .slice Ad s.d.length cd, .int .i64 (C : Int), .int .i64 (C : Int), .slice Ar s.r.length cr, .int .i64 (C : Int), .int .i64 (C : Int), .slice Ari s.ri.length cri] 120)
    have D1 := Lib.hid (al1 w1 (Obj.cells #[.int .i64 (R : Int), .int .i64 (R : Int), .slice Al s.l.length cl, .int .i64 (R : Int), .int .i64 (R : Int), .slice Ali s.li.length cli, .int .i64 (R : Int), .int .i64 (C : Int), .slice Ad s.d.length cd, .int .i64 (C : Int), .int .i64 (C : Int), .slice Ar s.r.length cr, .int .i64 (C : Int), .int .i64 (C : Int), .slice Ari s.ri.length cri] 120))
    clear hb hres hown G
    obtain ⟨y0, y1, y2, y3, y4, y5, y6, y7, y8, y9, y10, y11, y12, y13, y14⟩ := X0.out.box15
    go_wp2_with fail
    refine (diagonal_impl R C Ad s.d.length cd s.d _ ID.out ND.out hR hC).mono ?_
    rintro e w2 ⟨A2, c2, rfl, hown, hb⟩
    have hdl := diag_len C s.d (min R C)
    obtain ⟨dl, hd⟩ : ∃ dl, diag C s.d (min R C) = dl := ⟨_, rfl⟩
    rw [hd] at hown hdl
    rw [hd]
    have HD := Lib.hid hd
    have HDL := Lib.hid (show dl.length ≤ 2304 by omega)
    have OW := Lib.hid hown
    have s2 : w1.heap.size < w2.heap.size := by have := hb.size; simp at this; omega
    have HB2 := Lib.hid (HB.out.trans ((D1.out.trans (hb.mono (by simp))).mono (by omega)))
    clear hb hown hd hdl y0 y1 y2 y3 y4 y5 y6 y7 y8 y9 y10 y11 y12 y13 y14
    go_wp2_with fail
    refine (delete_nz A2 dl.length c2 _ _ dl _ OW.out (Nat.le_refl _) HDL.out).mono ?_
    rintro e w3 ⟨A3, c3, rfl, hown, hk⟩
    have O3 := Lib.hid hown
    have K3 := Lib.hid hk
    have s3 : w2.heap.size ≤ w3.heap.size := hk.size
    clear hown hk
    go_wp2
    go_ret2
    show ResL w (nz (diag C s.d (min R C))) 0 _ _
    rw [HD.out]
    exact ⟨A3, c3, rfl, O3.out.wide (by simp <;> omega) s3, HB2.out.trans (K3.out.below (by simp <;> omega) (by omega))⟩

end Go.Proofs.Ytpojkahlllochaa
