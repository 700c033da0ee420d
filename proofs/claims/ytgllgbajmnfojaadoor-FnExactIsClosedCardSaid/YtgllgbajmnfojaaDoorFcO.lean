/- The test of a closed triangulation on both sides. No condition but those that each theorem names. -/
import Derived.Test.YtgllgbajmnfojaaDoorFcN
import Derived.Test.YtgllgbajmnfojaaDoorFcP
import Derived.Test.YtgllgbajmnfojaaDoorFcQ
namespace Go.Proofs.YtgllgbajmnfojaaDoor
open Go.RowKit

/-- A closed triangulation. -/
def Tr.Cl (T : List (List Int)) : Prop := Tr.Is T ∧ 0 < T.length ∧ Tr.bdry T = []
instance (T : List (List Int)) : Decidable (Tr.Cl T) := by unfold Tr.Cl; infer_instance
namespace Fc


set_option maxRecDepth 100000 in
set_option maxHeartbeats 4000000 in
theorem isClosed_spec (A : Option Addr) (c : Nat) (rs : List Rw) (w : World) (h : RdS w w.heap.size A rs) (hn : rs.length ≤ 1048576) :
    Calls Tryd.prog 20 #[.agg #[.slice A rs.length c]] w fun e w' => e = .returned (.bool (decide (Tr.Cl (vals rs)))) ∧ Below w.heap.size w w' := by
  have H := Lib.hid h
  have TI := Lib.hid (fun (W : World) (hb : Below w.heap.size w W) => isTri_spec A c rs W (H.out.into hb) hn)
  have K0 := Lib.hid (show (w.alloc (Obj.cells #[.slice A rs.length c] 29)).cell? ⟨w.heap.size, 0, none⟩ = some (.slice A rs.length c) from by simp [go_sem])
  clear h
  by_cases hok : Tr.Is (vals rs)
  case neg =>
    rw [decide_eq_false hok] at TI
    have R := Lib.hid (show decide (Tr.Cl (vals rs)) = false from decide_eq_false fun e => hok e.1)
    clear hok
    go_enter Tryd.func20, Tryd.ntmps20
    go_wp2_with fail
    refine (TI.out _ (by first | exact Below.refl _ _ | exact al1 _ _)).mono ?_
    rintro e w1 ⟨rfl, hb⟩
    have D1 := Lib.hid (show Below w.heap.size w w1 from by first | exact on1 _ hb | exact hb)
    have k1 := (hb.cell (p := ⟨w.heap.size, 0, none⟩) (by simp)).trans K0.out
    clear hb
    go_wp2
    go_ret
    exact ⟨by rw [R.out]; rfl, D1.out⟩
  rw [decide_eq_true hok] at TI
  have h8 : rs.length ≤ 8 := by rw [← vals_len]; exact hok.1
  have BS := Lib.hid (fun (W : World) (hb : Below w.heap.size w W) => boundary_specT A rs.length c (vals rs) W (H.out.into hb).rdt h8 hok.2.1)
  by_cases hp : 0 < rs.length
  case neg =>
    have R := Lib.hid (show decide (Tr.Cl (vals rs)) = false from decide_eq_false fun e => hp (by rw [← vals_len]; exact e.2.1))
    have i1 : ¬ (0 : Int) < (rs.length : Int) := by omega
    clear hok BS
    go_enter Tryd.func20, Tryd.ntmps20
    go_wp2_with fail
    refine (TI.out _ (by first | exact Below.refl _ _ | exact al1 _ _)).mono ?_
    rintro e w1 ⟨rfl, hb⟩
    have D1 := Lib.hid (show Below w.heap.size w w1 from by first | exact on1 _ hb | exact hb)
    have k1 := (hb.cell (p := ⟨w.heap.size, 0, none⟩) (by simp)).trans K0.out
    clear hb
    go_wp2
    go_ret
    exact ⟨by rw [R.out]; rfl, D1.out⟩
  have i1 : (0 : Int) < (rs.length : Int) := by omega
  have R := Lib.hid (show decide (Tr.Cl (vals rs)) = decide ((Tr.bdl (vals rs) rs.length).length = 0) from by
    have e1 : Tr.bdry (vals rs) = Tr.bdl (vals rs) rs.length := by unfold Tr.bdry; rw [if_pos hok, vals_len]
    rw [decide_eq_decide]
    refine ⟨fun e => by rw [← e1, e.2.2]; rfl, fun e => ⟨hok, by rw [vals_len]; exact hp, e1.trans (List.eq_nil_of_length_eq_zero e)⟩⟩)
  clear hok
  go_enter Tryd.func20, Tryd.ntmps20
  go_wp2_with fail
  refine (TI.out _ (by first | exact Below.refl _ _ | exact al1 _ _)).mono ?_
  rintro e w1 ⟨rfl, hb⟩
  have D1 := Lib.hid (show Below w.heap.size w w1 from by first | exact on1 _ hb | exact hb)
  have k1 := (hb.cell (p := ⟨w.heap.size, 0, none⟩) (by simp)).trans K0.out
  clear hb
  go_wp2_with fail
  refine (BS.out _ D1.out).mono ?_
  rintro e w2 ⟨A', c', rs', rfl, hO, hV, hb⟩
  have D2 := Lib.hid (D1.out.trans (hb.mono D1.out.size))
  have hl : rs'.length = (Tr.bdl (vals rs) rs.length).length := (Go.Proofs.YtgllgbajmnfojaaDoor.vals_len rs').symm.trans (congrArg List.length hV)
  rw [← hl] at R
  clear hO hV hb BS hl
  by_cases hz : rs'.length = 0
  · have j1 : (rs'.length : Int) = 0 := by omega
    have b1 : ((rs'.length : Int) == 0) = true := by simpa using hz
    rw [decide_eq_true hz] at R
    go_wp2
    go_ret
    exact ⟨by rw [R.out]; rfl, D2.out⟩
  · have j1 : ¬ (rs'.length : Int) = 0 := by omega
    have b1 : ((rs'.length : Int) == 0) = false := by simpa using hz
    rw [decide_eq_false hz] at R
    go_wp2
    go_ret
    exact ⟨by rw [R.out]; rfl, D2.out⟩

set_option maxRecDepth 100000 in
set_option maxHeartbeats 4000000 in
theorem isClosed_impl (A : Option Addr) (c : Nat) (rs : List Rw) (w : World) (h : RdS w w.heap.size A rs) (hn : rs.length ≤ 1048576) (hv : Vs w) :
    Calls Tryd.prog 21 #[.agg #[.slice A rs.length c]] w fun e w' => e = .returned (.bool (decide (Tr.Cl (vals rs)))) ∧ Below w.heap.size w w' := by
  have H := Lib.hid h
  have h0 := hv.pos
  have HV := Lib.hid hv
  have TI := Lib.hid (fun (W : World) (hb : Below w.heap.size w W) => isTri_impl A c rs W (H.out.into hb) hn (HV.out.below hb h0.1))
  have K0 := Lib.hid (show (w.alloc (Obj.cells #[.slice A rs.length c] 29)).cell? ⟨w.heap.size, 0, none⟩ = some (.slice A rs.length c) from by simp [go_sem])
  clear h hv
  by_cases hok : Tr.Is (vals rs)
  case neg =>
    rw [decide_eq_false hok] at TI
    have R := Lib.hid (show decide (Tr.Cl (vals rs)) = false from decide_eq_false fun e => hok e.1)
    clear hok
    go_enter Tryd.func21, Tryd.ntmps21
    go_wp2_with fail
    refine (TI.out _ (by first | exact Below.refl _ _ | exact al1 _ _)).mono ?_
    rintro e w1 ⟨rfl, hb⟩
    have D1 := Lib.hid (show Below w.heap.size w w1 from by first | exact on1 _ hb | exact hb)
    have k1 := (hb.cell (p := ⟨w.heap.size, 0, none⟩) (by simp)).trans K0.out
    clear hb
    go_wp2
    go_ret
    exact ⟨by rw [R.out]; rfl, D1.out⟩
  rw [decide_eq_true hok] at TI
  have h8 : rs.length ≤ 8 := by rw [← vals_len]; exact hok.1
  have BS := Lib.hid (fun (W : World) (hb : Below w.heap.size w W) => boundary_implT A rs.length c (vals rs) W (H.out.into hb).rdt (HV.out.below hb h0.1) hn)
  by_cases hp : 0 < rs.length
  case neg =>
    have R := Lib.hid (show decide (Tr.Cl (vals rs)) = false from decide_eq_false fun e => hp (by rw [← vals_len]; exact e.2.1))
    have i1 : ¬ (0 : Int) < (rs.length : Int) := by omega
    clear hok BS
    go_enter Tryd.func21, Tryd.ntmps21
    go_wp2_with fail
    refine (TI.out _ (by first | exact Below.refl _ _ | exact al1 _ _)).mono ?_
    rintro e w1 ⟨rfl, hb⟩
    have D1 := Lib.hid (show Below w.heap.size w w1 from by first | exact on1 _ hb | exact hb)
    have k1 := (hb.cell (p := ⟨w.heap.size, 0, none⟩) (by simp)).trans K0.out
    clear hb
    go_wp2
    go_ret
    exact ⟨by rw [R.out]; rfl, D1.out⟩
  have i1 : (0 : Int) < (rs.length : Int) := by omega
  have R := Lib.hid (show decide (Tr.Cl (vals rs)) = decide ((Tr.bdry (vals rs)).length = 0) from by
    have e1 : Tr.bdry (vals rs) = Tr.bdl (vals rs) rs.length := by unfold Tr.bdry; rw [if_pos hok, vals_len]
    rw [decide_eq_decide]
    refine ⟨fun e => by rw [e.2.2]; rfl, fun e => ⟨hok, by rw [vals_len]; exact hp, List.eq_nil_of_length_eq_zero e⟩⟩)
  clear hok
  go_enter Tryd.func21, Tryd.ntmps21
  go_wp2_with fail
  refine (TI.out _ (by first | exact Below.refl _ _ | exact al1 _ _)).mono ?_
  rintro e w1 ⟨rfl, hb⟩
  have D1 := Lib.hid (show Below w.heap.size w w1 from by first | exact on1 _ hb | exact hb)
  have k1 := (hb.cell (p := ⟨w.heap.size, 0, none⟩) (by simp)).trans K0.out
  clear hb
  go_wp2_with fail
  refine (BS.out _ D1.out).mono ?_
  rintro e w2 ⟨A', c', rs', rfl, hO, hV, hb⟩
  have D2 := Lib.hid (D1.out.trans (hb.mono D1.out.size))
  have hl : rs'.length = (Tr.bdry (vals rs)).length := (Go.Proofs.YtgllgbajmnfojaaDoor.vals_len rs').symm.trans (congrArg List.length hV)
  rw [← hl] at R
  clear hO hV hb BS hl
  by_cases hz : rs'.length = 0
  · have j1 : (rs'.length : Int) = 0 := by omega
    have b1 : ((rs'.length : Int) == 0) = true := by simpa using hz
    rw [decide_eq_true hz] at R
    go_wp2
    go_ret
    exact ⟨by rw [R.out]; rfl, D2.out⟩
  · have j1 : ¬ (rs'.length : Int) = 0 := by omega
    have b1 : ((rs'.length : Int) == 0) = false := by simpa using hz
    rw [decide_eq_false hz] at R
    go_wp2
    go_ret
    exact ⟨by rw [R.out]; rfl, D2.out⟩

end Fc
end Go.Proofs.YtgllgbajmnfojaaDoor
