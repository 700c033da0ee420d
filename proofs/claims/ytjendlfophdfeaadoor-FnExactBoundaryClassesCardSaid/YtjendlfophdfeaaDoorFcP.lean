/- The specification's boundary faces. No condition but those that each theorem names. -/
import Derived.Test.YtjendlfophdfeaaDoorFcJ
namespace Go.Proofs.YtjendlfophdfeaaDoor
open Go.RowKit

/-- What a call hands back: rows in memory of its own. -/
def ResRw (w : World) (zss : List (List Int)) (e : Ending) (w' : World) : Prop :=
  ∃ A c rs, e = .returned (.slice A rs.length c) ∧ OwnS w' w.heap.size w'.heap.size A c rs ∧ vals rs = zss ∧ Below w.heap.size w w'
namespace Tr
/-- The pair of a face, if it is a boundary face. -/
def bp (T : List (List Int)) (a f : Nat) : List (List Int) := if tt T a f < 0 then [[(a : Int), (f : Int)]] else []
def bd4 (T : List (List Int)) (a : Nat) : Nat → List (List Int)
  | 0 => []
  | f + 1 => bd4 T a f ++ bp T a f
/-- The pairs of the boundary faces of the first tetrahedra. -/
def bdl (T : List (List Int)) : Nat → List (List Int)
  | 0 => []
  | a + 1 => bdl T a ++ bd4 T a 4
theorem bd4_len (T : List (List Int)) (a f : Nat) : (bd4 T a f).length ≤ f := by
  induction f with
  | zero => simp [bd4]
  | succ f ih => simp only [bd4, List.length_append]; unfold bp; split <;> simp <;> omega
theorem bdl_len (T : List (List Int)) (a : Nat) : (bdl T a).length ≤ a * 4 := by
  induction a with
  | zero => simp [bdl]
  | succ a ih => simp only [bdl, List.length_append]; have := bd4_len T a 4; omega
theorem bd4_two (T : List (List Int)) (a f : Nat) : ∀ z ∈ bd4 T a f, z.length = 2 := by
  induction f with
  | zero => simp [bd4]
  | succ f ih =>
    intro z hz
    simp only [bd4] at hz
    rcases List.mem_append.1 hz with h | h
    · exact ih z h
    · unfold bp at h; split at h <;> simp at h; rw [h]; rfl
theorem bdl_two (T : List (List Int)) (a : Nat) : ∀ z ∈ bdl T a, z.length = 2 := by
  induction a with
  | zero => simp [bdl]
  | succ a ih =>
    intro z hz
    simp only [bdl] at hz
    rcases List.mem_append.1 hz with h | h
    · exact ih z h
    · exact bd4_two T a 4 z h
theorem bd4_yes {T : List (List Int)} {a f : Nat} (h : tt T a f < 0) : bd4 T a (f + 1) = bd4 T a f ++ [[(a : Int), (f : Int)]] := by simp [bd4, bp, h]
theorem bd4_no {T : List (List Int)} {a f : Nat} (h : ¬ tt T a f < 0) : bd4 T a (f + 1) = bd4 T a f := by simp [bd4, bp, h]
/-- What the function hands back. -/
def bdry (T : List (List Int)) : List (List Int) := if Is T then bdl T T.length else []
theorem bdry_small (T : List (List Int)) : (bdry T).length ≤ 32 ∧ ∀ z ∈ bdry T, z.length ≤ 4 := by
  unfold bdry
  split
  · rename_i h
    exact ⟨by have h1 := bdl_len T T.length; have h2 := h.1; omega, fun z hz => by have := bdl_two T _ z hz; omega⟩
  · exact ⟨by simp, by simp⟩
end Tr

theorem pair_in (w : World) (x y : Int) (o : Obj) : Rw.In ⟨some ⟨w.heap.size, 0, none⟩, 2, [x, y]⟩ ((w.alloc (Obj.cells #[.int .i64 x, .int .i64 y] 2)).alloc o) w.heap.size (w.heap.size + 1) := by
  have h : Blk ((w.alloc (Obj.cells #[.int .i64 x, .int .i64 y] 2)).alloc o) w.heap.size [x, y] := by
    have := Blk.new w [x, y]
    simp only [List.map_cons, List.map_nil] at this
    exact this.alloc _
  exact ⟨Nat.le_refl _, by unfold maxLen; dsimp only; omega, Mine.of_blk h (Nat.le_refl _) (Nat.lt_succ_self _) rfl⟩

set_option maxRecDepth 100000 in
set_option maxHeartbeats 8000000 in
theorem boundary_specT (A : Option Addr) (n c : Nat) (T : List (List Int)) (w : World) (h : Fc.RdT w w.heap.size A n T) (hn : n ≤ 8) (h4 : Tr.Four T) :
    Calls Tryd.prog 127 #[.agg #[.slice A n c]] w (ResRw w (Tr.bdl T n)) := by
  have LN := Lib.hid h.len
  have HT := Lib.hid h
  have H4 := Lib.hid h4
  clear h h4
  obtain ⟨U, hU⟩ : ∃ U, U = (w.alloc (Obj.cells #[.slice A n c] 29)).alloc (Obj.cells #[] 48) := ⟨_, rfl⟩
  have hB : Below w.heap.size w U := by rw [hU]; exact al2 _ _ _
  have z : w.heap.size + 1 < U.heap.size := by rw [hU]; simp
  have k0 : U.cell? ⟨w.heap.size, 0, none⟩ = some (.slice A n c) := by rw [hU]; simp [go_sem]
  have E0 := Lib.hid (show OwnS U (w.heap.size + 1) U.heap.size (some ⟨w.heap.size + 1, 0, none⟩) 0 [] from by
    rw [hU]
    have := OwnS.empty (w.alloc (Obj.cells #[.slice A n c] 29))
    rw [World.size_alloc] at this
    exact this.wide (Nat.le_refl _) (by simp))
  have RT := Lib.hid (HT.out.below hB)
  have DU := Lib.hid hB
  clear hB
  go_enter Tryd.func127, Tryd.ntmps127
  go_wp2
  rw [← hU]
  clear hU HT
  go_loopw [4, 3] (fun i s W => ∃ (a : Nat) (A' : Option Addr) (c' : Nat) (rs : List Rw), a ≤ n ∧ i = .int .i64 a ∧ s = .slice A' rs.length c' ∧ OwnS W (w.heap.size + 1) W.heap.size A' c' rs ∧ vals rs = Tr.bdl T a ∧ Below (w.heap.size + 1) U W) (fun i _ _ => n - (intOf i).toNat)
  case atStart => exact ⟨0, _, 0, [], Nat.zero_le _, rfl, rfl, E0.out, rfl, Below.refl _ _⟩
  case round =>
    obtain ⟨a, A', c', rs, ha, rfl, rfl, hO, hV, hbel⟩ := hrel
    have OW := Lib.hid hO
    have VL := Lib.hid hV
    have BW := Lib.hid hbel
    have kw := (hbel.cell (p := ⟨w.heap.size, 0, none⟩) (by dsimp only; omega)).trans k0
    have i0 : (0 : Int) ≤ (a : Int) := by omega
    clear hO hV hbel
    by_cases hlt : a < n
    case neg =>
      obtain rfl : a = n := by omega
      have i1 : ¬ (a : Int) < (a : Int) := by omega
      go_wp2
      go_ret
      exact ⟨A', c', rs, rfl, OW.out.wide (by omega) (Nat.le_refl _), VL.out, DU.out.trans (BW.out.mono (by omega))⟩
    have i1 : (a : Int) < (n : Int) := by omega
    go_wp2
    go_loopw [5, 3] (fun i s W => ∃ (f : Nat) (A' : Option Addr) (c' : Nat) (rs : List Rw), f ≤ 4 ∧ i = .int .i64 f ∧ s = .slice A' rs.length c' ∧ OwnS W (w.heap.size + 1) W.heap.size A' c' rs ∧ vals rs = Tr.bdl T a ++ Tr.bd4 T a f ∧ Below (w.heap.size + 1) U W) (fun i _ _ => 4 - (intOf i).toNat)
    case atStart => exact ⟨0, _, _, rs, Nat.zero_le _, rfl, rfl, OW.out, by rw [VL.out]; simp [Tr.bd4], BW.out⟩
    case round =>
      clear VL OW kw BW
      obtain ⟨f, A', c', rs, hf, rfl, rfl, hO, hV, hbel⟩ := hrel
      have OW := Lib.hid hO
      have VL := Lib.hid hV
      have BW := Lib.hid hbel
      have kw := (hbel.cell (p := ⟨w.heap.size, 0, none⟩) (by dsimp only; omega)).trans k0
      have zV : U.heap.size ≤ wr.heap.size := hbel.size
      have j0 : (0 : Int) ≤ (f : Int) := by omega
      have rl : rs.length ≤ 36 := by
        have h1 := congrArg List.length hV
        rw [vals_len, List.length_append] at h1
        have h2 := Tr.bdl_len T a
        have h3 := Tr.bd4_len T a f
        omega
      clear hO hV
      by_cases hlf : f < 4
      case neg =>
        obtain rfl : f = 4 := by omega
        clear hbel
        go_wp2
        go_roundw
        case rel => exact ⟨a + 1, A', c', rs, by omega, by go_num, rfl, OW.out, VL.out, BW.out⟩
        case measure => simp [intOf]; omega
      have j1 : (f : Int) < 4 := by omega
      obtain ⟨b, off, g, o, cj, rfl, hb, hg, hcr, _, _, hfc⟩ := (RT.out.below (hbel.mono (by omega))).row4 hlt (H4.out a (by rw [LN.out]; exact hlt))
      obtain ⟨c0, _⟩ := hfc f hlf
      obtain ⟨tv, htv⟩ : ∃ tv, Tr.tt T a f = tv := ⟨_, rfl⟩
      rw [htv] at c0
      have HTV := Lib.hid htv
      clear hfc hbel htv
      by_cases hneg : tv < 0
      · have NX := Lib.hid (Tr.bd4_yes (T := T) (a := a) (f := f) (by rw [HTV.out]; exact hneg))
        go_wp2_with (at_builtin; refine push_row rfl _ _ rfl (w.heap.size + 1) wr.heap.size wr.heap.size c' rs.length (wr.heap.size + 1) A' rs ⟨some ⟨wr.heap.size, 0, none⟩, 2, [(a : Int), (f : Int)]⟩ rfl rfl (OW.out.below (al2 wr _ _) (Nat.le_refl _)) rfl (by simp [go_sem, Rw.sv]) ((pair_in wr _ _ _).wide (Nat.le_refl _) (by simp)) (Nat.le_refl _) (by omega) (by simp; omega) (by simp; omega) (by omega) ?_; intro A7 c7 w7 hO hK; have O7 := Lib.hid hO; have K7 := Lib.hid hK; clear hO hK)
        go_roundw
        case rel => exact ⟨f + 1, A7, c7, rs ++ [⟨some ⟨wr.heap.size, 0, none⟩, 2, [(a : Int), (f : Int)]⟩], by omega, by go_num, by simp, O7.out, by rw [NX.out, vals, List.map_append, ← List.append_assoc, ← VL.out]; rfl, (BW.out.trans ((al2 wr _ _).mono (by omega))).trans (K7.out.below (Nat.le_refl _) (by simp; omega))⟩
        case measure => simp [intOf]; omega
      · have NX := Lib.hid (Tr.bd4_no (T := T) (a := a) (f := f) (by rw [HTV.out]; exact hneg))
        go_wp2
        go_roundw
        case rel => exact ⟨f + 1, A', c', rs, by omega, by go_num, rfl, OW.out, by rw [NX.out]; exact VL.out, BW.out⟩
        case measure => simp [intOf]; omega

end Go.Proofs.YtjendlfophdfeaaDoor
