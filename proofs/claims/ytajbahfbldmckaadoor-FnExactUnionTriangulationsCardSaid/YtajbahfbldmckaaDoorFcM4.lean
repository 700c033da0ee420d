/- Texts of one proof laid together. No condition but those that each theorem names. -/
import Derived.Test.YtajbahfbldmckaaDoorFcP
import Derived.Test.YtajbahfbldmckaaDoorFcD
import Derived.Deep.RegionHeld3
import Derived.Deep.AppendLies
import Derived.Test.YtajbahfbldmckaaDoorFcN
import Derived.OrdersHeld
import Derived.StillTail
import Derived.Test.YtajbahfbldmckaaDoorPfN
import Derived.Test.YtajbahfbldmckaaDoorFcR
import Derived.OrdersIn
import Derived.TacticsIn
import Derived.RegionIn
import Derived.BigRegionIn
import Derived.IntWalk
import Derived.Test.YtajbahfbldmckaaDoorFcL
import Derived.StillTailTactics
import Derived.Test.YtajbahfbldmckaaDoorLiftF
import Derived.Outline
import Derived.Deep.DeepCutAuto
namespace Go.Proofs.YtajbahfbldmckaaDoor
open Go.RowKit
namespace Fc

theorem OwnS.pushed {w w' : World} {lo hi lo2 c g' cap : Nat} {A : Option Addr} {rs : List Rw} {r : Rw} (hown : OwnS w lo hi A c rs) (hr : r.In w lo2 w.heap.size) (h12 : hi ≤ lo2) (hlo2 : lo ≤ lo2) (hhi : hi ≤ w.heap.size)
    (h1 : w'.ownsRow lo 61 1 (.slice (some ⟨g', 0, none⟩) (rs.length + 1) cap) (rs.length + 1) (rs.map Rw.sv ++ [r.sv])) (hg : w.grownBy w' (Value.slice A rs.length c).ownBlock) (hat : (Value.slice A rs.length c).ownBlock = some g' ∨ g' = w.heap.size) (hlt : g' < w'.heap.size) :
    OwnS w' lo w'.heap.size (some ⟨g', 0, none⟩) cap (rs ++ [r]) ∧ Kept lo hi w w' := by
  have hob : ∀ k, (Value.slice A rs.length c).ownBlock = some k → lo ≤ k ∧ k < hi ∧ ∀ q ∈ rs, q.Off k := fun k hk => by
    cases A with
    | none => simp [Value.ownBlock] at hk
    | some p =>
      have h2 := hown.top p rfl
      have h3 := fun q hq => hown.off q hq p rfl
      have h4 := (World.ownsRow.lt hown.row k hk).1
      simp [Value.ownBlock] at hk
      subst hk
      exact ⟨h4, h2, h3⟩
  have hk : Kept lo hi w w' := Wd.kept_grown hg fun k hk => ⟨(hob k hk).1, (hob k hk).2.1⟩
  have hrw : r.In w' lo w'.heap.size := (hr.grown hg fun k hk => hr.off (.inl (by have := (hob k hk).2.1; omega))).wide hlo2 hg.size
  refine ⟨⟨?_, (fun a ha => by cases ha; exact hlt), fun q hq => ?_, fun q hq a ha => ?_, ?_⟩, hk⟩
  · rw [List.length_append, List.map_append]
    exact h1
  · rcases List.mem_append.1 hq with hq | hq
    · exact ((hown.mine q hq).grown hg fun k hk => (hob k hk).2.2 q hq).wide (Nat.le_refl _) (Nat.le_trans hhi hg.size)
    · simp at hq; subst hq
      exact hrw
  · cases ha
    dsimp only
    rcases hat with hat | hat
    · rcases List.mem_append.1 hq with hq | hq
      · exact (hob _ hat).2.2 q hq
      · simp at hq; subst hq
        exact hr.off (.inl (by have := (hob _ hat).2.1; omega))
    · rcases List.mem_append.1 hq with hq | hq
      · exact (hown.mine q hq).off (.inr (by omega))
      · simp at hq; subst hq
        exact hr.off (.inr (by omega))
  · rw [List.pairwise_append]
    exact ⟨hown.apart, List.pairwise_singleton _ _, fun q hq q' hq' => by simp at hq'; subst hq'; exact Apart.of_in (hown.mine q hq) hr (.inl h12)⟩

/-- A row is appended at a step of a region that draws its order. -/
theorem step_push_row {w : World} {ops : Array Oper} {o : Oper} {a : Act} {K : Act → World → Prop} {Q : Exit → Act → World → Prop} {E : Prop} (hgd : o.guard = none) (s x : Operand) (ho : o.op = .call { callee := .builtin .append, args := #[s, x], argTypes := #[26, 26] })
    (lo hi lo2 c n g : Nat) (A : Option Addr) (rs : List Rw) (r : Rw) (hs : a.eval s = .slice A n c) (hn : rs.length = n) (hown : OwnS w lo hi A c rs) (hx : a.eval x = .slice (some ⟨g, 0, none⟩) 1 1) (hc : w.cell? ⟨g, 0, none⟩ = some r.sv) (hr : r.In w lo2 w.heap.size) (h12 : hi ≤ lo2) (hlo2 : lo ≤ lo2) (hlo : lo ≤ w.heap.size) (hhi : hi ≤ w.heap.size) (hlen : n ≤ 1048576)
    (h : ∀ A' c' w', OwnS w' lo w'.heap.size A' c' (rs ++ [r]) → Kept lo hi w w' → K (a.put o.dst (.slice A' (n + 1) c')) w') : if Region.wanted o (yielded ops a.tmps) = true then Oper.wp Tryd.prog o a w K Q else E := by
  obtain ⟨ti, hi0, hz0, hz1, hz2⟩ := info_parts infoS
  subst hn
  refine step_append_lies w hgd s x 26 ho lo 61 ti _ 1 24 Tryd.underlying26 hi0 hz0 hz1 hz2 rfl (by decide) (.slice A rs.length c) rs.length (rs.map Rw.sv) hs hown.row ⟨g, 0, none⟩ 1 1 [r.sv] hx rfl
    (by intro j u hj; cases j with | zero => (simp at hj; subst hj; simpa [Addr.add] using hc) | succ j => simp at hj) (by intro u hu; simp at hu; subst hu; rfl) (by omega) (by unfold maxLen; omega) (by omega) hlo _ rfl ?_
  intro g' cap w' h1 hg hat hlt
  obtain ⟨q1, q2⟩ := hown.pushed hr h12 hlo2 hhi h1 hg hat hlt
  exact h _ _ _ q1 q2


/-- A row is appended at a step of a region that draws its order; what lies apart stays apart. -/
theorem step_push_row3 {w : World} {ops : Array Oper} {o : Oper} {a : Act} {K : Act → World → Prop} {Q : Exit → Act → World → Prop} {E : Prop} (hgd : o.guard = none) (s x : Operand) (ho : o.op = .call { callee := .builtin .append, args := #[s, x], argTypes := #[26, 26] })
    (lo hi lo2 c n g : Nat) (A : Option Addr) (rs : List Rw) (r : Rw) (hs : a.eval s = .slice A n c) (hn : rs.length = n) (hown : OwnS w lo hi A c rs) (hx : a.eval x = .slice (some ⟨g, 0, none⟩) 1 1) (hc : w.cell? ⟨g, 0, none⟩ = some r.sv) (hr : r.In w lo2 w.heap.size) (h12 : hi ≤ lo2) (hlo2 : lo ≤ lo2) (hlo : lo ≤ w.heap.size) (hhi : hi ≤ w.heap.size) (hlen : n ≤ 1048576)
    (F : Nat → Prop) (hF : ∀ b0, F b0 → b0 < lo2 ∧ b0 < w.heap.size ∧ (∀ a, A = some a → a.block ≠ b0) ∧ ∀ q ∈ rs, q.Off b0)
    (h : ∀ A' c' w', OwnS w' lo w'.heap.size A' c' (rs ++ [r]) → Kept lo hi w w' → (∀ b0, F b0 → w'.heap[b0]? = w.heap[b0]? ∧ (∀ a, A' = some a → a.block ≠ b0) ∧ ∀ q ∈ rs ++ [r], q.Off b0) → K (a.put o.dst (.slice A' (n + 1) c')) w') : if Region.wanted o (yielded ops a.tmps) = true then Oper.wp Tryd.prog o a w K Q else E := by
  obtain ⟨ti, hi0, hz0, hz1, hz2⟩ := info_parts infoS
  subst hn
  refine step_append_lies w hgd s x 26 ho lo 61 ti _ 1 24 Tryd.underlying26 hi0 hz0 hz1 hz2 rfl (by decide) (.slice A rs.length c) rs.length (rs.map Rw.sv) hs hown.row ⟨g, 0, none⟩ 1 1 [r.sv] hx rfl
    (by intro j u hj; cases j with | zero => (simp at hj; subst hj; simpa [Addr.add] using hc) | succ j => simp at hj) (by intro u hu; simp at hu; subst hu; rfl) (by omega) (by unfold maxLen; omega) (by omega) hlo _ rfl ?_
  intro g' cap w' h1 hg hat hlt
  obtain ⟨q1, q2⟩ := hown.pushed hr h12 hlo2 hhi h1 hg hat hlt
  refine h _ _ _ q1 q2 (fun b0 h3 => ?_)
  obtain ⟨f1, f2, f3, f4⟩ := hF b0 h3
  have hnb : ∀ k, (Value.slice A rs.length c).ownBlock = some k → k ≠ b0 := fun k hk => by
    cases A with
    | none => simp [Value.ownBlock] at hk
    | some p =>
      have h6 := f3 p rfl
      simp [Value.ownBlock] at hk
      subst hk
      exact h6
  refine ⟨hg.block b0 f2 (fun e => hnb b0 e.symm rfl), fun a' ha' => ?_, fun q hq => ?_⟩
  · cases ha'
    dsimp only
    rcases hat with hat | hat
    · exact hnb _ hat
    · omega
  · rcases List.mem_append.1 hq with hq | hq
    · exact f4 q hq
    · simp at hq; subst hq
      exact hr.off (.inl f1)

/-- A tetrahedron with four boundary faces. -/
def fr : List Int := [-1, 0, -1, 0, -1, 0, -1, 0]
theorem sv_fr (g : Nat) : Rw.sv ⟨some ⟨g, 0, none⟩, 4, fr⟩ = .slice (some ⟨g, 0, none⟩) 4 4 := by simp [Rw.sv, fr]
/-- Blocks that a list and its rows keep off. -/
def Apt (F : Nat → Prop) (A : Option Addr) (rs : List Rw) : Prop := ∀ b0, F b0 → (∀ a, A = some a → a.block ≠ b0) ∧ ∀ q ∈ rs, q.Off b0
/-- The builder lies in block bb, its rows behind it. -/
structure Bld (w : World) (bb mb : Nat) (A : Option Addr) (c : Nat) (rs : List Rw) : Prop where
  cell : w.cell? ⟨bb, 0, none⟩ = some (.slice A rs.length c)
  map : w.cell? ⟨bb, 1, none⟩ = some (.map (some mb))
  free : w.frozen? ⟨bb, 0, none⟩ = false
  own : OwnS w (bb + 1) w.heap.size A c rs
theorem Bld.lt {w : World} {bb mb c : Nat} {A : Option Addr} {rs : List Rw} (h : Bld w bb mb A c rs) : bb < w.heap.size := World.block_lt_of_cell? w ⟨bb, 0, none⟩ h.cell
theorem Bld.below {w w' : World} {bb mb c : Nat} {A : Option Addr} {rs : List Rw} (h : Bld w bb mb A c rs) (hb : Below w.heap.size w w') : Bld w' bb mb A c rs :=
  ⟨(hb.cell (p := ⟨bb, 0, none⟩) h.lt).trans h.cell, (hb.cell (p := ⟨bb, 1, none⟩) h.lt).trans h.map, (hb.frozen (p := ⟨bb, 0, none⟩) h.lt).trans h.free, (h.own.below hb (Nat.le_refl _)).wide (Nat.le_refl _) hb.size⟩

theorem free_in (w : World) (o : Obj) : Rw.In ⟨some ⟨w.heap.size, 0, none⟩, 4, fr⟩ ((w.alloc (Obj.cells #[.int .i64 (-1), .int .i64 0, .int .i64 (-1), .int .i64 0, .int .i64 (-1), .int .i64 0, .int .i64 (-1), .int .i64 0] 72)).alloc o) w.heap.size (w.heap.size + 1) := by
  have h : BlkF ((w.alloc (Obj.cells #[.int .i64 (-1), .int .i64 0, .int .i64 (-1), .int .i64 0, .int .i64 (-1), .int .i64 0, .int .i64 (-1), .int .i64 0] 72)).alloc o) w.heap.size fr := by
    have := BlkF.new w fr
    simp only [fr, List.map_cons, List.map_nil] at this
    exact this.alloc _
  exact ⟨⟨by simp [fr], by simp [fr]⟩, by unfold maxLen; dsimp only; omega, h.mine (Nat.le_refl _) (Nat.lt_succ_self _) rfl⟩

end Fc
end Go.Proofs.YtajbahfbldmckaaDoor

namespace Go.Proofs.YtajbahfbldmckaaDoor
open Go.RowKit
namespace Fc

/-- What a call hands back: a triangulation in memory of its own. -/
def ResT (w : World) (zss : List (List Int)) (e : Ending) (w' : World) : Prop :=
  ∃ A c rs, e = .returned (.agg #[.slice A rs.length c]) ∧ OwnS w' w.heap.size w'.heap.size A c rs ∧ vals rs = zss ∧ Below w.heap.size w w'

theorem setCell_frozen (w : World) (p q : Addr) (u : Value) : (w.setCell p u).frozen? q = w.frozen? q := by simp [go_sem]
theorem faces_row {w : World} {lo g n cap : Nat} {zs : List Int} (h : w.ownsRow lo 72 2 (.slice (some ⟨g, 0, none⟩) n cap) n (zs.map (Value.int .i64))) : Rw.In ⟨some ⟨g, 0, none⟩, cap, zs⟩ w lo w.heap.size := by
  obtain ⟨h1, h2⟩ := h
  rw [List.length_map] at h1
  rcases h2 with ⟨e, _⟩ | ⟨g', cap', cur, e, hb, hg, hn, hm, hs, hc⟩
  · cases e
  · cases e
    have hlt : g < w.heap.size := by
      rcases Nat.lt_or_ge g w.heap.size with h' | h'
      · exact h'
      · rw [Array.getElem?_eq_none h'] at hg; cases hg
    refine ⟨⟨by dsimp only; omega, by dsimp only; omega⟩, hm, rfl, fun _ => ⟨g, 0, rfl, hb, hlt, fun j hj => ⟨?_, by simp [World.frozen?, hg]⟩⟩⟩
    dsimp only at hj
    rw [Nat.zero_add, cell_of_row w g j _ _ (0, 0) hg]
    have e1 : (cur.toList.take (n * 2))[j]? = some (.int .i64 (zs.getD j 0)) := by rw [hc]; simp [List.getElem?_eq_getElem hj]
    rw [List.getElem?_take_of_lt (by omega)] at e1
    simpa using e1

theorem ints_newsF {w : World} {B n : Nat} {ad : Addr} {zs : List Int} (h : Ints w B (some ad) n zs) : ∀ j u, (zs.map (Value.int .i64))[j]? = some u → w.cell? (ad.add j) = some u := by
  intro j u hu
  have hj : j < zs.length := by
    have := (List.getElem?_eq_some_iff.1 hu).1
    simpa using this
  have hl := h.1
  obtain ⟨b, off, e, _, h4⟩ := h.2 (by omega)
  cases e
  have h5 := h4 j (by omega)
  have e5 : (⟨b, off, none⟩ : Addr).add j = ⟨b, off + j, none⟩ := by unfold Addr.add; split <;> simp_all
  rw [e5, h5, ← hu, List.getElem?_map, List.getElem?_eq_getElem hj]
  simp [List.getElem?_eq_getElem hj]
theorem Own.of_row {w : World} {lo n : Nat} {v : Value} {zs : List Int} (h : w.ownsRow lo 2 1 v n (zs.map (Value.int .i64))) (hv : v ≠ .slice none 0 0) : ∃ g cap, v = .slice (some ⟨g, 0, none⟩) n cap ∧ n ≤ cap ∧ cap ≤ maxLen ∧ Own w lo w.heap.size (some ⟨g, 0, none⟩) n cap zs := by
  have h' := h
  rcases h.2 with ⟨e, _⟩ | ⟨g, cap, cur, rfl, hb, hg, hn, hm, _, _⟩
  · exact absurd e hv
  · have hlt : g < w.heap.size := by
      rcases Nat.lt_or_ge g w.heap.size with h1 | h1
      · exact h1
      · rw [Array.getElem?_eq_none h1] at hg; cases hg
    exact ⟨g, cap, rfl, hn, hm, h', fun a ha => by cases ha; exact hlt⟩

/-- The faces of a row are appended to an empty slice, at a step of a region that draws its order. -/
theorem step_copy_row {w : World} {ops : Array Oper} {o : Oper} {a : Act} {K : Act → World → Prop} {Q : Exit → Act → World → Prop} {E : Prop} (hgd : o.guard = none) (s x : Operand) (ho : o.op = .call { callee := .builtin .append, args := #[s, x], argTypes := #[61, 61] })
    (lo B g0 n c : Nat) (A : Option Addr) (zs : List Int) (hs : a.eval s = .slice (some ⟨g0, 0, none⟩) 0 0) (hg0 : w.heap[g0]? = some (.cells #[] 72 (0, 0))) (hlg : lo ≤ g0) (hx : a.eval x = .slice A n c) (hI : Ints w B A (n * 2) zs) (hn0 : 0 < n) (hn : n ≤ 1048576) (hlo : lo ≤ w.heap.size)
    (h : ∀ g cap w', Rw.In ⟨some ⟨g, 0, none⟩, cap, zs⟩ w' lo w'.heap.size → w.grownBy w' (some g0) → K (a.put o.dst (.slice (some ⟨g, 0, none⟩) n cap)) w') : if Region.wanted o (yielded ops a.tmps) = true then Oper.wp Tryd.prog o a w K Q else E := by
  obtain ⟨ti, hi0, hz0, hz1, hz2⟩ := info_parts infoF
  have hl := hI.1
  obtain ⟨b, off, rfl, _, h4⟩ := hI.2 (by omega)
  have hl2 : (zs.map (Value.int .i64)).length = n * 2 := by rw [List.length_map, hl]
  refine step_append_lies w hgd s x 61 ho lo 72 ti _ 2 16 Tryd.underlying61 hi0 hz0 hz1 hz2 rfl (by decide) (.slice (some ⟨g0, 0, none⟩) 0 0) 0 [] hs ⟨rfl, .inr ⟨g0, 0, #[], rfl, hlg, hg0, Nat.le_refl _, by unfold maxLen; omega, rfl, rfl⟩⟩ ⟨b, off, none⟩ n c (zs.map (Value.int .i64)) hx hl2
    (ints_newsF hI) (by simp [Value.oneCell']) hn0 (by unfold maxLen; omega) (by omega) hlo _ rfl ?_
  intro g cap w' h1 hg _ _
  rw [Nat.zero_add, List.nil_append] at h1
  rw [Nat.zero_add]
  exact h g cap w' (faces_row h1) hg

set_option maxRecDepth 100000 in
set_option maxHeartbeats 8000000 in
theorem own_spec (A : Option Addr) (n c : Nat) (T : List (List Int)) (w : World) (h : RdT w w.heap.size A n T) (hn : n ≤ 8) (h4 : Tr.Four T) :
    Calls Tryd.prog 45 #[.agg #[.slice A n c]] w (ResT w T) := by
  have LN := Lib.hid h.len
  have HT := Lib.hid h
  have H4 := Lib.hid h4
  clear h h4
  obtain ⟨U, hU⟩ : ∃ U, U = ((w.alloc (Obj.cells #[.slice A n c] 28)).alloc (Obj.cells #[.slice none 0 0] 28)).alloc (Obj.cells #[.slice none 0 0] 28) := ⟨_, rfl⟩
  have hB : Below w.heap.size w U := by rw [hU]; exact (al2 w _ _).trans ((al1 _ _).mono (by simp; omega))
  have z : U.heap.size = w.heap.size + 3 := by rw [hU]; simp
  have k0 : U.cell? ⟨w.heap.size, 0, none⟩ = some (.slice A n c) := by rw [hU]; simp [go_sem]
  have k1 : U.cell? ⟨w.heap.size + 1, 0, none⟩ = some (.slice none 0 0) := by rw [hU]; simp [go_sem]
  have k2 : U.cell? ⟨w.heap.size + 2, 0, none⟩ = some (.slice none 0 0) := by rw [hU]; simp [go_sem]
  have f1 : U.frozen? ⟨w.heap.size + 1, 0, none⟩ = false := by rw [hU]; simp [go_sem]
  have f2 : U.frozen? ⟨w.heap.size + 2, 0, none⟩ = false := by rw [hU]; simp [go_sem]
  have DU := Lib.hid hB
  clear hB
  go_enter Tryd.func45, Tryd.ntmps45
  go_wp2
  rw [← hU]
  clear hU
  go_loopw [4] (fun i W => ∃ (a : Nat) (A' : Option Addr) (c' : Nat) (rs : List Rw), a ≤ n ∧ i = .int .i64 a ∧ (W.cell? ⟨w.heap.size + 2, 0, none⟩ = some (.slice A' rs.length c') ∧ W.frozen? ⟨w.heap.size + 2, 0, none⟩ = false) ∧ OwnS W (w.heap.size + 3) W.heap.size A' c' rs ∧ vals rs = T.take a ∧ Below (w.heap.size + 2) U W) (fun i _ => n - (intOf i).toNat)
  case atStart => exact ⟨0, none, 0, [], Nat.zero_le _, rfl, ⟨k2, f2⟩, OwnS.nil _ _ _, rfl, Below.refl _ _⟩
  case round =>
    obtain ⟨a, A', c', rs, ha, rfl, ⟨hb2, hf2⟩, hO, hV, hbel⟩ := hrel
    have OW := Lib.hid hO
    have VL := Lib.hid hV
    have BW := Lib.hid hbel
    have kw := (hbel.cell (p := ⟨w.heap.size, 0, none⟩) (by dsimp only; omega)).trans k0
    have zW : U.heap.size ≤ wr.heap.size := hbel.size
    have i0 : (0 : Int) ≤ (a : Int) := by omega
    have rl : rs.length ≤ 8 := by
      have h1 := congrArg List.length hV
      rw [vals_len, List.length_take] at h1
      omega
    by_cases hlt : a < n
    case neg =>
      obtain rfl : a = n := by omega
      have i1 : ¬ (a : Int) < (a : Int) := by omega
      have kr := (hbel.cell (p := ⟨w.heap.size + 1, 0, none⟩) (by dsimp only; omega)).trans k1
      have fr1 := (hbel.frozen (p := ⟨w.heap.size + 1, 0, none⟩) (by dsimp only; omega)).trans f1
      clear hO hV hbel
      go_wp2
      refine bodyPost_ret (v := .agg #[.slice A' rs.length c']) (by simp [results, Tryd.results45, kr, go_sem]) rfl ?_
      exact ⟨A', c', rs, rfl, (OW.out.far (p := ⟨w.heap.size + 1, 0, none⟩) (.inl (by dsimp only; omega)) _).wide (by omega) (by simp [World.setCell]), by rw [VL.out, List.take_of_length_le (by rw [LN.out]; exact Nat.le_refl _)], (DU.out.trans (BW.out.mono (by omega))).setCell (by dsimp only; omega) _⟩
    have i1 : (a : Int) < (n : Int) := by omega
    clear hO hV hbel
    have RT := Lib.hid (HT.out.below (DU.out.trans (BW.out.mono (by omega))))
    have h8 := H4.out a (by rw [LN.out]; exact hlt)
    obtain ⟨b, off, Aj, cj, m, rfl, hb, hcr, h1, h2, h3, hi⟩ := RT.out.row a hlt
    obtain rfl : m = 4 := by omega
    obtain ⟨zs, hzs⟩ : ∃ zs, T.getD a [] = zs := ⟨_, rfl⟩
    rw [hzs] at hi h8
    have HI := Lib.hid hi
    have NX := Lib.hid (show T.take (a + 1) = T.take a ++ [zs] from by rw [← hzs, List.take_add_one, List.getD_eq_getElem?_getD, List.getElem?_eq_getElem (by rw [LN.out]; exact hlt)]; rfl)
    have SV := Lib.hid (fun (g7 cap7 : Nat) => show Rw.sv ⟨some ⟨g7, 0, none⟩, cap7, zs⟩ = .slice (some ⟨g7, 0, none⟩) 4 cap7 from by simp [Rw.sv, h8])
    clear hi hzs h3
    have l0 : w.heap.size < wr.heap.size := by omega
    have l1 : w.heap.size + 2 < wr.heap.size := by omega
    have l2 : w.heap.size + 1 + 1 < wr.heap.size := by omega
    have l3 : b < wr.heap.size := by omega
    go_wp2_with fail
    go_region_law (first
      | (refine step_copy_row (by rfl) _ _ (by rfl) wr.heap.size w.heap.size wr.heap.size 4 cj Aj zs (by rfl) (by exact heap_alloc_new wr _) (Nat.le_refl _) (by rfl) (by exact HI.out.below ((al1 wr _).drew.mono (by omega))) (by omega) (by omega) (by simp) ?_; intro g7 cap7 w7 h5 h6; have R7 := Lib.hid h5; have D7 := Lib.hid (((al1 wr (Obj.cells #[] 72)).drew).grown h6 (by simp) (fun k hk => by cases hk; exact Nat.le_refl _)); have s7 := D7.out.size; have e7 := (D7.out.cell (p := ⟨w.heap.size + 2, 0, none⟩) (by dsimp only; omega)).trans hb2; have m1 : w.heap.size + 2 < w7.heap.size := (by omega); have m2 : w.heap.size + 1 + 1 < w7.heap.size := (by omega); have f7 := (D7.out.frozen (p := ⟨w.heap.size + 2, 0, none⟩) (by dsimp only; omega)).trans hf2; clear h5 h6)
      | (refine step_push_row (by rfl) _ _ (by rfl) (w.heap.size + 3) wr.heap.size wr.heap.size c' rs.length w7.heap.size A' rs ⟨some ⟨g7, 0, none⟩, cap7, zs⟩ (by rfl) rfl (by exact OW.out.below (D7.out.trans ((al1 w7 _).mono s7)) (Nat.le_refl _)) (by rfl) (by rw [SV.out]; exact Wd.alloc_first _ _ _ _ rfl) (by exact (R7.out.below (al1 w7 _) (Nat.le_refl _)).wide (Nat.le_refl _) (by simp)) (Nat.le_refl _) (by omega) (by simp; omega) (by simp; omega) (by omega) ?_; intro A8 c8 w8 h5 h6; have O8 := Lib.hid h5; have K8 := Lib.hid h6; have s8 := h6.size; simp only [World.size_alloc] at s8; have e8 := (World.cell?_of_block (a := ⟨w.heap.size + 2, 0, none⟩) (h6.block (w.heap.size + 2) (by simp; omega) (by omega))).trans (((al1 w7 _).cell (p := ⟨w.heap.size + 2, 0, none⟩) (by dsimp only; omega)).trans e7); have f8 := (World.frozen?_of_block (a := ⟨w.heap.size + 2, 0, none⟩) (h6.block (w.heap.size + 2) (by simp; omega) (by omega))).trans (((al1 w7 _).frozen (p := ⟨w.heap.size + 2, 0, none⟩) (by dsimp only; omega)).trans f7); clear h5 h6))
    all_goals
      have B8 := Lib.hid (show Below (w.heap.size + 2) U w8 from (BW.out.trans (D7.out.mono (by omega))).trans (((al1 w7 _).mono (by omega)).trans (K8.out.below (by omega) (by simp; omega))))
      clear e7 f7 kw hb2 hf2 hcr
      go_wp2
      go_roundw
      case rel =>
        refine ⟨a + 1, A8, c8, rs ++ [⟨some ⟨g7, 0, none⟩, cap7, zs⟩], by omega, by go_num, ⟨by rw [List.length_append]; exact World.cell?_setCell_same' _ _ _ (by rw [e8]; rfl), (setCell_frozen _ _ _ _).trans f8⟩, (O8.out.far (p := ⟨w.heap.size + 2, 0, none⟩) (.inl (by dsimp only; omega)) _).wide (Nat.le_refl _) (by simp [World.setCell]), by rw [NX.out, ← VL.out, vals, List.map_append]; rfl, B8.out.setCell (Nat.le_refl _) _⟩
      case measure => simp [intOf]; omega

end Fc
end Go.Proofs.YtajbahfbldmckaaDoor

namespace Go.Proofs.YtajbahfbldmckaaDoor
open Go.RowKit
/-- What AddTetrahedron hands back. -/
def Tr.addT (T : List (List Int)) : List (List Int) := if Tr.Is T ∧ T.length ≠ 8 then T ++ [Fc.fr] else []
def Tr.addC (T : List (List Int)) : Int := if Tr.Is T then (if T.length = 8 then 3 else 0) else 1
namespace Fc

/-- A store into a block that neither the list nor its rows lie in. -/
theorem OwnS.far_off {w : World} {lo hi c : Nat} {A : Option Addr} {rs : List Rw} (h : OwnS w lo hi A c rs) {p : Addr} (ho : ∀ a, A = some a → a.block ≠ p.block) (hr : ∀ q ∈ rs, q.Off p.block) (u : Value) : OwnS (w.setCell p u) lo hi A c rs := by
  refine ⟨⟨h.row.1, ?_⟩, h.top, fun q hq => (h.mine q hq).set_ p (hr q hq) u, h.off, h.apart⟩
  rcases h.row.2 with h0 | ⟨g, cap, cur, hv, hb, hg, r⟩
  · exact .inl h0
  · refine .inr ⟨g, cap, cur, hv, hb, ?_, r⟩
    injection hv with h1 h2 h3
    rw [Below.heap_setCell w _ _ g ?_]
    · exact hg
    · intro e
      exact ho _ h1 (by first | exact e | exact e.symm)

/-- A row is appended at a step of a region that draws its order; what lies between stays apart. -/
theorem step_push_row2 {w : World} {ops : Array Oper} {o : Oper} {a : Act} {K : Act → World → Prop} {Q : Exit → Act → World → Prop} {E : Prop} (hgd : o.guard = none) (s x : Operand) (ho : o.op = .call { callee := .builtin .append, args := #[s, x], argTypes := #[26, 26] })
    (lo hi lo2 c n g : Nat) (A : Option Addr) (rs : List Rw) (r : Rw) (hs : a.eval s = .slice A n c) (hn : rs.length = n) (hown : OwnS w lo hi A c rs) (hx : a.eval x = .slice (some ⟨g, 0, none⟩) 1 1) (hc : w.cell? ⟨g, 0, none⟩ = some r.sv) (hr : r.In w lo2 w.heap.size) (h12 : hi ≤ lo2) (hlo2 : lo ≤ lo2) (hlo : lo ≤ w.heap.size) (hhi : hi ≤ w.heap.size) (hlen : n ≤ 1048576)
    (h : ∀ A' c' w', OwnS w' lo w'.heap.size A' c' (rs ++ [r]) → Kept lo hi w w' → (∀ b0, hi ≤ b0 → b0 < lo2 → b0 < w.heap.size → (∀ a, A' = some a → a.block ≠ b0) ∧ ∀ q ∈ rs ++ [r], q.Off b0) → K (a.put o.dst (.slice A' (n + 1) c')) w') : if Region.wanted o (yielded ops a.tmps) = true then Oper.wp Tryd.prog o a w K Q else E := by
  obtain ⟨ti, hi0, hz0, hz1, hz2⟩ := info_parts infoS
  subst hn
  refine step_append_lies w hgd s x 26 ho lo 61 ti _ 1 24 Tryd.underlying26 hi0 hz0 hz1 hz2 rfl (by decide) (.slice A rs.length c) rs.length (rs.map Rw.sv) hs hown.row ⟨g, 0, none⟩ 1 1 [r.sv] hx rfl
    (by intro j u hj; cases j with | zero => (simp at hj; subst hj; simpa [Addr.add] using hc) | succ j => simp at hj) (by intro u hu; simp at hu; subst hu; rfl) (by omega) (by unfold maxLen; omega) (by omega) hlo _ rfl ?_
  intro g' cap w' h1 hg hat hlt
  obtain ⟨q1, q2⟩ := hown.pushed hr h12 hlo2 hhi h1 hg hat hlt
  refine h _ _ _ q1 q2 (fun b0 h3 h4 h5 => ⟨fun a' ha' => ?_, fun q hq => ?_⟩)
  · cases ha'
    dsimp only
    rcases hat with hat | hat
    · cases A with
      | none => simp [Value.ownBlock] at hat
      | some p =>
        have h6 := hown.top p rfl
        simp [Value.ownBlock] at hat
        omega
    · omega
  · rcases List.mem_append.1 hq with hq | hq
    · exact (hown.mine q hq).off (.inr h3)
    · simp at hq; subst hq
      exact hr.off (.inl h4)

/-- What a call hands back: a triangulation in memory of its own, and a code. -/
def ResTC (w : World) (zss : List (List Int)) (k : Int) (e : Ending) (w' : World) : Prop :=
  ∃ A c rs, e = .returned (.tuple #[.agg #[.slice A rs.length c], .int .i64 k]) ∧ OwnS w' w.heap.size w'.heap.size A c rs ∧ vals rs = zss ∧ Below w.heap.size w w'

theorem free_spec (w : World) : Calls Tryd.prog 46 #[] w fun e w' => e = .returned (.slice (some ⟨w.heap.size, 0, none⟩) 4 4) ∧ BlkF w' w.heap.size fr ∧ Below w.heap.size w w' := by
  go_enter Tryd.func46, Tryd.ntmps46
  go_wp2
  go_ret
  exact ⟨rfl, BlkF.new w fr, al1 _ _⟩

set_option maxRecDepth 100000 in
set_option maxHeartbeats 8000000 in
theorem addTet_spec (A : Option Addr) (n c : Nat) (T : List (List Int)) (w : World) (h : RdT w w.heap.size A n T) (hn : n ≤ 1048576) :
    Calls Tryd.prog 14 #[.agg #[.slice A n c]] w (ResTC w (Tr.addT T) (Tr.addC T)) := by
  have LN := Lib.hid h.len
  have HT := Lib.hid h
  have TI := Lib.hid (fun (W : World) (hb : Below w.heap.size w W) => isTri_specT A n c T W (h.into hb) hn)
  clear h
  obtain ⟨U, hU⟩ : ∃ U, U = (w.alloc (Obj.cells #[.slice A n c] 28)).alloc (Obj.cells #[.slice none 0 0] 28) := ⟨_, rfl⟩
  have hB : Below w.heap.size w U := by rw [hU]; exact al2 w _ _
  have z : U.heap.size = w.heap.size + 2 := by rw [hU]; simp
  have k0 : U.cell? ⟨w.heap.size, 0, none⟩ = some (.slice A n c) := by rw [hU]; simp [go_sem]
  have k1 : U.cell? ⟨w.heap.size + 1, 0, none⟩ = some (.slice none 0 0) := by rw [hU]; simp [go_sem]
  have f1 : U.frozen? ⟨w.heap.size + 1, 0, none⟩ = false := by rw [hU]; simp [go_sem]
  have DU := Lib.hid hB
  clear hB
  go_enter Tryd.func14, Tryd.ntmps14
  go_upto_region 1 with fail
  rw [← hU]
  clear hU
  go_wp2_with fail
  refine (TI.out U DU.out).mono ?_
  rintro e w1 ⟨rfl, hb⟩
  have k0 := (hb.cell (p := ⟨w.heap.size, 0, none⟩) (by dsimp only; omega)).trans k0
  have k1 := (hb.cell (p := ⟨w.heap.size + 1, 0, none⟩) (by dsimp only; omega)).trans k1
  have f1 := (hb.frozen (p := ⟨w.heap.size + 1, 0, none⟩) (by dsimp only; omega)).trans f1
  have z1 : U.heap.size ≤ w1.heap.size := hb.size
  have D1 := Lib.hid (DU.out.trans (hb.mono (by omega)))
  clear hb TI DU
  by_cases hok : Tr.Is T
  case neg =>
    rw [decide_eq_false hok]
    have R := Lib.hid (show Tr.addT T = [] ∧ Tr.addC T = 1 from by unfold Tr.addT Tr.addC; rw [if_neg (fun e => hok e.1), if_neg hok]; exact ⟨rfl, rfl⟩)
    clear hok
    go_wp2
    refine bodyPost_ret (v := .tuple #[.agg #[.slice none 0 0], .int .i64 1]) (by simp [results, Tryd.results14, k1, go_sem]) rfl ?_
    rw [R.out.1, R.out.2]
    exact ⟨none, 0, [], rfl, OwnS.nil _ _ _, rfl, D1.out.setCell (by dsimp only; omega) _⟩
  rw [decide_eq_true hok]
  have h8 : n ≤ 8 := by rw [← LN.out]; exact hok.1
  have H4 := Lib.hid hok.2.1
  go_wp2_with fail
  refine (tets_spec A n c _).mono ?_
  rintro e w2 ⟨rfl, hb⟩
  have k0 := (hb.cell (p := ⟨w.heap.size, 0, none⟩) (by dsimp only; omega)).trans k0
  have k1 := (hb.cell (p := ⟨w.heap.size + 1, 0, none⟩) (by dsimp only; omega)).trans k1
  have f1 := (hb.frozen (p := ⟨w.heap.size + 1, 0, none⟩) (by dsimp only; omega)).trans f1
  have z2 : w1.heap.size ≤ w2.heap.size := hb.size
  have D2 := Lib.hid (D1.out.trans (hb.mono (by omega)))
  clear hb D1
  by_cases he : n = 8
  · have R := Lib.hid (show Tr.addT T = [] ∧ Tr.addC T = 3 from by unfold Tr.addT Tr.addC; rw [if_neg (fun e => e.2 (by rw [LN.out]; exact he)), if_pos hok, if_pos (by rw [LN.out]; exact he)]; exact ⟨rfl, rfl⟩)
    subst he
    clear hok
    go_wp2
    refine bodyPost_ret (v := .tuple #[.agg #[.slice none 0 0], .int .i64 3]) (by simp [results, Tryd.results14, k1, go_sem]) rfl ?_
    rw [R.out.1, R.out.2]
    exact ⟨none, 0, [], rfl, OwnS.nil _ _ _, rfl, D2.out.setCell (by dsimp only; omega) _⟩
  have R := Lib.hid (show Tr.addT T = T ++ [fr] ∧ Tr.addC T = 0 from by unfold Tr.addT Tr.addC; rw [if_pos ⟨hok, fun e => he (by rw [← LN.out]; exact e)⟩, if_pos hok, if_neg (fun e => he (by rw [← LN.out]; exact e))]; exact ⟨rfl, rfl⟩)
  have i1 : ¬ (n : Int) = 8 := by omega
  have b1 : ((n : Int) == 8) = false := by simpa using i1
  clear hok
  go_wp2_with fail
  refine (own_spec A n c T w2 (HT.out.into D2.out) h8 H4.out).mono ?_
  rintro e w3 ⟨A', c', rs, rfl, hO, hV, hb⟩
  have k1 := (hb.cell (p := ⟨w.heap.size + 1, 0, none⟩) (by dsimp only; omega)).trans k1
  have f1 := (hb.frozen (p := ⟨w.heap.size + 1, 0, none⟩) (by dsimp only; omega)).trans f1
  have z3 : w2.heap.size ≤ w3.heap.size := hb.size
  have D3 := Lib.hid (D2.out.trans (hb.mono (by omega)))
  have O3 := Lib.hid hO
  have V3 := Lib.hid hV
  have hl : rs.length ≤ 8 := by rw [← Fc.vals_len, hV, LN.out]; exact h8
  clear hb hO hV D2
  go_upto_region 6 with fail
  obtain ⟨V, hVW⟩ : ∃ V, V = w3.alloc (Obj.cells #[.slice A' rs.length c'] 28) := ⟨_, rfl⟩
  obtain ⟨zV1, zV2⟩ : V.heap.size ≤ w3.heap.size + 1 ∧ w3.heap.size + 1 ≤ V.heap.size := by rw [hVW]; simp
  have e0 : V.cell? ⟨w3.heap.size, 0, none⟩ = some (.slice A' rs.length c') := by rw [hVW]; simp [go_sem]
  have fv : V.frozen? ⟨w3.heap.size, 0, none⟩ = false := by rw [hVW]; simp [go_sem]
  have hBV : Below w3.heap.size w3 V := by rw [hVW]; exact al1 _ _
  have k1 := (hBV.cell (p := ⟨w.heap.size + 1, 0, none⟩) (by dsimp only; omega)).trans k1
  have f1 := (hBV.frozen (p := ⟨w.heap.size + 1, 0, none⟩) (by dsimp only; omega)).trans f1
  have OV := Lib.hid (O3.out.below hBV (Nat.le_refl _))
  have DV := Lib.hid (D3.out.trans (hBV.mono (by omega)))
  have ne : ¬ w.heap.size + 1 = w3.heap.size := by omega
  have lt : w3.heap.size < V.heap.size := by omega
  have lt1 : w.heap.size + 1 < V.heap.size := by omega
  rw [← hVW]
  clear hVW hBV
  go_region_law (first
    | (go_simp; go_at_call 46; (refine (free_spec _).mono ?_); rintro e w5 ⟨rfl, hF, hb5'⟩; have hb5 := undrew hb5'; have B5 := Lib.hid hb5; have F5 := Lib.hid hF; have z5 := hb5.size; have e5 := (hb5.cell (p := ⟨w3.heap.size, 0, none⟩) (by dsimp only; omega)).trans e0; have f5 := (hb5.frozen (p := ⟨w3.heap.size, 0, none⟩) (by dsimp only; omega)).trans fv; have l5 : w3.heap.size < w5.heap.size := (by omega); have y5 := hF.lt; clear hF hb5 hb5')
    | (refine step_push_row2 (by rfl) _ _ (by rfl) w2.heap.size w3.heap.size V.heap.size c' rs.length w5.heap.size A' rs ⟨some ⟨V.heap.size, 0, none⟩, 4, fr⟩ (by rfl) rfl (by exact OV.out.below (B5.out.trans ((al1 w5 _).mono z5)) (by omega)) (by rfl) (by rw [sv_fr]; exact Wd.alloc_first _ _ _ _ rfl) (by exact ⟨⟨by simp [fr], by simp [fr]⟩, by unfold maxLen; dsimp only; omega, (F5.out.alloc _).mine (Nat.le_refl _) (by simp; exact Nat.lt_succ_of_lt y5) rfl⟩) (by omega) (by omega) (by simp; omega) (by simp; omega) (by omega) ?_; intro A8 c8 w8 h5 h6 h7; have X8 := Lib.hid (h7 w3.heap.size (Nat.le_refl _) (by omega) (by simp; omega)); have O8 := Lib.hid h5; have K8 := Lib.hid h6; have s8 := h6.size; simp only [World.size_alloc] at s8; have e8 := (World.cell?_of_block (a := ⟨w3.heap.size, 0, none⟩) (h6.block w3.heap.size (by simp; omega) (by omega))).trans (((al1 w5 _).cell (p := ⟨w3.heap.size, 0, none⟩) (by dsimp only; omega)).trans e5); have f8 := (World.frozen?_of_block (a := ⟨w3.heap.size, 0, none⟩) (h6.block w3.heap.size (by simp; omega) (by omega))).trans (((al1 w5 _).frozen (p := ⟨w3.heap.size, 0, none⟩) (by dsimp only; omega)).trans f5); clear h5 h6 h7))
  all_goals
    have D8 := Lib.hid (show Below w.heap.size w w8 from ((DV.out.trans (B5.out.mono (by omega))).trans ((al1 w5 _).mono (by omega))).trans (K8.out.below (by omega) (by simp; omega)))
    have k8 := (World.cell?_of_block (a := ⟨w.heap.size + 1, 0, none⟩) (K8.out.block (w.heap.size + 1) (by simp; omega) (by omega))).trans (((al1 w5 _).cell (p := ⟨w.heap.size + 1, 0, none⟩) (by dsimp only; omega)).trans ((B5.out.cell (p := ⟨w.heap.size + 1, 0, none⟩) (by dsimp only; omega)).trans k1))
    have f9 := (World.frozen?_of_block (a := ⟨w.heap.size + 1, 0, none⟩) (K8.out.block (w.heap.size + 1) (by simp; omega) (by omega))).trans (((al1 w5 _).frozen (p := ⟨w.heap.size + 1, 0, none⟩) (by dsimp only; omega)).trans ((B5.out.frozen (p := ⟨w.heap.size + 1, 0, none⟩) (by dsimp only; omega)).trans f1))
    clear k0 k1 f1 e0 fv e5 f5 lt lt1
    go_wp2
    refine bodyPost_ret (v := .tuple #[.agg #[.slice A8 (rs.length + 1) c8], .int .i64 0]) (by simp [results, Tryd.results14, k8, go_sem]) rfl ?_
    rw [R.out.1, R.out.2]
    refine ⟨A8, c8, rs ++ [⟨some ⟨V.heap.size, 0, none⟩, 4, fr⟩], by simp, ((O8.out.far_off (p := ⟨w3.heap.size, 0, none⟩) X8.out.1 X8.out.2 _).far (p := ⟨w.heap.size + 1, 0, none⟩) (.inl (by dsimp only; omega)) _).wide (by omega) (by simp [World.setCell]), by rw [vals, List.map_append, ← V3.out]; rfl, (D8.out.setCell (by dsimp only; omega) _).setCell (by dsimp only; omega) _⟩

end Fc
end Go.Proofs.YtajbahfbldmckaaDoor

namespace Go.Proofs.YtajbahfbldmckaaDoor
open Go

section
variable {P : Program} {ops : Array Oper} {Q : Exit → Act → World → Prop} {md : Region.Mode} {S : World → Prop} {N : List Nat}

/-- Whether some load of N might come behind number j. -/
def asksS (md : Region.Mode) (ops : Array Oper) (N : List Nat) (j : Nat) : Bool := N.any fun k => !Region.waitsFor md ops j k
/-- Whatever order is drawn; behind each operation that a load may follow the world meets S. -/
def wpN (P : Program) (md : Region.Mode) (ops : Array Oper) (Q : Exit → Act → World → Prop) (S : World → Prop) (N : List Nat) : Nat → Array Bool → Act → World → Prop
  | 0, l, a, w => Region.ready md ops l = [] ∧ Q .normal a w
  | f + 1, l, a, w => (Region.ready md ops l = [] → Q .normal a w) ∧ ∀ j ∈ Region.ready md ops l, wpOp P ops Q j (fun a' w' => (asksS md ops N j = true → S w') ∧ wpN P md ops Q S N f (l.setIfInBounds j true) a' w') a w

theorem wpAny_of_N : ∀ (f : Nat) (l : Array Bool) (a : Act) (w : World), wpN P md ops Q S N f l a w → wpAny P md ops Q f l a w := by
  intro f
  induction f with
  | zero => exact fun _ _ _ h => h
  | succ f ih => exact fun l a w h => ⟨h.1, fun j hj => wpOp_mono (fun a' w' hk => ih _ a' w' hk.2) (h.2 j hj)⟩

theorem asks_of_ready {i j : Nat} {l : Array Bool} (hN : i ∈ N) (hi : i ∈ Region.ready md ops l) (hj : j ∈ Region.ready md ops l) : asksS md ops N j = true := by
  refine List.any_eq_true.2 ⟨i, hN, ?_⟩
  cases hw : Region.waitsFor md ops j i with
  | false => rfl
  | true =>
    obtain ⟨oj, hoj, e, he, hb, hon⟩ := Region.waitsFor_spec hw
    obtain ⟨_, oj', hoj', hall⟩ := mem_ready.1 hj
    obtain rfl : oj = oj' := Option.some.inj (hoj.symm.trans hoj')
    have h1 := hall e he hb
    rw [hon, getD_both (mem_ready.1 hi).1] at h1
    cases h1

/-- A load of N is taken first. -/
theorem wpN_first {i : Nat} {oi : Oper} {v : Value} (hi : ops[i]? = some oi) (hN : i ∈ N) (hsel : ∀ (j : Nat) (o : Oper) cs b, ops[j]? = some o → o.op ≠ .select cs b)
    (hQ : ∀ c a w, Q (.panic c) (a.put oi.dst v) w → Q (.panic c) a w) (f : Nat) :
    ∀ (l : Array Bool) (a : Act) (w : World), (∀ j oj, ops[j]? = some oj → j ≠ i → l.getD j true = false → (∀ e ∈ oj.after, Region.binds md e = true → e.on ≠ i) → oi.apart ops oj = true) →
      i ∈ Region.ready md ops l → YieldsIf P ops S oi v a → S w → wpN P md ops Q S N f (l.setIfInBounds i true) (a.put oi.dst v) w → wpN P md ops Q S N (f + 1) l a w := by
  induction f with
  | zero =>
    intro l a w _ hr hy hS H
    refine ⟨fun h => absurd hr (by rw [h]; exact List.not_mem_nil), fun j hj => ?_⟩
    by_cases e : j = i
    · rw [e]
      exact hy.wpOp hi hS ⟨fun _ => hS, H⟩
    · have h2 := ready_mono hj e
      rw [H.1] at h2
      exact absurd h2 List.not_mem_nil
  | succ f ih =>
    intro l a w hf hr hy hS H
    refine ⟨fun h => absurd hr (by rw [h]; exact List.not_mem_nil), fun j hj => ?_⟩
    by_cases e : j = i
    · rw [e]
      exact hy.wpOp hi hS ⟨fun _ => hS, H⟩
    have hask := asks_of_ready hN hr hj
    obtain ⟨hlj, oj, hoj, hall⟩ := mem_ready.1 hj
    have hfree : ∀ x ∈ oj.after, Region.binds md x = true → x.on ≠ i := fun x hx hb hon => by
      have h1 := hall x hx hb
      rw [hon, getD_both (mem_ready.1 hr).1] at h1
      cases h1
    refine wpOp_mono (fun a' w' hk => ?_) (wpOp_putIf hoj (hf j oj hoj e hlj hfree) (fun cs b => hsel i oi cs b hi) (fun cs b => hsel j oj cs b hoj) hQ hy (H.2 j (ready_mono hj e)))
    refine ⟨fun _ => hk.2.1 hask, ih _ a' w' (fun k ok hk1 hk2 hk3 hk4 => hf k ok hk1 hk2 ?_ hk4) (ready_mono hr (Ne.symm e)) hk.1 (hk.2.1 hask) ?_⟩
    · by_cases e2 : j = k
      · rw [← e2]; exact hlj
      · rw [getD_set_ne true e2] at hk3; exact hk3
    · rw [Array.setIfInBounds_comm _ _ e]
      exact hk.2.2
theorem wpN_take {i : Nat} {oi : Oper} {v : Value} {f : Nat} {l : Array Bool} {a : Act} {w : World} (hi : ops[i]? = some oi) (hN : N.contains i = true) (hs : Region.noSelect ops = true) (hf : Region.free md ops l i = true) (hr : (Region.ready md ops l).contains i = true)
    (hQ : ∀ c a w, Q (.panic c) (a.put oi.dst v) w → Q (.panic c) a w) (hy : YieldsIf P ops S oi v a) (hS : S w) (h : wpN P md ops Q S N f (l.setIfInBounds i true) (a.put oi.dst v) w) : wpN P md ops Q S N (f + 1) l a w :=
  wpN_first hi (by simpa using hN) (Region.noSelect_spec hs) hQ f l a w (Region.free_spec hi hf) (by simpa using hr) hy hS h
/-- One operation alone may come up. -/
theorem wpN_one {j : Nat} {o : Oper} {f : Nat} {l : Array Bool} {a : Act} {w : World} (hr : Region.ready md ops l = [j]) (ho : ops[j]? = some o)
    (h : ∀ K : Act → World → Prop, (∀ a' w', (asksS md ops N j = true → S w') → wpN P md ops Q S N f (l.setIfInBounds j true) a' w' → K a' w') → if Region.wanted o (yielded ops a.tmps) = true then Oper.wp P o a w K Q else K (a.put o.dst undef) w) : wpN P md ops Q S N (f + 1) l a w := by
  refine ⟨(fun h0 => by rw [hr] at h0; cases h0), fun k hk => ?_⟩
  rw [hr] at hk
  obtain rfl : k = j := by simpa using hk
  have h1 := h (fun a' w' => (asksS md ops N k = true → S w') ∧ wpN P md ops Q S N f (l.setIfInBounds k true) a' w') (fun a' w' h2 h3 => ⟨h2, h3⟩)
  unfold wpOp
  simp only [ho]
  split
  · rename_i hw; rw [if_pos hw] at h1; exact .inl h1
  · rename_i hw; rw [if_neg hw] at h1; exact h1
/-- All have come up. -/
theorem wpN_done {f : Nat} {l : Array Bool} {a : Act} {w : World} (hr : Region.ready md ops l = []) (h : Q .normal a w) : wpN P md ops Q S N f l a w := by
  cases f with
  | zero => exact ⟨hr, h⟩
  | succ f => exact ⟨fun _ => h, (fun k hk => by rw [hr] at hk; cases hk)⟩
/-- The beginning, in a program under 'wide'. -/
theorem wp_region_N (S : World → Prop) (N : List Nat) {id : Nat} {a : Act} {w : World} (hm : P.follows .mixedOrders = true) (h : wpN P .any ops Q S N ops.size (Array.replicate ops.size false) a w.drew) : (Code.region id ops true).wp P Q a w :=
  wp_region_any hm (wpAny_of_N _ _ _ _ h)
end

end Go.Proofs.YtajbahfbldmckaaDoor

namespace Go.Proofs.YtajbahfbldmckaaDoor
open Go.RowKit
namespace Fc

set_option maxRecDepth 100000 in
set_option maxHeartbeats 8000000 in
theorem addTets_impl (bb mb k : Nat) (A : Option Addr) (c : Nat) (rs : List Rw) (w : World) (h : Bld w bb mb A c rs) (hv : Vs w) (hb1 : 3 < bb) (hn : rs.length + k ≤ 1048576) (F : Nat → Prop) (hF : ∀ b0, F b0 → b0 < w.heap.size ∧ b0 ≠ bb) (hFA : Apt F A rs) :
    Calls Tryd.prog 50 #[.pointer (some ⟨bb, 0, none⟩), .int .i64 k] w fun e w' => e = .returned (.tuple #[]) ∧ (∃ A' c' rs', Bld w' bb mb A' c' rs' ∧ vals rs' = vals rs ++ List.replicate k fr ∧ Apt F A' rs' ∧ ∀ b0, F b0 → w'.heap[b0]? = w.heap[b0]?) ∧ Below bb w w' := by
  have hlt := h.lt
  have START := Lib.hid h
  have HV := Lib.hid hv
  have FF := Lib.hid hF
  have FA := Lib.hid hFA
  clear h hv hF hFA
  go_enter Tryd.func50, Tryd.ntmps50
  go_wp2
  go_loopw [5] (fun i W => ∃ (j : Nat) (A' : Option Addr) (c' : Nat) (rs' : List Rw), j ≤ k ∧ i = .int .i64 j ∧ Bld W bb mb A' c' rs' ∧ vals rs' = vals rs ++ List.replicate j fr ∧ (Apt F A' rs' ∧ ∀ b0, F b0 → W.heap[b0]? = w.heap[b0]?) ∧ Below bb w W) (fun i _ => k - (intOf i).toNat)
  case atStart => exact ⟨0, A, c, rs, Nat.zero_le _, rfl, START.out, by simp, ⟨FA.out, fun _ _ => rfl⟩, Below.refl _ _⟩
  case round =>
    obtain ⟨j, A', c', rs', hj, rfl, hB, hV, ⟨hap, hsm⟩, hbel⟩ := hrel
    have AP := Lib.hid hap
    have SM := Lib.hid hsm
    have BD := Lib.hid hB
    have VL := Lib.hid hV
    have BW := Lib.hid hbel
    have j0 : (0 : Int) ≤ (j : Int) := by omega
    have hls : rs'.length ≤ 1048576 := by
      have := congrArg List.length hV
      rw [vals_len] at this
      simp [vals_len] at this
      omega
    clear hB hV hbel hap hsm
    by_cases hlj : j < k
    case neg =>
      obtain rfl : j = k := by omega
      have i1 : ¬ (j : Int) < (j : Int) := by omega
      go_wp2
      refine bodyPost_end (results_none rfl _ _ _) rfl ?_
      exact ⟨rfl, ⟨A', c', rs', BD.out, VL.out, AP.out, SM.out⟩, BW.out⟩
    have i1 : (j : Int) < (k : Int) := by omega
    have g0 := BD.out.cell
    have g1 := BD.out.free
    have gm := BD.out.map
    have zl := BD.out.lt
    obtain ⟨v0, v1⟩ := (HV.out.below BW.out hb1).2
    have vz := HV.out.pos.2
    have zb := BW.out.size
    have NX := Lib.hid (show vals rs ++ List.replicate (j + 1) fr = (vals rs ++ List.replicate j fr) ++ [fr] from by rw [List.replicate_succ', List.append_assoc])
    go_wp2_with fail
    refine wp_region_N (fun W => W.cell? ⟨bb, 0, none⟩ = some (.slice A' rs'.length c') ∧ W.cell? ⟨0, 0, none⟩ = some (.int .i64 (-1)) ∧ W.cell? ⟨0, 1, none⟩ = some (.int .i64 0)) [0, 1, 2, 3, 4, 5, 6, 7, 8] (by kernel_rfl) ?_
    have hS : (fun W : World => W.cell? ⟨bb, 0, none⟩ = some (.slice A' rs'.length c') ∧ W.cell? ⟨0, 0, none⟩ = some (.int .i64 (-1)) ∧ W.cell? ⟨0, 1, none⟩ = some (.int .i64 0)) wr.drew := ⟨g0, v0, v1⟩
    refine wpN_take (i := 0) (oi := { dst := some 7, op := .move (.tmp 0), type := _, pos := _, after := _, guard := _ }) (v := ?_) rfl (by kernel_rfl) (by kernel_rfl) (by kernel_rfl) (by kernel_rfl) (fun _ _ _ h => h) (Or.inl ⟨by rfl, ?_⟩) hS ?_
    rotate_left
    · intro W hW
      obtain ⟨q0, q1, q2⟩ := hW
      go_simp
      try with_reducible rfl
    simp only [Act.put, List.setIfInBounds_toArray, List.set_cons_zero, List.set_cons_succ]
    refine wpN_take (i := 1) (oi := { dst := some 8, op := .move (.tmp 0), type := _, pos := _, after := _, guard := _ }) (v := ?_) rfl (by kernel_rfl) (by kernel_rfl) (by kernel_rfl) (by kernel_rfl) (fun _ _ _ h => h) (Or.inl ⟨by rfl, ?_⟩) hS ?_
    rotate_left
    · intro W hW
      obtain ⟨q0, q1, q2⟩ := hW
      go_simp
      try with_reducible rfl
    simp only [Act.put, List.setIfInBounds_toArray, List.set_cons_zero, List.set_cons_succ]
    refine wpN_take (i := 2) (oi := { dst := some 9, op := .nilCheck (.tmp 8), type := _, pos := _, after := _, guard := _ }) (v := ?_) rfl (by kernel_rfl) (by kernel_rfl) (by kernel_rfl) (by kernel_rfl) (fun _ _ _ h => h) (Or.inl ⟨by rfl, ?_⟩) hS ?_
    rotate_left
    · intro W hW
      obtain ⟨q0, q1, q2⟩ := hW
      go_simp
      try with_reducible rfl
    simp only [Act.put, List.setIfInBounds_toArray, List.set_cons_zero, List.set_cons_succ]
    refine wpN_take (i := 3) (oi := { dst := some 10, op := .fieldAddr _ (.tmp 9) 0, type := _, pos := _, after := _, guard := _ }) (v := ?_) rfl (by kernel_rfl) (by kernel_rfl) (by kernel_rfl) (by kernel_rfl) (fun _ _ _ h => h) (Or.inl ⟨by rfl, ?_⟩) hS ?_
    rotate_left
    · intro W hW
      obtain ⟨q0, q1, q2⟩ := hW
      go_simp
      try with_reducible rfl
    simp only [Act.put, List.setIfInBounds_toArray, List.set_cons_zero, List.set_cons_succ]
    refine wpN_take (i := 4) (oi := { dst := some 11, op := .load _ (.tmp 10), type := _, pos := _, after := _, guard := _ }) (v := ?_) rfl (by kernel_rfl) (by kernel_rfl) (by kernel_rfl) (by kernel_rfl) (fun _ _ _ h => h) (Or.inl ⟨by rfl, ?_⟩) hS ?_
    rotate_left
    · intro W hW
      obtain ⟨q0, q1, q2⟩ := hW
      go_simp
      try with_reducible rfl
    simp only [Act.put, List.setIfInBounds_toArray, List.set_cons_zero, List.set_cons_succ]
    refine wpN_take (i := 5) (oi := { dst := some 12, op := .load _ (.global 0), type := _, pos := _, after := _, guard := _ }) (v := ?_) rfl (by kernel_rfl) (by kernel_rfl) (by kernel_rfl) (by kernel_rfl) (fun _ _ _ h => h) (Or.inl ⟨by rfl, ?_⟩) hS ?_
    rotate_left
    · intro W hW
      obtain ⟨q0, q1, q2⟩ := hW
      go_simp
      try with_reducible rfl
    simp only [Act.put, List.setIfInBounds_toArray, List.set_cons_zero, List.set_cons_succ]
    refine wpN_take (i := 6) (oi := { dst := some 13, op := .load _ (.global 0), type := _, pos := _, after := _, guard := _ }) (v := ?_) rfl (by kernel_rfl) (by kernel_rfl) (by kernel_rfl) (by kernel_rfl) (fun _ _ _ h => h) (Or.inl ⟨by rfl, ?_⟩) hS ?_
    rotate_left
    · intro W hW
      obtain ⟨q0, q1, q2⟩ := hW
      go_simp
      try with_reducible rfl
    simp only [Act.put, List.setIfInBounds_toArray, List.set_cons_zero, List.set_cons_succ]
    refine wpN_take (i := 7) (oi := { dst := some 14, op := .load _ (.global 0), type := _, pos := _, after := _, guard := _ }) (v := ?_) rfl (by kernel_rfl) (by kernel_rfl) (by kernel_rfl) (by kernel_rfl) (fun _ _ _ h => h) (Or.inl ⟨by rfl, ?_⟩) hS ?_
    rotate_left
    · intro W hW
      obtain ⟨q0, q1, q2⟩ := hW
      go_simp
      try with_reducible rfl
    simp only [Act.put, List.setIfInBounds_toArray, List.set_cons_zero, List.set_cons_succ]
    refine wpN_take (i := 8) (oi := { dst := some 15, op := .load _ (.global 0), type := _, pos := _, after := _, guard := _ }) (v := ?_) rfl (by kernel_rfl) (by kernel_rfl) (by kernel_rfl) (by kernel_rfl) (fun _ _ _ h => h) (Or.inl ⟨by rfl, ?_⟩) hS ?_
    rotate_left
    · intro W hW
      obtain ⟨q0, q1, q2⟩ := hW
      go_simp
      try with_reducible rfl
    simp only [Act.put, List.setIfInBounds_toArray, List.set_cons_zero, List.set_cons_succ]
    refine wpN_one (j := 9) (o := { dst := some 16, op := _, type := _, pos := _, after := _, guard := _ }) (by kernel_rfl) rfl ?_
    intro K hK
    go_simp
    refine hK _ _ (fun _ => ⟨((al1 wr _).drew.cell (p := ⟨bb, 0, none⟩) (by dsimp only; omega)).trans g0, ((al1 wr _).drew.cell (p := ⟨0, 0, none⟩) (by dsimp only; omega)).trans v0, ((al1 wr _).drew.cell (p := ⟨0, 1, none⟩) (by dsimp only; omega)).trans v1⟩) ?_
    clear hK K
    try simp only [Act.put, List.setIfInBounds_toArray, List.set_cons_zero, List.set_cons_succ]
    refine wpN_one (j := 10) (o := { dst := some 17, op := _, type := _, pos := _, after := _, guard := _ }) (by kernel_rfl) rfl ?_
    intro K hK
    go_simp
    refine hK _ _ (fun _ => ⟨((al2 wr _ _).drew.cell (p := ⟨bb, 0, none⟩) (by dsimp only; omega)).trans g0, ((al2 wr _ _).drew.cell (p := ⟨0, 0, none⟩) (by dsimp only; omega)).trans v0, ((al2 wr _ _).drew.cell (p := ⟨0, 1, none⟩) (by dsimp only; omega)).trans v1⟩) ?_
    clear hK K
    try simp only [Act.put, List.setIfInBounds_toArray, List.set_cons_zero, List.set_cons_succ]
    refine wpN_one (j := 11) (o := { dst := some 18, op := _, type := _, pos := _, after := _, guard := _ }) (by kernel_rfl) rfl ?_
    intro K hK
    refine step_push_row3 (by rfl) _ _ (by rfl) (bb + 1) wr.heap.size wr.heap.size c' rs'.length (wr.heap.size + 1) A' rs' ⟨some ⟨wr.heap.size, 0, none⟩, 4, fr⟩ (by rfl) rfl (by exact BD.out.own.below ((al2 wr _ _).drew) (Nat.le_refl _)) (by rfl) (by rw [sv_fr]; exact (show ((wr.alloc (Obj.cells #[.int .i64 (-1), .int .i64 0, .int .i64 (-1), .int .i64 0, .int .i64 (-1), .int .i64 0, .int .i64 (-1), .int .i64 0] 72)).alloc (Obj.cells #[.slice (some ⟨wr.heap.size, 0, none⟩) 4 4] 61)).cell? _ = _ from Wd.alloc_first (wr.alloc _) (wr.heap.size + 1) _ _ (by simp))) (by exact Rw.In.wide (Rw.In.keep (w' := ((wr.alloc (Obj.cells #[.int .i64 (-1), .int .i64 0, .int .i64 (-1), .int .i64 0, .int .i64 (-1), .int .i64 0, .int .i64 (-1), .int .i64 0] 72)).alloc (Obj.cells #[.slice (some ⟨wr.heap.size, 0, none⟩) 4 4] 61)).drew) (free_in wr (Obj.cells #[.slice (some ⟨wr.heap.size, 0, none⟩) 4 4] 61)) (fun _ _ _ => rfl)) (Nat.le_refl _) (show wr.heap.size + 1 ≤ ((wr.alloc (Obj.cells #[.int .i64 (-1), .int .i64 0, .int .i64 (-1), .int .i64 0, .int .i64 (-1), .int .i64 0, .int .i64 (-1), .int .i64 0] 72)).alloc (Obj.cells #[.slice (some ⟨wr.heap.size, 0, none⟩) 4 4] 61)).heap.size from by simp)) (Nat.le_refl _) (by omega) (by simp; omega) (by simp; omega) (by omega) F (fun b0 hb0 => ⟨by have := (FF.out b0 hb0).1; omega, by have := (FF.out b0 hb0).1; simp; omega, (AP.out b0 hb0).1, (AP.out b0 hb0).2⟩) ?_
    intro A8 c8 w8 h5 h6 h7
    have X8 := Lib.hid (show ∀ b0, F b0 → w8.heap[b0]? = w.heap[b0]? from fun b0 hb0 => (h7 b0 hb0).1.trans (((al2 wr _ _).drew.block b0 (by have := (FF.out b0 hb0).1; omega)).trans (SM.out b0 hb0)))
    have P8 := Lib.hid (show Apt F A8 (rs' ++ [⟨some ⟨wr.heap.size, 0, none⟩, 4, fr⟩]) from fun b0 hb0 => (h7 b0 hb0).2)
    have O8 := Lib.hid h5
    have s8 := h6.size
    have e8 := (World.cell?_of_block (a := ⟨bb, 0, none⟩) (h6.block bb (by first | (simp; done) | (simp; omega)) (by omega))).trans (((al2 wr _ _).drew.cell (p := ⟨bb, 0, none⟩) (by dsimp only; omega)).trans g0)
    have m8 := (World.cell?_of_block (a := ⟨bb, 1, none⟩) (h6.block bb (by first | (simp; done) | (simp; omega)) (by omega))).trans (((al2 wr _ _).drew.cell (p := ⟨bb, 1, none⟩) (by dsimp only; omega)).trans gm)
    have q0 := (World.cell?_of_block (a := ⟨0, 0, none⟩) (h6.block 0 (by first | (simp; done) | (simp; omega)) (by omega))).trans (((al2 wr _ _).drew.cell (p := ⟨0, 0, none⟩) (by dsimp only; omega)).trans v0)
    have q1 := (World.cell?_of_block (a := ⟨0, 1, none⟩) (h6.block 0 (by first | (simp; done) | (simp; omega)) (by omega))).trans (((al2 wr _ _).drew.cell (p := ⟨0, 1, none⟩) (by dsimp only; omega)).trans v1)
    have f8 := (World.frozen?_of_block (a := ⟨bb, 0, none⟩) (h6.block bb (by simp; omega) (by omega))).trans (((al2 wr _ _).drew.frozen (p := ⟨bb, 0, none⟩) (by dsimp only; omega)).trans g1)
    have B8 := Lib.hid (BW.out.trans (((al2 wr _ _).drew.mono (by omega)).trans (h6.below (by omega) (by simp; omega))))
    refine hK _ _ (fun _ => ⟨e8, q0, q1⟩) ?_
    clear hK K h5 h6 h7
    try simp only [Act.put, List.setIfInBounds_toArray, List.set_cons_zero, List.set_cons_succ]
    refine wpN_one (j := 12) (o := { dst := some 19, op := _, type := _, pos := _, after := _, guard := _ }) (by kernel_rfl) rfl ?_
    intro K hK
    go_simp
    refine hK _ _ (fun h => absurd h (Bool.eq_false_iff.1 (by kernel_rfl))) ?_
    clear hK K
    try simp only [Act.put, List.setIfInBounds_toArray, List.set_cons_zero, List.set_cons_succ]
    refine wpN_one (j := 13) (o := { dst := some 20, op := _, type := _, pos := _, after := _, guard := _ }) (by kernel_rfl) rfl ?_
    intro K hK
    go_simp
    refine hK _ _ (fun h => absurd h (Bool.eq_false_iff.1 (by kernel_rfl))) ?_
    clear hK K
    try simp only [Act.put, List.setIfInBounds_toArray, List.set_cons_zero, List.set_cons_succ]
    refine wpN_one (j := 14) (o := { dst := none, op := _, type := _, pos := _, after := _, guard := _ }) (by kernel_rfl) rfl ?_
    intro K hK
    go_simp
    refine hK _ _ (fun h => absurd h (Bool.eq_false_iff.1 (by kernel_rfl))) ?_
    clear hK K
    refine wpN_done (by kernel_rfl) ?_
    go_wp2
    go_roundw
    case rel => exact ⟨j + 1, A8, c8, rs' ++ [⟨some ⟨wr.heap.size, 0, none⟩, 4, fr⟩], by omega, by go_num, ⟨by rw [List.length_append]; exact World.cell?_setCell_same' _ _ _ (by rw [e8]; rfl), by simpa [go_sem] using m8, by simpa [go_sem] using f8, (O8.out.far (p := ⟨bb, 0, none⟩) (.inl (Nat.lt_succ_self _)) _).wide (Nat.le_refl _) (by simp [World.setCell])⟩, by rw [NX.out, ← VL.out, vals, List.map_append]; rfl, ⟨P8.out, fun b0 hb0 => (Below.heap_setCell _ _ _ b0 (by dsimp only; exact (FF.out b0 hb0).2)).trans (X8.out b0 hb0)⟩, B8.out.setCell (Nat.le_refl _) _⟩
    case measure => simp [intOf]; omega

end Fc
end Go.Proofs.YtajbahfbldmckaaDoor

namespace Go.Proofs.YtajbahfbldmckaaDoor
open Go.RowKit
namespace Fc

/-- A builder in memory of its own. -/
def NewB (w : World) (zss : List (List Int)) (e : Ending) (w' : World) : Prop :=
  ∃ bb mb A c rs, e = .returned (.pointer (some ⟨bb, 0, none⟩)) ∧ (w.heap.size ≤ mb ∧ mb < bb) ∧ Bld w' bb mb A c rs ∧ vals rs = zss ∧ MapAt w' mb ∧ Below w.heap.size w w'

set_option maxRecDepth 100000 in
set_option maxHeartbeats 4000000 in
theorem newBuilder_impl (k : Nat) (w : World) (hv : Vs w) (hk : k ≤ 1048576) :
    Calls Tryd.prog 75 #[.int .i64 k] w (NewB w (List.replicate k fr)) := by
  have h0 := hv.pos
  have HV := Lib.hid hv
  clear hv
  go_enter Tryd.func75, Tryd.ntmps75
  go_wp2_with fail
  refine (indices_impl w HV.out.1).mono ?_
  rintro e w1 ⟨rfl, hm, hb⟩
  have D1 := Lib.hid hb
  have z1 : w.heap.size < w1.heap.size := World.ownsMap.lt hm
  have HV1 := Lib.hid (HV.out.below hb h0.1)
  obtain ⟨V, hV⟩ : ∃ V, V = w1.alloc (Obj.cells #[.slice none 0 0, .map (some w.heap.size)] 127) := ⟨_, rfl⟩
  have BV := Lib.hid (show Below w1.heap.size w1 V from by rw [hV]; exact al1 _ _)
  have BB := Lib.hid (show Bld V w1.heap.size w.heap.size none 0 [] from ⟨by rw [hV]; simp [go_sem], by rw [hV]; simp [go_sem], by rw [hV]; simp [go_sem], OwnS.nil _ _ _⟩)
  have M1 := Lib.hid (owns_below hm BV.out z1)
  clear hm hb
  go_wp2_with fail
  rw [← hV]
  clear hV
  refine (addTets_impl w1.heap.size w.heap.size k none 0 [] V BB.out (HV1.out.below BV.out (by omega)) (by omega) (by simpa using hk) (fun _ => False) (fun _ h => h.elim) (fun _ h => h.elim)).mono ?_
  rintro e w2 ⟨rfl, ⟨A', c', rs', hB2, hv2, _, _⟩, hb2⟩
  have B2 := Lib.hid hB2
  have V2 := Lib.hid (show vals rs' = List.replicate k fr from by rw [hv2]; rfl)
  have M2 := Lib.hid (owns_below M1.out hb2 z1)
  have D2 := Lib.hid ((D1.out.trans (BV.out.mono (by omega))).trans (hb2.mono (by omega)))
  clear hB2 hv2 hb2
  go_wp2
  go_ret
  exact ⟨w1.heap.size, w.heap.size, A', c', rs', rfl, ⟨Nat.le_refl _, z1⟩, B2.out, V2.out, M2.out, D2.out⟩

end Fc
end Go.Proofs.YtajbahfbldmckaaDoor

namespace Go.Proofs.YtajbahfbldmckaaDoor
open Go.RowKit
namespace Tr

/-- A face is copied into a table, the indices of tetrahedra increased by s. -/
def upd (s : Int) (T : List (List Int)) (n0 : Nat) (Z : List (List Int)) (a f : Nat) : List (List Int) :=
  if tt T a f < 0 then Z else Z.set (n0 + a) (((Z.getD (n0 + a) []).set (f * 2) (tt T a f + s)).set (f * 2 + 1) (pp T a f))
/-- The table behind the faces that have come. -/
def cpy (s : Int) (T : List (List Int)) (n0 : Nat) {n : Nat} (Z : List (List Int)) (pre : List (Fc.Ix n)) : List (List Int) := pre.foldl (fun Z x => upd s T n0 Z (x.1 / 4) (x.1 % 4)) Z
theorem cpy_nil (s : Int) (T : List (List Int)) (n0 : Nat) {n : Nat} (Z : List (List Int)) : cpy s T n0 Z ([] : List (Fc.Ix n)) = Z := rfl
theorem cpy_snoc (s : Int) (T : List (List Int)) (n0 : Nat) {n : Nat} (Z : List (List Int)) (pre : List (Fc.Ix n)) (x : Fc.Ix n) : cpy s T n0 Z (pre ++ [x]) = upd s T n0 (cpy s T n0 Z pre) (x.1 / 4) (x.1 % 4) := by simp [cpy, List.foldl_append]
/-- The shape of a table: its rows behind the n0-th have eight numbers. -/
def Shp (n0 n : Nat) (Z : List (List Int)) : Prop := Z.length = n0 + n ∧ ∀ a, a < n → (Z.getD (n0 + a) []).length = 8
theorem getD_set_list (Z : List (List Int)) (i j : Nat) (r : List Int) : (Z.set i r).getD j [] = if i = j ∧ i < Z.length then r else Z.getD j [] := by
  rw [List.getD_eq_getElem?_getD, List.getD_eq_getElem?_getD, List.getElem?_set]
  by_cases h : i = j
  · subst h
    by_cases h2 : i < Z.length
    · simp [h2]
    · simp [h2]
  · simp [h]
theorem Shp.upd {s : Int} {T : List (List Int)} {n0 n : Nat} {Z : List (List Int)} (h : Shp n0 n Z) (a f : Nat) : Shp n0 n (upd s T n0 Z a f) := by
  unfold Tr.upd
  split
  · exact h
  · refine ⟨by rw [List.length_set]; exact h.1, fun b hb => ?_⟩
    rw [getD_set_list]
    split
    · rename_i e
      rw [List.length_set, List.length_set, e.1]
      exact h.2 b hb
    · exact h.2 b hb
theorem Shp.cpy {s : Int} {T : List (List Int)} {n0 n m : Nat} {Z : List (List Int)} (h : Shp n0 n Z) (pre : List (Fc.Ix m)) : Shp n0 n (cpy s T n0 Z pre) := by
  induction pre generalizing Z with
  | nil => exact h
  | cons x pre ih => exact ih (h.upd _ _)
/-- A row of which m faces have been copied. -/
def ptR (s : Int) (T : List (List Int)) (a m : Nat) : List Int := (List.range 8).map fun j => if j < m * 2 ∧ ¬ tt T a (j / 2) < 0 then (if j % 2 = 0 then tt T a (j / 2) + s else pp T a (j / 2)) else Fc.fr.getD j 0
theorem ptR_len (s : Int) (T : List (List Int)) (a m : Nat) : (ptR s T a m).length = 8 := by simp [ptR]
theorem ptR_zero (s : Int) (T : List (List Int)) (a : Nat) : ptR s T a 0 = Fc.fr := by
  unfold ptR
  simp only [Nat.zero_mul, Nat.not_lt_zero, false_and, if_false]
  rfl
theorem ptR_neg {s : Int} {T : List (List Int)} {a f : Nat} (h : tt T a f < 0) : ptR s T a (f + 1) = ptR s T a f := by
  unfold ptR
  refine List.map_congr_left fun j _ => ?_
  by_cases e : j / 2 = f
  · rw [e]; simp [h]
  · have : j < (f + 1) * 2 ↔ j < f * 2 := by omega
    simp only [this]
theorem ptR_pos {s : Int} {T : List (List Int)} {a f : Nat} (h : ¬ tt T a f < 0) : ptR s T a (f + 1) = ((ptR s T a f).set (f * 2) (tt T a f + s)).set (f * 2 + 1) (pp T a f) := by
  refine List.ext_getElem (by simp [ptR]) fun j h1 h2 => ?_
  rw [ptR_len] at h1
  rw [List.getElem_set, List.getElem_set]
  by_cases e1 : f * 2 + 1 = j
  · rw [if_pos e1]
    have e2 : j / 2 = f := by omega
    have e3 : j % 2 = 1 := by omega
    simp [ptR, e2, h, e3]
    omega
  · rw [if_neg e1]
    by_cases e4 : f * 2 = j
    · rw [if_pos e4]
      have e2 : j / 2 = f := by omega
      have e3 : j % 2 = 0 := by omega
      simp [ptR, e2, h, e3]
      omega
    · rw [if_neg e4]
      have e5 : j < (f + 1) * 2 ↔ j < f * 2 := by omega
      simp [ptR, e5]
/-- The table of which k faces have been copied, behind Z0. -/
def ptT (s : Int) (T Z0 : List (List Int)) (n k : Nat) : List (List Int) := Z0 ++ (List.range n).map fun a => ptR s T a (min 4 (k - a * 4))
theorem ptT_at (s : Int) (T Z0 : List (List Int)) (n k a : Nat) (ha : a < n) : (ptT s T Z0 n k).getD (Z0.length + a) [] = ptR s T a (min 4 (k - a * 4)) := by
  unfold ptT
  rw [List.getD_eq_getElem?_getD, List.getElem?_append_right (by omega)]
  simp [ha]
theorem ptT_zero (s : Int) (T Z0 : List (List Int)) (n : Nat) : ptT s T Z0 n 0 = Z0 ++ List.replicate n Fc.fr := by
  unfold ptT
  congr 1
  refine List.ext_getElem (by simp) fun j h1 h2 => ?_
  simp [ptR_zero]
theorem ptT_step (s : Int) (T Z0 : List (List Int)) (n a f : Nat) (ha : a < n) (hf : f < 4) : upd s T Z0.length (ptT s T Z0 n (a * 4 + f)) a f = ptT s T Z0 n (a * 4 + f + 1) := by
  have hm : min 4 (a * 4 + f - a * 4) = f := by omega
  have hm1 : min 4 (a * 4 + f + 1 - a * 4) = f + 1 := by omega
  have hoth : ∀ b, b ≠ a → min 4 (a * 4 + f + 1 - b * 4) = min 4 (a * 4 + f - b * 4) := fun b hb => by omega
  unfold upd
  split
  · rename_i h
    unfold ptT
    congr 1
    refine List.map_congr_left fun b _ => ?_
    by_cases e : b = a
    · subst e; rw [hm, hm1, ptR_neg h]
    · rw [hoth b e]
  · rename_i h
    rw [ptT_at _ _ _ _ _ _ ha, hm, ← ptR_pos h]
    unfold ptT
    rw [List.set_append_right _ _ (by omega)]
    congr 1
    refine List.ext_getElem (by simp) fun j h1 h2 => ?_
    rw [List.getElem_set]
    by_cases e : Z0.length + a - Z0.length = j
    · rw [if_pos e]
      have e2 : j = a := by omega
      subst e2
      simp [hm1]
    · rw [if_neg e]
      simp [hoth j (by omega)]
theorem cpy_up (s : Int) (T Z0 : List (List Int)) (n k : Nat) (hk : k ≤ n * 4) : cpy s T Z0.length (Z0 ++ List.replicate n Fc.fr) (Fc.up n k) = ptT s T Z0 n k := by
  induction k with
  | zero => rw [ptT_zero]; rfl
  | succ k ih =>
    rw [Fc.up_succ (by omega), cpy_snoc, ih (by omega)]
    have h1 := ptT_step s T Z0 n (k / 4) (k % 4) (by omega) (by omega)
    rw [show k / 4 * 4 + k % 4 = k from by omega] at h1
    exact h1
/-- A triangulation, the indices of its tetrahedra increased by s. -/
def shT (s : Int) (T : List (List Int)) : List (List Int) := (List.range T.length).map fun a => ptR s T a 4
theorem cpy_all (s : Int) (T Z0 : List (List Int)) : cpy s T Z0.length (Z0 ++ List.replicate T.length Fc.fr) (Fc.up T.length (T.length * 4)) = Z0 ++ shT s T := by
  rw [cpy_up _ _ _ _ _ (Nat.le_refl _)]
  unfold ptT shT
  congr 1
  refine List.map_congr_left fun a ha => ?_
  have := List.mem_range.1 ha
  rw [show min 4 (T.length * 4 - a * 4) = 4 from by omega]
/-- Not increased, it is the triangulation. -/
theorem shT_zero {T : List (List Int)} (h : Is T) : shT 0 T = T := by
  refine List.ext_getElem (by simp [shT]) fun a h1 h2 => ?_
  have h8 : (T.getD a []).length = 8 := h.2.1 a h2
  have hg : T.getD a [] = T[a] := by rw [List.getD_eq_getElem?_getD, List.getElem?_eq_getElem h2]; rfl
  simp only [shT, List.getElem_map, List.getElem_range]
  refine List.ext_getElem (by rw [ptR_len, ← hg, h8]) fun j h3 h4 => ?_
  rw [ptR_len] at h3
  have hv : T[a][j] = (T.getD a []).getD j 0 := by rw [hg, List.getD_eq_getElem?_getD, List.getElem?_eq_getElem h4]; rfl
  rw [hv]
  have hf : j / 2 < 4 := by omega
  have e0 : tt T a (j / 2) = (T.getD a []).getD (j / 2 * 2) 0 := rfl
  have e1 : pp T a (j / 2) = (T.getD a []).getD (j / 2 * 2 + 1) 0 := rfl
  by_cases hn : tt T a (j / 2) < 0
  · have hb := (h.bd_iff h2 hf).2 hn
    have hx : (ptR 0 T a 4)[j]'(by rw [ptR_len]; exact h3) = Fc.fr.getD j 0 := by simp [ptR]; intro _ h9; omega
    rw [hx]
    by_cases hj : j % 2 = 0
    · rw [show j = j / 2 * 2 from by omega, ← e0, hb.1]
      obtain h | h | h | h : j / 2 = 0 ∨ j / 2 = 1 ∨ j / 2 = 2 ∨ j / 2 = 3 := by omega
      all_goals rw [h]; rfl
    · rw [show j = j / 2 * 2 + 1 from by omega, ← e1, hb.2]
      obtain h | h | h | h : j / 2 = 0 ∨ j / 2 = 1 ∨ j / 2 = 2 ∨ j / 2 = 3 := by omega
      all_goals rw [h]; rfl
  · by_cases hj : j % 2 = 0
    · have hx : (ptR 0 T a 4)[j]'(by rw [ptR_len]; exact h3) = tt T a (j / 2) := by simp [ptR, hn, hj, h3]
      rw [hx, e0, show j / 2 * 2 = j from by omega]
    · have hx : (ptR 0 T a 4)[j]'(by rw [ptR_len]; exact h3) = pp T a (j / 2) := by simp [ptR, hn, hj, h3]
      rw [hx, e1, show j / 2 * 2 + 1 = j from by omega]
end Tr
end Go.Proofs.YtajbahfbldmckaaDoor

namespace Go.Proofs.YtajbahfbldmckaaDoor
open Go.RowKit Go.Shelf
namespace Fc

theorem OwnS.setFace {w : World} {lo hi c : Nat} {A : Option Addr} {rs : List Rw} (h : OwnS w lo hi A c rs) (hhi : hi ≤ w.heap.size) {j f : Nat} (hj : j < rs.length) (h8 : (rs.getD j nilRw).zs.length = 8) (hf : f < 4) :
    ∃ g gr o cr, (rs.getD j nilRw).A = some ⟨gr, o, none⟩ ∧ A = some ⟨g, 0, none⟩ ∧ (lo ≤ g ∧ g < hi) ∧ w.cell? ⟨g, j, none⟩ = some (.slice (some ⟨gr, o, none⟩) 4 cr) ∧ (lo ≤ gr ∧ gr < hi) ∧ gr ≠ g ∧ (4 ≤ cr ∧ cr ≤ maxLen) ∧
      ((∃ u, w.cell? ⟨gr, o + f * 2, none⟩ = some (.int .i64 u)) ∧ (∃ u, w.cell? ⟨gr, o + f * 2 + 1, none⟩ = some (.int .i64 u)) ∧ w.frozen? ⟨gr, o + f * 2, none⟩ = false ∧ w.frozen? ⟨gr, o + f * 2 + 1, none⟩ = false) ∧
      ∀ t p : Int, OwnS ((w.setCell ⟨gr, o + f * 2, none⟩ (.int .i64 t)).setCell ⟨gr, o + f * 2 + 1, none⟩ (.int .i64 p)) lo hi A c (rs.set j ⟨some ⟨gr, o, none⟩, cr, ((rs.getD j nilRw).zs.set (f * 2) t).set (f * 2 + 1) p⟩) := by
  obtain ⟨g, hA, hg1, hg2, hcell⟩ := h.at_ (by omega)
  obtain ⟨hc, _⟩ := hcell j hj
  obtain ⟨r, hr⟩ : ∃ r, rs.getD j nilRw = r := ⟨_, rfl⟩
  have hmem : r ∈ rs := by rw [← hr]; exact getD_mem hj
  have hin := h.mine r hmem
  rw [hr] at hc h8 ⊢
  obtain ⟨gr, o, eA, b1, b2, b3⟩ := hin.mine.2 (by omega)
  have hoff := h.off r hmem _ hA _ eA (by omega)
  dsimp only at hoff
  have hsv : r.sv = .slice (some ⟨gr, o, none⟩) 4 r.c := by unfold Rw.sv; rw [eA, h8]
  have k0 := b3 (f * 2) (by omega)
  have k1 := b3 (f * 2 + 1) (by omega)
  rw [← Nat.add_assoc] at k1
  refine ⟨g, gr, o, r.c, eA, hA, ⟨hg1, hg2⟩, by rw [hc, hsv], ⟨b1, b2⟩, hoff, ⟨by have := hin.le.1; omega, hin.cap⟩, ⟨⟨_, k0.1⟩, ⟨_, k1.1⟩, k0.2, k1.2⟩, fun t p => ?_⟩
  have hnew : (((r.zs.set (f * 2) t).set (f * 2 + 1) p)).length = r.zs.length := by rw [List.length_set, List.length_set]
  have := h.turn (w' := (w.setCell ⟨gr, o + f * 2, none⟩ (.int .i64 t)).setCell ⟨gr, o + f * 2 + 1, none⟩ (.int .i64 p)) hhi hj hr hnew ?_ ?_
  · rw [eA] at this; exact this
  · refine ⟨rfl, fun _ => ⟨gr, o, eA, b1, b2, fun k hk => ?_⟩⟩
    rw [hnew] at hk
    have kk := b3 k hk
    refine ⟨?_, by rw [World.frozen?_setCell, World.frozen?_setCell]; exact kk.2⟩
    by_cases e1 : k = f * 2 + 1
    · subst e1
      rw [← Nat.add_assoc, World.cell?_setCell_same' _ _ _ (by rw [World.cell?_setCell_other _ _ _ _ (by simp), k1.1]; rfl)]
      congr 2
      rw [List.getD_eq_getElem?_getD, List.getElem?_set]
      simp
      rw [if_pos (by omega)]
      rfl
    · rw [World.cell?_setCell_other _ _ _ _ (by first | (simp; done) | (simp; omega))]
      by_cases e2 : k = f * 2
      · subst e2
        rw [World.cell?_setCell_same' _ _ _ (by rw [k0.1]; rfl)]
        congr 2
        rw [List.getD_eq_getElem?_getD, List.getElem?_set, List.getElem?_set]
        simp
        rw [if_pos (by omega)]
        rfl
      · rw [World.cell?_setCell_other _ _ _ _ (by first | (simp; done) | (simp; omega)), kk.1]
        congr 2
        rw [List.getD_eq_getElem?_getD, List.getD_eq_getElem?_getD, List.getElem?_set, List.getElem?_set, if_neg (by omega), if_neg (by omega)]
  · intro k _ ho
    have hne := ho _ eA (by omega)
    dsimp only at hne
    exact (Below.heap_setCell _ _ _ k (by dsimp only; omega)).trans (Below.heap_setCell _ _ _ k (by dsimp only; omega))

theorem OwnS.grownC {w w' : World} {lo hi c : Nat} {A : Option Addr} {rs : List Rw} {row : Option Nat} (h : OwnS w lo hi A c rs) (hg : w.grownBy w' row) (hr : ∀ k, row = some k → ∃ o : Obj, w.heap[k]? = some o ∧ o.isCells = false) : OwnS w' lo hi A c rs := by
  refine ⟨⟨h.row.1, ?_⟩, h.top, fun r hr' => ?_, h.off, h.apart⟩
  · rcases h.row.2 with h0 | ⟨g, cap, cur, hv, hb, hgg, q⟩
    · exact .inl h0
    · refine .inr ⟨g, cap, cur, hv, hb, ?_, q⟩
      rw [hg.block g (Array.getElem?_eq_some_iff.1 hgg).1 (fun e => by
        obtain ⟨o, ho, hc⟩ := hr g e.symm
        rw [hgg] at ho
        cases ho
        cases hc)]
      exact hgg
  · have hm := h.mine r hr'
    exact ⟨hm.le, hm.cap, hm.mine.1, fun h0 => by
      obtain ⟨g, off, e, h1, h2, h3⟩ := hm.mine.2 h0
      exact ⟨g, off, e, h1, h2, fun j hj => ⟨cell_kept (h3 j hj).1 hg hr, (frozen_kept (h3 j hj).1 hg hr).trans (h3 j hj).2⟩⟩⟩
/-- A builder is left as it is by what a loop over a function does besides. -/
theorem Bld.grownC {w w' : World} {bb mb c : Nat} {A : Option Addr} {rs : List Rw} {row : Option Nat} (h : Bld w bb mb A c rs) (hg : w.grownBy w' row) (hr : ∀ k, row = some k → ∃ o : Obj, w.heap[k]? = some o ∧ o.isCells = false) : Bld w' bb mb A c rs :=
  ⟨cell_kept h.cell hg hr, cell_kept h.map hg hr, (frozen_kept h.cell hg hr).trans h.free, (h.own.grownC hg hr).wide (Nat.le_refl _) hg.size⟩

end Fc
end Go.Proofs.YtajbahfbldmckaaDoor

namespace Go.Proofs.YtajbahfbldmckaaDoor
open Go

section
variable {F : Fence} {n : Nat} {P : Program} {ops : Array Oper} {Q : Exit → Act → World → Prop} {md : Region.Mode} {S : World → Prop} {N : List Nat}

/-- The operation ends, with a value or without. -/
def EndsIn (P : Program) (o : Oper) (a : Act) (w : World) (K : Act → World → Prop) : Prop :=
  (∃ v w', (execOp a.eval o).run P w = .ok (.value v) w' ∧ K (a.put o.dst v) w') ∨ ∃ w', (execOp a.eval o).run P w = .ok .skip w' ∧ K (a.put o.dst undef) w'
theorem EndsIn.mono {o : Oper} {a : Act} {w : World} {K K' : Act → World → Prop} (h : EndsIn P o a w K) (hk : ∀ a w, K a w → K' a w) : EndsIn P o a w K' := by
  rcases h with ⟨v, w', h1, h2⟩ | ⟨w', h1, h2⟩
  · exact .inl ⟨v, w', h1, hk _ _ h2⟩
  · exact .inr ⟨w', h1, hk _ _ h2⟩
/-- No call, no defer, no select, no guard. -/
def plainB (ops : Array Oper) : Bool := ops.all fun o => o.guard.isNone && match o.op with | .call _ => false | .defer _ => false | .select _ _ => false | _ => true
def wpM (P : Program) (md : Region.Mode) (ops : Array Oper) (Q : Exit → Act → World → Prop) (S : World → Prop) (N : List Nat) : Nat → Array Bool → Act → World → Prop
  | 0, l, a, w => Region.ready md ops l = [] ∧ Q .normal a w
  | f + 1, l, a, w => (Region.ready md ops l = [] → Q .normal a w) ∧ ∀ j ∈ Region.ready md ops l, ∃ o, ops[j]? = some o ∧ EndsIn P o a w (fun a' w' => (asksS md ops N j = true → S w') ∧ wpM P md ops Q S N f (l.setIfInBounds j true) a' w')

theorem plain_at (hp : plainB ops = true) {j : Nat} {o : Oper} (ho : ops[j]? = some o) : o.guard = none ∧ (∀ c, o.op ≠ .call c) ∧ (∀ c, o.op ≠ .defer c) ∧ ∀ cs b, o.op ≠ .select cs b := by
  unfold plainB at hp
  have h := Array.all_eq_true'.1 hp o (Array.mem_of_getElem? ho)
  simp only [Bool.and_eq_true, Option.isNone_iff_eq_none] at h
  obtain ⟨h1, h2⟩ := h
  exact ⟨h1, fun c e => by rw [e] at h2; simp at h2, fun c e => by rw [e] at h2; simp at h2, fun cs b e => by rw [e] at h2; simp at h2⟩

theorem wpAnyIn_of_M (hp : plainB ops = true) : ∀ (f : Nat) (l : Array Bool) (a : Act) (w : World), wpM P md ops Q S N f l a w → wpAnyIn F n P md ops Q f l a w := by
  intro f
  induction f with
  | zero => exact fun _ _ _ h => h
  | succ f ih =>
    refine fun l a w h => ⟨h.1, fun j hj => ?_⟩
    obtain ⟨o, ho, he⟩ := h.2 j hj
    obtain ⟨hg, hc, hd, _⟩ := plain_at hp ho
    have hab : ∀ g, o.about P w a.eval = some g → F.fn g := fun g hgg => by
      unfold Oper.about at hgg
      split at hgg
      · rename_i c e; exact absurd e (hc c)
      · cases hgg
    unfold wpOpIn
    simp only [ho]
    rw [if_pos (by simp [Region.wanted, hg])]
    refine ⟨hab, ?_⟩
    rw [Oper.semAt_eq _ _ _ hd]
    rcases he with ⟨v, w', h1, h2⟩ | ⟨w', h1, h2⟩
    · rw [h1]; exact ih _ _ _ h2.2
    · rw [h1]; exact ih _ _ _ h2.2

/-- A load of N is taken first. -/
theorem wpM_first {i : Nat} {oi : Oper} {v : Value} (hp : plainB ops = true) (hi : ops[i]? = some oi) (hN : i ∈ N) (f : Nat) :
    ∀ (l : Array Bool) (a : Act) (w : World), (∀ j oj, ops[j]? = some oj → j ≠ i → l.getD j true = false → (∀ e ∈ oj.after, Region.binds md e = true → e.on ≠ i) → oi.apart ops oj = true) →
      i ∈ Region.ready md ops l → (∀ w, S w → (execOp a.eval oi).run P w = .ok (.value v) w) → S w → wpM P md ops Q S N f (l.setIfInBounds i true) (a.put oi.dst v) w → wpM P md ops Q S N (f + 1) l a w := by
  have hsi := (plain_at hp hi).2.2.2
  induction f with
  | zero =>
    intro l a w _ hr hy hS H
    refine ⟨fun h => absurd hr (by rw [h]; exact List.not_mem_nil), fun j hj => ?_⟩
    by_cases e : j = i
    · rw [e]
      exact ⟨oi, hi, .inl ⟨v, w, hy w hS, fun _ => hS, H⟩⟩
    · have h2 := ready_mono hj e
      rw [H.1] at h2
      exact absurd h2 List.not_mem_nil
  | succ f ih =>
    intro l a w hf hr hy hS H
    refine ⟨fun h => absurd hr (by rw [h]; exact List.not_mem_nil), fun j hj => ?_⟩
    by_cases e : j = i
    · rw [e]
      exact ⟨oi, hi, .inl ⟨v, w, hy w hS, fun _ => hS, H⟩⟩
    have hask := asks_of_ready hN hr hj
    obtain ⟨hlj, oj', hoj', hall⟩ := mem_ready.1 hj
    have hfree : ∀ x ∈ oj'.after, Region.binds md x = true → x.on ≠ i := fun x hx hb hon => by
      have h1 := hall x hx hb
      rw [hon, getD_both (mem_ready.1 hr).1] at h1
      cases h1
    obtain ⟨oj, hoj, he⟩ := H.2 j (ready_mono hj e)
    obtain rfl : oj = oj' := Option.some.inj (hoj.symm.trans hoj')
    have hsj := (plain_at hp hoj).2.2.2
    obtain ⟨a1, a2, a3⟩ := Oper.apart_spec (hf j oj hoj e hlj hfree)
    have next : ∀ u w', ((asksS md ops N j = true → S w') ∧ wpM P md ops Q S N f ((l.setIfInBounds i true).setIfInBounds j true) ((a.put oi.dst v).put oj.dst u) w') → (asksS md ops N j = true → S w') ∧ wpM P md ops Q S N (f + 1) (l.setIfInBounds j true) (a.put oj.dst u) w' := fun u w' hk => by
      refine ⟨fun _ => hk.1 hask, ih _ _ w' (fun k ok hk1 hk2 hk3 hk4 => hf k ok hk1 hk2 ?_ hk4) (ready_mono hr (Ne.symm e)) (fun w2 hs2 => by rw [execOp_put oi hsi a oj.dst u a3]; exact hy w2 hs2) (hk.1 hask) ?_⟩
      · by_cases e2 : j = k
        · rw [← e2]; exact hlj
        · rw [getD_set_ne true e2] at hk3; exact hk3
      · rw [Array.setIfInBounds_comm _ _ e, ← Act.put_comm a v u a2]
        exact hk.2
    refine ⟨oj, hoj, ?_⟩
    unfold EndsIn at he ⊢
    rw [execOp_put oj hsj a oi.dst v a1] at he
    rcases he with ⟨u, w', h1, h2⟩ | ⟨w', h1, h2⟩
    · exact .inl ⟨u, w', h1, next u w' h2⟩
    · exact .inr ⟨w', h1, next undef w' h2⟩
theorem wpM_take {i : Nat} {oi : Oper} {v : Value} {f : Nat} {l : Array Bool} {a : Act} {w : World} (hp : plainB ops = true) (hi : ops[i]? = some oi) (hN : N.contains i = true) (hf : Region.free md ops l i = true) (hr : (Region.ready md ops l).contains i = true)
    (hy : ∀ w, S w → (execOp a.eval oi).run P w = .ok (.value v) w) (hS : S w) (h : wpM P md ops Q S N f (l.setIfInBounds i true) (a.put oi.dst v) w) : wpM P md ops Q S N (f + 1) l a w :=
  wpM_first hp hi (by simpa using hN) f l a w (Region.free_spec hi hf) (by simpa using hr) hy hS h
/-- One operation alone may come up. -/
theorem wpM_one {j : Nat} {o : Oper} {f : Nat} {l : Array Bool} {a : Act} {w : World} (hr : Region.ready md ops l = [j]) (ho : ops[j]? = some o)
    (h : EndsIn P o a w (fun a' w' => (asksS md ops N j = true → S w') ∧ wpM P md ops Q S N f (l.setIfInBounds j true) a' w')) : wpM P md ops Q S N (f + 1) l a w := by
  refine ⟨(fun h0 => by rw [hr] at h0; cases h0), fun k hk => ?_⟩
  rw [hr] at hk
  obtain rfl : k = j := by simpa using hk
  exact ⟨o, ho, h⟩
theorem wpM_done {f : Nat} {l : Array Bool} {a : Act} {w : World} (hr : Region.ready md ops l = []) (h : Q .normal a w) : wpM P md ops Q S N f l a w := by
  cases f with
  | zero => exact ⟨hr, h⟩
  | succ f => exact ⟨fun _ => h, (fun k hk => by rw [hr] at hk; cases hk)⟩
/-- The beginning, in a program under 'wide'. -/
theorem wpIn_region_M (S : World → Prop) (N : List Nat) {id : Nat} {a : Act} {w : World} (hm : P.follows .mixedOrders = true) (hp : plainB ops = true) (h : wpM P .any ops Q S N ops.size (Array.replicate ops.size false) a w.drew) : (Code.region id ops true).wpIn F n P Q a w :=
  wpIn_region_any hm (wpAnyIn_of_M hp _ _ _ _ h)
end

end Go.Proofs.YtajbahfbldmckaaDoor

namespace Go.Proofs.YtajbahfbldmckaaDoor
open Go.RowKit Go.Shelf
namespace Fc
attribute [local go_sem] Oper.semAt_some
theorem leave2 {F : Fence} {n : Nat} {P : Program} {fn : Func} {R : Ending → World → Prop} {tmps : Array Value} {w : World} {v : Value} {D : Nat} (hK : w.heap[D]? = some (.deferred (some [])))
    (h1 : (results fn tmps).run P (w.putObj D (.deferred none)) = .ok v (w.putObj D (.deferred none))) (h2 : R (.returned v) (w.putObj D (.deferred none))) :
    bodyPostM F n P fn R .normal { tmps := tmps, defers := [{ target := .collected D, args := #[] }] } w := ⟨by simp, .inl ⟨_, _, rfl, run_takeDeferred hK, v, h1, h2⟩⟩

set_option maxRecDepth 100000 in
set_option maxHeartbeats 8000000 in
theorem addTri_impl (bb mb n c : Nat) (A : Option Addr) (T : List (List Int)) (A0 : Option Addr) (c0 : Nat) (rs0 : List Rw) (w : World) (h : RdT w bb A n T) (hB : Bld w bb mb A0 c0 rs0) (hv : Vs w) (hb1 : 3 < bb) (hT : Tr.Is T) (hsum : rs0.length + n ≤ 1048576) :
    Calls Tryd.prog 70 #[.pointer (some ⟨bb, 0, none⟩), .agg #[.slice A n c]] w fun e w' => e = .returned (.tuple #[]) ∧ (∃ A' c' rs', Bld w' bb mb A' c' rs' ∧ vals rs' = vals rs0 ++ Tr.shT rs0.length T) ∧ Below bb w w' := by
  have hlt := hB.lt
  have HT := Lib.hid h
  have VG0 := Lib.hid hv.2
  have LN := Lib.hid h.len
  have IS := Lib.hid hT
  have h8 : n ≤ 8 := by rw [← LN.out]; exact hT.1
  have H4 := Lib.hid hT.2.1
  refine (callsIn_wide (n := 5)).1 ?_
  refine callsIn_of_wp_marks Tryd.func70 rfl trivial ?_ rfl
  simp only [Tryd.ntmps70, List.size_toArray, List.length_cons, List.length_nil, Nat.reduceAdd, Nat.reduceSub, Array.replicate_succ, Array.replicate_zero, List.push_toArray, List.append_toArray, List.nil_append, List.cons_append]
  obtain ⟨U, hU⟩ : ∃ U, U = ((w.alloc (Obj.cells #[.pointer (some ⟨bb, 0, none⟩)] 64)).alloc (Obj.cells #[.slice A n c] 28)).alloc (Obj.cells #[.int .i64 rs0.length] 2) := ⟨_, rfl⟩
  have hBU : Below w.heap.size w U := by rw [hU]; exact al3 _ _ _ _
  have z : w.heap.size + 2 < U.heap.size := by rw [hU]; simp
  have k0 : U.cell? ⟨w.heap.size, 0, none⟩ = some (.pointer (some ⟨bb, 0, none⟩)) := by rw [hU]; simp [go_sem]
  have k1 : U.cell? ⟨w.heap.size + 1, 0, none⟩ = some (.slice A n c) := by rw [hU]; simp [go_sem]
  have k2 : U.cell? ⟨w.heap.size + 2, 0, none⟩ = some (.int .i64 rs0.length) := by rw [hU]; simp [go_sem]
  have RT := Lib.hid (HT.out.below (hBU.mono (by omega)))
  have BU := Lib.hid (hB.below hBU)
  have DU := Lib.hid (hBU.mono (Nat.le_of_lt hlt))
  have VU := Lib.hid (hv.below hBU (by omega))
  have AP := Lib.hid (show Apt (fun b0 => w.heap.size ≤ b0 ∧ b0 < w.heap.size + 3) A0 rs0 from fun b0 hb0 => ⟨fun a ha => by have := hB.own.top a ha; omega, fun q hq => (hB.own.mine q hq).off (.inr hb0.1)⟩)
  have g0 := hB.cell
  have l0 : bb < w.heap.size := hlt
  clear h hv hT hBU hB
  gi_wp2
  rw [← hU]
  clear hU
  refine ⟨trivial, ?_⟩
  refine (callsIn_wide.2 (addTets_impl bb mb n A0 c0 rs0 U BU.out VU.out hb1 hsum (fun b0 => w.heap.size ≤ b0 ∧ b0 < w.heap.size + 3) (fun b0 hb0 => ⟨by omega, by omega⟩) AP.out)).mono ?_
  rintro e X ⟨rfl, ⟨A1, c1, rs1, hB1, hv1, hap1, hsm1⟩, hbX⟩
  have F0 : w.heap.size ≤ w.heap.size ∧ w.heap.size < w.heap.size + 3 := by omega
  have F1 : w.heap.size ≤ w.heap.size + 1 ∧ w.heap.size + 1 < w.heap.size + 3 := by omega
  have F2 : w.heap.size ≤ w.heap.size + 2 ∧ w.heap.size + 2 < w.heap.size + 3 := by omega
  have k0 := (World.cell?_of_block (a := ⟨w.heap.size, 0, none⟩) (hsm1 _ F0)).trans k0
  have k1 := (World.cell?_of_block (a := ⟨w.heap.size + 1, 0, none⟩) (hsm1 _ F1)).trans k1
  have k2 := (World.cell?_of_block (a := ⟨w.heap.size + 2, 0, none⟩) (hsm1 _ F2)).trans k2
  have zX : U.heap.size ≤ X.heap.size := hbX.size
  have RX := Lib.hid (RT.out.below hbX)
  have DX := Lib.hid (DU.out.trans hbX)
  have BX := Lib.hid hB1
  have VX := Lib.hid hv1
  have VV := Lib.hid (VU.out.below hbX hb1)
  have PX := Lib.hid hap1
  clear hB1 hv1 hap1 hsm1 hbX F0 F1 F2 RT DU BU VU AP
  obtain ⟨V, hV⟩ : ∃ V, V = X.alloc (Obj.cells #[.slice A n c] 28) := ⟨_, rfl⟩
  have zV : X.heap.size < V.heap.size := by rw [hV]; simp
  have hBX : Below X.heap.size X V := by rw [hV]; exact al1 _ _
  have DV := Lib.hid (DX.out.trans (hBX.mono (by omega)))
  have KB := Lib.hid (show V.cell? ⟨X.heap.size, 0, none⟩ = some (.slice A n c) from by rw [hV]; simp [go_sem])
  have A0_ := Lib.hid (show V.cell? ⟨w.heap.size, 0, none⟩ = some (.pointer (some ⟨bb, 0, none⟩)) from (hBX.cell (p := ⟨w.heap.size, 0, none⟩) (by dsimp only; omega)).trans k0)
  have A2_ := Lib.hid (show V.cell? ⟨w.heap.size + 2, 0, none⟩ = some (.int .i64 rs0.length) from (hBX.cell (p := ⟨w.heap.size + 2, 0, none⟩) (by dsimp only; omega)).trans k2)
  have BV := Lib.hid (BX.out.below hBX)
  have RV := Lib.hid (RX.out.below (hBX.mono (by omega)))
  gi_wp2_with (refine ⟨trivial, ?_⟩; gi_at_call 76; refine (Fc.facesOf_in Fence.wide _ trivial rfl _ _ _ _).mono ?_; rintro e w' ⟨rfl, rfl⟩)
  rw [← hV]
  clear hV hBX RX BX DX
  refine Fc.rangeC (by omega) X.heap.size bb c A T H4.out (by omega) zV (by omega) rfl rfl KB.out RV.out
    (fun pre W => ((W.cell? ⟨w.heap.size, 0, none⟩ = some (.pointer (some ⟨bb, 0, none⟩)) ∧ W.cell? ⟨w.heap.size + 2, 0, none⟩ = some (.int .i64 rs0.length)) ∧ ∃ A' c' rs, Bld W bb mb A' c' rs ∧ Apt (fun b0 => w.heap.size ≤ b0 ∧ b0 < w.heap.size + 3) A' rs ∧ vals rs = Tr.cpy rs0.length T rs0.length (vals rs0 ++ List.replicate n fr) pre) ∧ Below bb w W)
    (OwnFrom.and (fun s Y Z row hs hg hr => by
      obtain ⟨⟨h1, h2⟩, A', c', rs, h3, h4, h5⟩ := hs
      have hr' : ∀ r, row = some r → ∃ o : Obj, Y.heap[r]? = some o ∧ o.isCells = false := fun r e => (hr r e).2
      exact ⟨⟨cell_kept h1 hg hr', cell_kept h2 hg hr'⟩, A', c', rs, h3.grownC hg hr', h4, h5⟩) (ownFrom_below (by omega) (by omega)))
    ⟨⟨⟨A0_.out, A2_.out⟩, A1, c1, rs1, BV.out, PX.out, VX.out⟩, DV.out⟩
    (fun x Bx W => (W.cell? ⟨Bx, 0, none⟩ = some (.int .i64 ((x.1 : Int) / 4)) ∧ W.cell? ⟨Bx, 1, none⟩ = some (.int .i64 ((x.1 : Int) % 4))) ∧ W.cell? ⟨Bx + 1, 0, none⟩ = some (.int .i64 (Tr.tt T (x.1 / 4) (x.1 % 4))) ∧ W.cell? ⟨Bx + 1, 1, none⟩ = some (.int .i64 (Tr.pp T (x.1 / 4) (x.1 % 4))))
    (fun x Bx => Own.from (fun s X Y row hs hg hr => ⟨⟨cell_kept hs.1.1 hg hr, cell_kept hs.1.2 hg hr⟩, cell_kept hs.2.1 hg hr, cell_kept hs.2.2 hg hr⟩) _) ?acts ?assign ?body ?done
  case assign =>
    rintro l pre x W K ⟨⟨⟨b0, b2⟩, A', c', rs, hO, hAp, hVl⟩, hB⟩ hK
    dsimp only [Fc.encF]
    have zW : bb ≤ W.heap.size := Nat.le_trans (Nat.le_of_lt hlt) hB.size
    gi_wp2
    obtain ⟨Y, hY⟩ : ∃ Y, Y = (W.alloc (Obj.cells #[.int .i64 ((x.1 : Int) / 4), .int .i64 ((x.1 : Int) % 4)] 76)).alloc (Obj.cells #[.int .i64 (Tr.tt T (x.1 / 4) (x.1 % 4)), .int .i64 (Tr.pp T (x.1 / 4) (x.1 % 4))] 72) := ⟨_, rfl⟩
    have m0 : Y.cell? ⟨W.heap.size, 0, none⟩ = some (.int .i64 ((x.1 : Int) / 4)) := by rw [hY]; simp [go_sem]
    have m1 : Y.cell? ⟨W.heap.size, 1, none⟩ = some (.int .i64 ((x.1 : Int) % 4)) := by rw [hY]; simp [go_sem]
    have n0 : Y.cell? ⟨W.heap.size + 1, 0, none⟩ = some (.int .i64 (Tr.tt T (x.1 / 4) (x.1 % 4))) := by rw [hY]; simp [go_sem]
    have n1 : Y.cell? ⟨W.heap.size + 1, 1, none⟩ = some (.int .i64 (Tr.pp T (x.1 / 4) (x.1 % 4))) := by rw [hY]; simp [go_sem]
    have hAA : Below W.heap.size W Y := by rw [hY]; exact al2 _ _ _
    have hA : Below bb W Y := hAA.mono zW
    have hF : KeepsFrom V.heap.size W Y := by rw [hY]; exact ((KeepsOthers.alloc W _).trans (KeepsOthers.alloc _ _)).from _
    have hI : Y.cell? ⟨w.heap.size, 0, none⟩ = some (.pointer (some ⟨bb, 0, none⟩)) := by rw [hY]; exact Fc.cell_al _ (Fc.cell_al _ b0)
    have hI2 : Y.cell? ⟨w.heap.size + 2, 0, none⟩ = some (.int .i64 rs0.length) := by rw [hY]; exact Fc.cell_al _ (Fc.cell_al _ b2)
    have hOY : Bld Y bb mb A' c' rs := hO.below hAA
    rw [← hY]
    clear hY
    revert m0 m1 n0 n1
    generalize W.heap.size = Bx
    intro m0 m1 n0 n1
    exact hK Bx _ hF hA ⟨⟨⟨hI, hI2⟩, A', c', rs, hOY, hAp, hVl⟩, hB.trans hA⟩ ⟨⟨m0, m1⟩, n0, n1⟩
  case body =>
    rintro l pre x Bx W hl ⟨r, hr⟩ ⟨⟨⟨b0, b2⟩, A', c', rs, hO, hAp, hVl⟩, hB⟩ ⟨⟨m0, m1⟩, q0, q1⟩ hlen
    have xlt := x.2
    obtain ⟨a, hae⟩ : ∃ a, x.1 / 4 = a := ⟨_, rfl⟩
    obtain ⟨f, hfe⟩ : ∃ f, x.1 % 4 = f := ⟨_, rfl⟩
    have ha : a < n := by omega
    have hf : f < 4 := by omega
    have ia : ((x.1 : Int) / 4) = (a : Int) := by omega
    have jf : ((x.1 : Int) % 4) = (f : Int) := by omega
    rw [ia] at m0
    rw [jf] at m1
    rw [hae, hfe] at q0 q1
    have SN := Lib.hid (show Tr.cpy rs0.length T rs0.length (vals rs0 ++ List.replicate n fr) (pre ++ [x]) = Tr.upd rs0.length T rs0.length (Tr.cpy rs0.length T rs0.length (vals rs0 ++ List.replicate n fr) pre) a f from by rw [Tr.cpy_snoc, hae, hfe])
    have SH := Lib.hid (show Tr.Shp rs0.length n (Tr.cpy rs0.length T rs0.length (vals rs0 ++ List.replicate n fr) pre) from Tr.Shp.cpy ⟨by rw [List.length_append, Go.Proofs.YtajbahfbldmckaaDoor.Fc.vals_len, List.length_replicate], fun b hb => by
      rw [List.getD_eq_getElem?_getD, List.getElem?_append_right (by rw [Go.Proofs.YtajbahfbldmckaaDoor.Fc.vals_len]; omega), Go.Proofs.YtajbahfbldmckaaDoor.Fc.vals_len, show rs0.length + b - rs0.length = b from by omega, List.getElem?_replicate, if_pos hb]; rfl⟩ pre)
    have zW : bb < W.heap.size := hO.lt
    have zW1 : w.heap.size + 2 < W.heap.size := World.block_lt_of_cell? W _ b2
    have zB : Bx + 1 < W.heap.size := World.block_lt_of_cell? W _ q0
    obtain ⟨v0, v1⟩ := VG0.out.below hB (by omega)
    have OW := Lib.hid hO
    have AW := Lib.hid hAp
    have VL := Lib.hid hVl
    have HBW := Lib.hid hB
    have DB := IS.out.bd_iff (a := a) (f := f) (by rw [LN.out]; exact ha) hf
    clear ia jf hae hfe xlt hO hVl hr hB hAp
    by_cases hneg : Tr.tt T a f < 0
    · obtain ⟨h1, h2⟩ := DB.2 hneg
      have NX := Lib.hid (show ∀ Z, Tr.upd rs0.length T rs0.length Z a f = Z from fun Z => by unfold Tr.upd; rw [if_pos hneg])
      rw [h1] at q0
      rw [h2] at q1
      clear h1 h2 hneg DB
      gi_wp2
      exact ⟨KeepsFrom.refl _ _, Below.refl _ _, ⟨⟨b0, b2⟩, A', c', rs, OW.out, AW.out, by rw [SN.out, NX.out]; exact VL.out⟩, HBW.out⟩
    · obtain ⟨tv, htv⟩ : ∃ tv, Tr.tt T a f = tv := ⟨_, rfl⟩
      obtain ⟨pv, hpv⟩ : ∃ pv, Tr.pp T a f = pv := ⟨_, rfl⟩
      have TB := Lib.hid (show tv < n from by
        rcases (IS.out.2.2 a (by rw [LN.out]; exact ha) f hf).ok with e | ⟨⟨_, t1⟩, _⟩
        · have := e.1; omega
        · rw [htv, LN.out] at t1; exact t1)
      have NX := Lib.hid (show ∀ Z, Tr.upd rs0.length T rs0.length Z a f = Z.set (rs0.length + a) (((Z.getD (rs0.length + a) []).set (f * 2) (tv + rs0.length)).set (f * 2 + 1) pv) from fun Z => by unfold Tr.upd; rw [if_neg hneg, htv, hpv])
      have hlen2 : rs.length = rs0.length + n := by
        have h1 := congrArg List.length VL.out
        rw [Go.Proofs.YtajbahfbldmckaaDoor.Fc.vals_len] at h1
        exact h1.trans SH.out.1
      have L2 := Lib.hid hlen2
      have hz8 : (rs.getD (rs0.length + a) nilRw).zs.length = 8 := by rw [← vals_getD, VL.out]; exact SH.out.2 a ha
      obtain ⟨g, gr, o, cr, eA, rfl, hg, hcr, hgr, hne, hcap, ⟨⟨u0, hu0⟩, ⟨u1, hu1⟩, hf0, hf1⟩, hset⟩ := OW.out.own.setFace (Nat.le_refl _) (j := rs0.length + a) (f := f) (by omega) hz8 hf
      have SET := Lib.hid hset
      have NE := Lib.hid (show ∀ b0, w.heap.size ≤ b0 ∧ b0 < w.heap.size + 3 → gr ≠ b0 from fun b0 hb0 => (AW.out b0 hb0).2 _ (getD_mem (by omega)) _ eA (by omega))
      have GZ := Lib.hid (show (vals rs).getD (rs0.length + a) [] = (rs.getD (rs0.length + a) nilRw).zs from vals_getD rs _)
      have o0 := OW.out.cell
      rw [htv] at q0 hneg
      rw [hpv] at q1
      have b8 : (tv == -1) = false := by simp; omega
      have nb : ¬ tv = -1 := by omega
      have w3 : (0 : Int) ≤ (a : Int) + (rs0.length : Int) := by omega
      have w4 : (a : Int) + (rs0.length : Int) < (rs.length : Int) := by omega
      have w6 : (0 : Int) ≤ (f : Int) := by omega
      have w7 : (f : Int) < 4 := by omega
      have w2 : ((a : Int) + (rs0.length : Int)).toNat = rs0.length + a := by omega
      have w1 : IntKind.i64.wrap ((a : Int) + (rs0.length : Int)) = (a : Int) + (rs0.length : Int) := IntWalk.i64_in _ (by omega)
      have w5 : IntKind.i64.wrap (tv + (rs0.length : Int)) = tv + (rs0.length : Int) := IntWalk.i64_in _ (by have := TB.out; omega)
      clear hset hz8 hlen2 htv hpv DB
      gi_wp2
      refine wpIn_region_M (fun Y : World => (Y.cell? ⟨w.heap.size, 0, none⟩ = some (.pointer (some ⟨bb, 0, none⟩)) ∧ Y.cell? ⟨w.heap.size + 2, 0, none⟩ = some (.int .i64 rs0.length)) ∧ Y.cell? ⟨bb, 0, none⟩ = some (.slice (some ⟨g, 0, none⟩) rs.length c') ∧ Y.cell? ⟨g, rs0.length + a, none⟩ = some (.slice (some ⟨gr, o, none⟩) 4 cr) ∧ (Y.cell? ⟨Bx, 0, none⟩ = some (.int .i64 a) ∧ Y.cell? ⟨Bx, 1, none⟩ = some (.int .i64 f)) ∧ Y.cell? ⟨Bx + 1, 0, none⟩ = some (.int .i64 tv) ∧ Y.cell? ⟨Bx + 1, 1, none⟩ = some (.int .i64 pv)) [0, 1, 2, 3, 4, 5, 6, 7, 8, 9, 10, 11, 12, 13, 14, 15, 16, 17, 18, 19] (by kernel_rfl) (by kernel_rfl) ?_
      have hS : (fun Y : World => (Y.cell? ⟨w.heap.size, 0, none⟩ = some (.pointer (some ⟨bb, 0, none⟩)) ∧ Y.cell? ⟨w.heap.size + 2, 0, none⟩ = some (.int .i64 rs0.length)) ∧ Y.cell? ⟨bb, 0, none⟩ = some (.slice (some ⟨g, 0, none⟩) rs.length c') ∧ Y.cell? ⟨g, rs0.length + a, none⟩ = some (.slice (some ⟨gr, o, none⟩) 4 cr) ∧ (Y.cell? ⟨Bx, 0, none⟩ = some (.int .i64 a) ∧ Y.cell? ⟨Bx, 1, none⟩ = some (.int .i64 f)) ∧ Y.cell? ⟨Bx + 1, 0, none⟩ = some (.int .i64 tv) ∧ Y.cell? ⟨Bx + 1, 1, none⟩ = some (.int .i64 pv)) W.drew := ⟨⟨b0, b2⟩, o0, hcr, ⟨m0, m1⟩, q0, q1⟩
      refine wpM_take (i := 0) (oi := { dst := some 24, op := .load _ (.tmp 2), type := _, pos := _, after := _, guard := _ }) (v := ?_) (by kernel_rfl) rfl (by kernel_rfl) (by kernel_rfl) (by kernel_rfl) ?_ hS ?_
      rotate_left
      · intro Y hY
        obtain ⟨⟨y0, y1⟩, y2, y3, ⟨y4, y5⟩, y6, y7⟩ := hY
        go_simp
        try with_reducible rfl
      try simp only [Act.put, List.setIfInBounds_toArray, List.set_cons_zero, List.set_cons_succ]
      refine wpM_take (i := 1) (oi := { dst := some 25, op := .nilCheck (.tmp 24), type := _, pos := _, after := _, guard := _ }) (v := ?_) (by kernel_rfl) rfl (by kernel_rfl) (by kernel_rfl) (by kernel_rfl) ?_ hS ?_
      rotate_left
      · intro Y hY
        obtain ⟨⟨y0, y1⟩, y2, y3, ⟨y4, y5⟩, y6, y7⟩ := hY
        go_simp
        try with_reducible rfl
      try simp only [Act.put, List.setIfInBounds_toArray, List.set_cons_zero, List.set_cons_succ]
      refine wpM_take (i := 2) (oi := { dst := some 26, op := .fieldAddr _ (.tmp 25) 0, type := _, pos := _, after := _, guard := _ }) (v := ?_) (by kernel_rfl) rfl (by kernel_rfl) (by kernel_rfl) (by kernel_rfl) ?_ hS ?_
      rotate_left
      · intro Y hY
        obtain ⟨⟨y0, y1⟩, y2, y3, ⟨y4, y5⟩, y6, y7⟩ := hY
        go_simp
        try with_reducible rfl
      try simp only [Act.put, List.setIfInBounds_toArray, List.set_cons_zero, List.set_cons_succ]
      refine wpM_take (i := 3) (oi := { dst := some 27, op := .load _ (.tmp 26), type := _, pos := _, after := _, guard := _ }) (v := ?_) (by kernel_rfl) rfl (by kernel_rfl) (by kernel_rfl) (by kernel_rfl) ?_ hS ?_
      rotate_left
      · intro Y hY
        obtain ⟨⟨y0, y1⟩, y2, y3, ⟨y4, y5⟩, y6, y7⟩ := hY
        go_simp
        try with_reducible rfl
      try simp only [Act.put, List.setIfInBounds_toArray, List.set_cons_zero, List.set_cons_succ]
      refine wpM_take (i := 4) (oi := { dst := some 28, op := .fieldAddr _ (.tmp 5) 0, type := _, pos := _, after := _, guard := _ }) (v := ?_) (by kernel_rfl) rfl (by kernel_rfl) (by kernel_rfl) (by kernel_rfl) ?_ hS ?_
      rotate_left
      · intro Y hY
        obtain ⟨⟨y0, y1⟩, y2, y3, ⟨y4, y5⟩, y6, y7⟩ := hY
        go_simp
        try with_reducible rfl
      try simp only [Act.put, List.setIfInBounds_toArray, List.set_cons_zero, List.set_cons_succ]
      refine wpM_take (i := 5) (oi := { dst := some 29, op := .load _ (.tmp 28), type := _, pos := _, after := _, guard := _ }) (v := ?_) (by kernel_rfl) rfl (by kernel_rfl) (by kernel_rfl) (by kernel_rfl) ?_ hS ?_
      rotate_left
      · intro Y hY
        obtain ⟨⟨y0, y1⟩, y2, y3, ⟨y4, y5⟩, y6, y7⟩ := hY
        go_simp
        try with_reducible rfl
      try simp only [Act.put, List.setIfInBounds_toArray, List.set_cons_zero, List.set_cons_succ]
      refine wpM_take (i := 6) (oi := { dst := some 30, op := .load _ (.tmp 4), type := _, pos := _, after := _, guard := _ }) (v := ?_) (by kernel_rfl) rfl (by kernel_rfl) (by kernel_rfl) (by kernel_rfl) ?_ hS ?_
      rotate_left
      · intro Y hY
        obtain ⟨⟨y0, y1⟩, y2, y3, ⟨y4, y5⟩, y6, y7⟩ := hY
        go_simp
        try with_reducible rfl
      try simp only [Act.put, List.setIfInBounds_toArray, List.set_cons_zero, List.set_cons_succ]
      refine wpM_take (i := 7) (oi := { dst := some 31, op := .binOp .add _ (.tmp 29) (.tmp 30) _, type := _, pos := _, after := _, guard := _ }) (v := ?_) (by kernel_rfl) rfl (by kernel_rfl) (by kernel_rfl) (by kernel_rfl) ?_ hS ?_
      rotate_left
      · intro Y hY
        obtain ⟨⟨y0, y1⟩, y2, y3, ⟨y4, y5⟩, y6, y7⟩ := hY
        go_simp
        try with_reducible rfl
      try simp only [Act.put, List.setIfInBounds_toArray, List.set_cons_zero, List.set_cons_succ]
      refine wpM_take (i := 8) (oi := { dst := some 32, op := .indexAddr _ (.tmp 27) (.tmp 31), type := _, pos := _, after := _, guard := _ }) (v := ?_) (by kernel_rfl) rfl (by kernel_rfl) (by kernel_rfl) (by kernel_rfl) ?_ hS ?_
      rotate_left
      · intro Y hY
        obtain ⟨⟨y0, y1⟩, y2, y3, ⟨y4, y5⟩, y6, y7⟩ := hY
        go_simp
        try with_reducible rfl
      try simp only [Act.put, List.setIfInBounds_toArray, List.set_cons_zero, List.set_cons_succ]
      refine wpM_take (i := 9) (oi := { dst := some 33, op := .load _ (.tmp 32), type := _, pos := _, after := _, guard := _ }) (v := ?_) (by kernel_rfl) rfl (by kernel_rfl) (by kernel_rfl) (by kernel_rfl) ?_ hS ?_
      rotate_left
      · intro Y hY
        obtain ⟨⟨y0, y1⟩, y2, y3, ⟨y4, y5⟩, y6, y7⟩ := hY
        go_simp
        try with_reducible rfl
      try simp only [Act.put, List.setIfInBounds_toArray, List.set_cons_zero, List.set_cons_succ]
      refine wpM_take (i := 10) (oi := { dst := some 34, op := .fieldAddr _ (.tmp 5) 1, type := _, pos := _, after := _, guard := _ }) (v := ?_) (by kernel_rfl) rfl (by kernel_rfl) (by kernel_rfl) (by kernel_rfl) ?_ hS ?_
      rotate_left
      · intro Y hY
        obtain ⟨⟨y0, y1⟩, y2, y3, ⟨y4, y5⟩, y6, y7⟩ := hY
        go_simp
        try with_reducible rfl
      try simp only [Act.put, List.setIfInBounds_toArray, List.set_cons_zero, List.set_cons_succ]
      refine wpM_take (i := 11) (oi := { dst := some 35, op := .load _ (.tmp 34), type := _, pos := _, after := _, guard := _ }) (v := ?_) (by kernel_rfl) rfl (by kernel_rfl) (by kernel_rfl) (by kernel_rfl) ?_ hS ?_
      rotate_left
      · intro Y hY
        obtain ⟨⟨y0, y1⟩, y2, y3, ⟨y4, y5⟩, y6, y7⟩ := hY
        go_simp
        try with_reducible rfl
      try simp only [Act.put, List.setIfInBounds_toArray, List.set_cons_zero, List.set_cons_succ]
      refine wpM_take (i := 12) (oi := { dst := some 36, op := .fieldAddr _ (.tmp 6) 0, type := _, pos := _, after := _, guard := _ }) (v := ?_) (by kernel_rfl) rfl (by kernel_rfl) (by kernel_rfl) (by kernel_rfl) ?_ hS ?_
      rotate_left
      · intro Y hY
        obtain ⟨⟨y0, y1⟩, y2, y3, ⟨y4, y5⟩, y6, y7⟩ := hY
        go_simp
        try with_reducible rfl
      try simp only [Act.put, List.setIfInBounds_toArray, List.set_cons_zero, List.set_cons_succ]
      refine wpM_take (i := 13) (oi := { dst := some 37, op := .load _ (.tmp 36), type := _, pos := _, after := _, guard := _ }) (v := ?_) (by kernel_rfl) rfl (by kernel_rfl) (by kernel_rfl) (by kernel_rfl) ?_ hS ?_
      rotate_left
      · intro Y hY
        obtain ⟨⟨y0, y1⟩, y2, y3, ⟨y4, y5⟩, y6, y7⟩ := hY
        go_simp
        try with_reducible rfl
      try simp only [Act.put, List.setIfInBounds_toArray, List.set_cons_zero, List.set_cons_succ]
      refine wpM_take (i := 14) (oi := { dst := some 38, op := .load _ (.tmp 4), type := _, pos := _, after := _, guard := _ }) (v := ?_) (by kernel_rfl) rfl (by kernel_rfl) (by kernel_rfl) (by kernel_rfl) ?_ hS ?_
      rotate_left
      · intro Y hY
        obtain ⟨⟨y0, y1⟩, y2, y3, ⟨y4, y5⟩, y6, y7⟩ := hY
        go_simp
        try with_reducible rfl
      try simp only [Act.put, List.setIfInBounds_toArray, List.set_cons_zero, List.set_cons_succ]
      refine wpM_take (i := 15) (oi := { dst := some 39, op := .binOp .add _ (.tmp 37) (.tmp 38) _, type := _, pos := _, after := _, guard := _ }) (v := ?_) (by kernel_rfl) rfl (by kernel_rfl) (by kernel_rfl) (by kernel_rfl) ?_ hS ?_
      rotate_left
      · intro Y hY
        obtain ⟨⟨y0, y1⟩, y2, y3, ⟨y4, y5⟩, y6, y7⟩ := hY
        go_simp
        try with_reducible rfl
      try simp only [Act.put, List.setIfInBounds_toArray, List.set_cons_zero, List.set_cons_succ]
      refine wpM_take (i := 16) (oi := { dst := some 40, op := .fieldAddr _ (.tmp 6) 1, type := _, pos := _, after := _, guard := _ }) (v := ?_) (by kernel_rfl) rfl (by kernel_rfl) (by kernel_rfl) (by kernel_rfl) ?_ hS ?_
      rotate_left
      · intro Y hY
        obtain ⟨⟨y0, y1⟩, y2, y3, ⟨y4, y5⟩, y6, y7⟩ := hY
        go_simp
        try with_reducible rfl
      try simp only [Act.put, List.setIfInBounds_toArray, List.set_cons_zero, List.set_cons_succ]
      refine wpM_take (i := 17) (oi := { dst := some 41, op := .load _ (.tmp 40), type := _, pos := _, after := _, guard := _ }) (v := ?_) (by kernel_rfl) rfl (by kernel_rfl) (by kernel_rfl) (by kernel_rfl) ?_ hS ?_
      rotate_left
      · intro Y hY
        obtain ⟨⟨y0, y1⟩, y2, y3, ⟨y4, y5⟩, y6, y7⟩ := hY
        go_simp
        try with_reducible rfl
      try simp only [Act.put, List.setIfInBounds_toArray, List.set_cons_zero, List.set_cons_succ]
      refine wpM_take (i := 18) (oi := { dst := some 42, op := .build _ #[(0, .tmp 39), (1, .tmp 41)], type := _, pos := _, after := _, guard := _ }) (v := ?_) (by kernel_rfl) rfl (by kernel_rfl) (by kernel_rfl) (by kernel_rfl) ?_ hS ?_
      rotate_left
      · intro Y hY
        obtain ⟨⟨y0, y1⟩, y2, y3, ⟨y4, y5⟩, y6, y7⟩ := hY
        go_simp
        try with_reducible rfl
      try simp only [Act.put, List.setIfInBounds_toArray, List.set_cons_zero, List.set_cons_succ]
      refine wpM_take (i := 19) (oi := { dst := some 43, op := .indexAddr _ (.tmp 33) (.tmp 35), type := _, pos := _, after := _, guard := _ }) (v := ?_) (by kernel_rfl) rfl (by kernel_rfl) (by kernel_rfl) (by kernel_rfl) ?_ hS ?_
      rotate_left
      · intro Y hY
        obtain ⟨⟨y0, y1⟩, y2, y3, ⟨y4, y5⟩, y6, y7⟩ := hY
        go_simp
        try with_reducible rfl
      try simp only [Act.put, List.setIfInBounds_toArray, List.set_cons_zero, List.set_cons_succ]
      refine wpM_one (j := 20) (o := { dst := none, op := _, type := _, pos := _, after := _, guard := _ }) (by kernel_rfl) rfl ?_
      refine .inr ⟨(W.drew.setCell ⟨gr, o + f * 2, none⟩ (.int .i64 (tv + rs0.length))).setCell ⟨gr, o + f * 2 + 1, none⟩ (.int .i64 pv), ?_, ?_⟩
      · go_simp
      refine ⟨fun h => absurd h (Bool.eq_false_iff.1 (by kernel_rfl)), wpM_done (by kernel_rfl) ?_⟩
      have n0 := NE.out w.heap.size (by omega)
      have n2 := NE.out (w.heap.size + 2) (by omega)
      have hsz : ((W.drew.setCell ⟨gr, o + f * 2, none⟩ (.int .i64 (tv + rs0.length))).setCell ⟨gr, o + f * 2 + 1, none⟩ (.int .i64 pv)).heap.size = W.heap.size := by simp [World.setCell]
      refine ⟨((KeepsOthers.drew _).trans ((KeepsOthers.setCell _ _ _).trans (KeepsOthers.setCell _ _ _))).from _, (((Below.refl bb W).drew).setCell (by dsimp only; omega) _).setCell (by dsimp only; omega) _, ⟨⟨?_, ?_⟩, some ⟨g, 0, none⟩, c', rs.set (rs0.length + a) ⟨some ⟨gr, o, none⟩, cr, ((rs.getD (rs0.length + a) nilRw).zs.set (f * 2) (tv + rs0.length)).set (f * 2 + 1) pv⟩, ⟨?_, ?_, ?_, ?_⟩, ?_, ?_⟩, ((HBW.out.drew).setCell (by dsimp only; omega) _).setCell (by dsimp only; omega) _⟩
      · rw [World.cell?_setCell_other _ _ _ _ (by first | (simp; done) | (simp; omega)), World.cell?_setCell_other _ _ _ _ (by first | (simp; done) | (simp; omega))]; exact b0
      · rw [World.cell?_setCell_other _ _ _ _ (by first | (simp; done) | (simp; omega)), World.cell?_setCell_other _ _ _ _ (by first | (simp; done) | (simp; omega))]; exact b2
      · rw [World.cell?_setCell_other _ _ _ _ (by first | (simp; done) | (simp; omega)), World.cell?_setCell_other _ _ _ _ (by first | (simp; done) | (simp; omega)), List.length_set]; exact o0
      · rw [World.cell?_setCell_other _ _ _ _ (by first | (simp; done) | (simp; omega)), World.cell?_setCell_other _ _ _ _ (by first | (simp; done) | (simp; omega))]; exact OW.out.map
      · rw [World.frozen?_setCell, World.frozen?_setCell]; exact OW.out.free
      · rw [hsz]; exact (SET.out (tv + rs0.length) pv).keep (fun _ _ _ => rfl)
      · intro z hz
        refine ⟨(AW.out z hz).1, fun q hq => ?_⟩
        rcases List.mem_or_eq_of_mem_set hq with hq | rfl
        · exact (AW.out z hz).2 q hq
        · intro u hu _
          cases hu
          exact NE.out z hz
      · rw [SN.out, NX.out, ← VL.out, GZ.out, vals, List.map_set]
        rfl
  case done =>
    rintro D W hD ⟨⟨⟨b0, b2⟩, A', c', rs, hO, hAp, hVl⟩, hB⟩ hK
    have VN := Lib.hid (show vals rs = vals rs0 ++ Tr.shT rs0.length T from by
      have e1 := Tr.cpy_all rs0.length T (vals rs0)
      rw [Go.Proofs.YtajbahfbldmckaaDoor.Fc.vals_len, LN.out] at e1
      rw [hVl]
      exact e1)
    gi_wp2
    have hBD := hB.trans (belowK_b (w := w) (Nat.le_of_lt hlt) W D (.deferred (some [])) (.deferred none) (by omega) hK rfl rfl)
    exact leave2 hK (results_none rfl _ _ _) ⟨rfl, ⟨A', c', rs, hO.grownC (grownBy_putObj' _ D (.deferred none)) (fun r e => by cases e; exact ⟨_, hK, rfl⟩), VN.out⟩, hBD⟩

end Fc
end Go.Proofs.YtajbahfbldmckaaDoor

namespace Go.Proofs.YtajbahfbldmckaaDoor
open Go.RowKit
namespace Fc

set_option maxRecDepth 100000 in
set_option maxHeartbeats 4000000 in
theorem builderOf_impl (A : Option Addr) (n c : Nat) (T : List (List Int)) (w : World) (h : RdT w w.heap.size A n T) (hv : Vs w) (hT : Tr.Is T) :
    Calls Tryd.prog 49 #[.agg #[.slice A n c]] w (NewB w T) := by
  have h0 := hv.pos
  have HT := Lib.hid h
  have h8 : n ≤ 8 := by rw [← h.len]; exact hT.1
  obtain ⟨U, hU⟩ : ∃ U, U = w.alloc (Obj.cells #[.slice A n c] 28) := ⟨_, rfl⟩
  have hB : Below w.heap.size w U := by rw [hU]; exact al1 _ _
  have z : w.heap.size < U.heap.size := by rw [hU]; simp
  have k0 : U.cell? ⟨w.heap.size, 0, none⟩ = some (.slice A n c) := by rw [hU]; simp [go_sem]
  have DU := Lib.hid hB
  have VU := Lib.hid (hv.below hB h0.1)
  clear h hv hB
  go_enter Tryd.func49, Tryd.ntmps49
  go_wp2_with fail
  rw [← hU]
  clear hU
  refine (newBuilder_impl 0 U VU.out (by omega)).mono ?_
  rintro e w1 ⟨bb, mb, A1, c1, rs1, rfl, ⟨g1, g2⟩, hB1, hV1, hM1, hb1⟩
  have k0 := (hb1.cell (p := ⟨w.heap.size, 0, none⟩) (by dsimp only; omega)).trans k0
  have D1 := Lib.hid (DU.out.trans (hb1.mono (by omega)))
  have R1 := Lib.hid ((HT.out.below D1.out).more (show w.heap.size ≤ bb by omega))
  have V1 := Lib.hid (VU.out.below hb1 (by omega))
  have M1 := Lib.hid hM1
  obtain rfl : rs1 = [] := by cases rs1 with | nil => rfl | cons r rs => simp [vals] at hV1
  have AT := Lib.hid (addTri_impl bb mb n c A T A1 c1 [] w1 R1.out hB1 V1.out (by omega) hT (by simp; omega))
  have z1 : bb < w1.heap.size := hB1.lt
  clear hM1 hb1 hB1 hV1
  go_wp2_with fail
  refine AT.out.mono ?_
  rintro e w2 ⟨rfl, ⟨A', c', rs', hB2, hv2⟩, hb2⟩
  have B2 := Lib.hid hB2
  have V2 := Lib.hid (show vals rs' = T from by rw [hv2]; exact (congrArg _ (Tr.shT_zero hT)).trans rfl)
  have M2 := Lib.hid (owns_below M1.out hb2 g2)
  have D2 := Lib.hid (D1.out.trans (hb2.mono (by omega)))
  clear hB2 hv2 hb2
  go_wp2
  go_ret
  exact ⟨bb, mb, A', c', rs', rfl, ⟨by omega, g2⟩, B2.out, V2.out, M2.out, D2.out⟩

set_option maxRecDepth 100000 in
theorem triang_impl (bb mb : Nat) (A : Option Addr) (c : Nat) (rs : List Rw) (w : World) (h : Bld w bb mb A c rs) :
    Calls Tryd.prog 51 #[.pointer (some ⟨bb, 0, none⟩)] w fun e w' => e = .returned (.agg #[.slice A rs.length c]) ∧ Below w.heap.size w w' := by
  have hc := h.cell
  have hl := h.lt
  clear h
  go_enter Tryd.func51, Tryd.ntmps51
  go_wp2
  refine bodyPost_ret (v := .agg #[.slice A rs.length c]) (by simp [results, Tryd.results51, go_sem]) rfl ?_
  exact ⟨rfl, al1 _ _⟩

set_option maxRecDepth 100000 in
set_option maxHeartbeats 8000000 in
theorem addTet_impl (A : Option Addr) (n c : Nat) (T : List (List Int)) (w : World) (h : RdT w w.heap.size A n T) (hv : Vs w) (hn : n ≤ 1048576) :
    Calls Tryd.prog 16 #[.agg #[.slice A n c]] w (ResTC w (Tr.addT T) (Tr.addC T)) := by
  have h0 := hv.pos
  have LN := Lib.hid h.len
  have HT := Lib.hid h
  have HV := Lib.hid hv
  clear h hv
  obtain ⟨U, hU⟩ : ∃ U, U = (w.alloc (Obj.cells #[.slice A n c] 28)).alloc (Obj.cells #[.slice none 0 0] 28) := ⟨_, rfl⟩
  have hB : Below w.heap.size w U := by rw [hU]; exact al2 w _ _
  have z : U.heap.size = w.heap.size + 2 := by rw [hU]; simp
  have k0 : U.cell? ⟨w.heap.size, 0, none⟩ = some (.slice A n c) := by rw [hU]; simp [go_sem]
  have k1 : U.cell? ⟨w.heap.size + 1, 0, none⟩ = some (.slice none 0 0) := by rw [hU]; simp [go_sem]
  have f1 : U.frozen? ⟨w.heap.size + 1, 0, none⟩ = false := by rw [hU]; simp [go_sem]
  have DU := Lib.hid hB
  have TI := Lib.hid (isTri_implT A n c T U (HT.out.into hB) (HV.out.below hB h0.1) hn)
  clear hB
  go_enter Tryd.func16, Tryd.ntmps16
  go_upto_region 1 with fail
  rw [← hU]
  clear hU
  go_wp2_with fail
  refine TI.out.mono ?_
  rintro e w1 ⟨rfl, hb⟩
  have k0 := (hb.cell (p := ⟨w.heap.size, 0, none⟩) (by dsimp only; omega)).trans k0
  have k1 := (hb.cell (p := ⟨w.heap.size + 1, 0, none⟩) (by dsimp only; omega)).trans k1
  have f1 := (hb.frozen (p := ⟨w.heap.size + 1, 0, none⟩) (by dsimp only; omega)).trans f1
  have z1 : U.heap.size ≤ w1.heap.size := hb.size
  have D1 := Lib.hid (DU.out.trans (hb.mono (by omega)))
  clear hb TI DU
  by_cases hok : Tr.Is T
  case neg =>
    rw [decide_eq_false hok]
    have R := Lib.hid (show Tr.addT T = [] ∧ Tr.addC T = 1 from by unfold Tr.addT Tr.addC; rw [if_neg (fun e => hok e.1), if_neg hok]; exact ⟨rfl, rfl⟩)
    clear hok
    go_wp2
    refine bodyPost_ret (v := .tuple #[.agg #[.slice none 0 0], .int .i64 1]) (by simp [results, Tryd.results16, k1, go_sem]) rfl ?_
    rw [R.out.1, R.out.2]
    exact ⟨none, 0, [], rfl, OwnS.nil _ _ _, rfl, D1.out.setCell (by dsimp only; omega) _⟩
  rw [decide_eq_true hok]
  have h8 : n ≤ 8 := by rw [← LN.out]; exact hok.1
  by_cases he : n = 8
  · have R := Lib.hid (show Tr.addT T = [] ∧ Tr.addC T = 3 from by unfold Tr.addT Tr.addC; rw [if_neg (fun e => e.2 (by rw [LN.out]; exact he)), if_pos hok, if_pos (by rw [LN.out]; exact he)]; exact ⟨rfl, rfl⟩)
    subst he
    clear hok
    go_wp2
    refine bodyPost_ret (v := .tuple #[.agg #[.slice none 0 0], .int .i64 3]) (by simp [results, Tryd.results16, k1, go_sem]) rfl ?_
    rw [R.out.1, R.out.2]
    exact ⟨none, 0, [], rfl, OwnS.nil _ _ _, rfl, D1.out.setCell (by dsimp only; omega) _⟩
  have R := Lib.hid (show Tr.addT T = T ++ [fr] ∧ Tr.addC T = 0 from by unfold Tr.addT Tr.addC; rw [if_pos ⟨hok, fun e => he (by rw [← LN.out]; exact e)⟩, if_pos hok, if_neg (fun e => he (by rw [← LN.out]; exact e))]; exact ⟨rfl, rfl⟩)
  have i1 : ¬ (n : Int) = 8 := by omega
  have b1 : ((n : Int) == 8) = false := by simpa using i1
  have BO := Lib.hid (builderOf_impl A n c T w1 (HT.out.into D1.out) (HV.out.below D1.out h0.1) hok)
  clear hok
  go_wp2_with fail
  refine BO.out.mono ?_
  rintro e w2 ⟨bb, mb, A1, c1, rs1, rfl, ⟨g1, g2⟩, hB2, hV2, _, hb2⟩
  have k1 := (hb2.cell (p := ⟨w.heap.size + 1, 0, none⟩) (by dsimp only; omega)).trans k1
  have f1 := (hb2.frozen (p := ⟨w.heap.size + 1, 0, none⟩) (by dsimp only; omega)).trans f1
  have D2 := Lib.hid (D1.out.trans (hb2.mono (by omega)))
  have l2 : rs1.length ≤ 8 := by rw [← Fc.vals_len, hV2, LN.out]; exact h8
  have V2 := Lib.hid hV2
  have z2 : w1.heap.size ≤ w2.heap.size := hb2.size
  have AT := Lib.hid (addTets_impl bb mb 1 A1 c1 rs1 w2 hB2 (HV.out.below D2.out h0.1) (by omega) (by omega) (fun _ => False) (fun _ h => h.elim) (fun _ h => h.elim))
  clear hB2 hV2 hb2 BO
  go_wp2_with fail
  refine AT.out.mono ?_
  rintro e w3 ⟨rfl, ⟨A3, c3, rs3, hB3, hV3, _, _⟩, hb3⟩
  have k1 := (hb3.cell (p := ⟨w.heap.size + 1, 0, none⟩) (by dsimp only; omega)).trans k1
  have f1 := (hb3.frozen (p := ⟨w.heap.size + 1, 0, none⟩) (by dsimp only; omega)).trans f1
  have D3 := Lib.hid (D2.out.trans (hb3.mono (by omega)))
  have B3 := Lib.hid hB3
  have V3 := Lib.hid (show vals rs3 = T ++ [fr] from by rw [hV3, V2.out]; rfl)
  have z3 : w2.heap.size ≤ w3.heap.size := hb3.size
  clear hB3 hV3 hb3 AT
  go_wp2_with fail
  refine (triang_impl bb mb A3 c3 rs3 w3 B3.out).mono ?_
  rintro e w4 ⟨rfl, hb4⟩
  have k1 := (hb4.cell (p := ⟨w.heap.size + 1, 0, none⟩) (by dsimp only; omega)).trans k1
  have f1 := (hb4.frozen (p := ⟨w.heap.size + 1, 0, none⟩) (by dsimp only; omega)).trans f1
  have D4 := Lib.hid (D3.out.trans (hb4.mono (by omega)))
  have B4 := Lib.hid (B3.out.below hb4)
  clear hb4
  go_wp2
  refine bodyPost_ret (v := .tuple #[.agg #[.slice A3 rs3.length c3], .int .i64 0]) (by simp [results, Tryd.results16, k1, go_sem]) rfl ?_
  rw [R.out.1, R.out.2]
  exact ⟨A3, c3, rs3, rfl, (B4.out.own.far (p := ⟨w.heap.size + 1, 0, none⟩) (.inl (by dsimp only; omega)) _).wide (by omega) (by simp [World.setCell]), V3.out, D4.out.setCell (by dsimp only; omega) _⟩

end Fc
end Go.Proofs.YtajbahfbldmckaaDoor

namespace Go.Proofs.YtajbahfbldmckaaDoor
open Go.RowKit Go.Shelf
/-- The face f of the tetrahedron a says t and p. -/
def Tr.setF (T : List (List Int)) (a f : Nat) (t p : Int) : List (List Int) := T.set a (((T.getD a []).set (f * 2) t).set (f * 2 + 1) p)
theorem Tr.setF_len (T : List (List Int)) (a f : Nat) (t p : Int) : (Tr.setF T a f t p).length = T.length := by simp [Tr.setF]
theorem Tr.setF_row (T : List (List Int)) (a f : Nat) (t p : Int) (j : Nat) : ((Tr.setF T a f t p).getD j []).length = (T.getD j []).length := by
  unfold Tr.setF
  rw [Tr.getD_set_list]
  split
  · rename_i h
    rw [List.length_set, List.length_set, h.1]
  · rfl
theorem Tr.setF_four {T : List (List Int)} (h : Tr.Four T) (a f : Nat) (t p : Int) : Tr.Four (Tr.setF T a f t p) := fun j hj => by
  rw [Tr.setF_row]
  exact h j (by rwa [Tr.setF_len] at hj)
namespace Fc
theorem vals_setF (rs : List Rw) (j f : Nat) (t p : Int) (A : Option Addr) (c : Nat) : vals (rs.set j ⟨A, c, ((rs.getD j nilRw).zs.set (f * 2) t).set (f * 2 + 1) p⟩) = Tr.setF (vals rs) j f t p := by
  unfold Tr.setF
  rw [vals_getD]
  unfold vals
  rw [List.map_set]
theorem four_row {rs : List Rw} (h : Tr.Four (vals rs)) {j : Nat} (hj : j < rs.length) : (rs.getD j nilRw).zs.length = 8 := by
  have := h j (by rw [vals_len]; exact hj)
  rwa [vals_getD] at this
/-- The same, where the row's place is known. -/
theorem OwnS.setFaceAt {w : World} {lo hi c : Nat} {A : Option Addr} {rs : List Rw} (h : OwnS w lo hi A c rs) (hhi : hi ≤ w.heap.size) {j f : Nat} (hj : j < rs.length) (h8 : (rs.getD j nilRw).zs.length = 8) (hf : f < 4) {g gr o cr : Nat} (hA : A = some ⟨g, 0, none⟩) (hc : w.cell? ⟨g, j, none⟩ = some (.slice (some ⟨gr, o, none⟩) 4 cr)) (t p : Int) :
    OwnS ((w.setCell ⟨gr, o + f * 2, none⟩ (.int .i64 t)).setCell ⟨gr, o + f * 2 + 1, none⟩ (.int .i64 p)) lo hi A c (rs.set j ⟨some ⟨gr, o, none⟩, cr, ((rs.getD j nilRw).zs.set (f * 2) t).set (f * 2 + 1) p⟩) := by
  obtain ⟨g', gr', o', cr', _, eA, _, hc', _, _, _, _, hset⟩ := h.setFace hhi hj h8 hf
  rw [hA] at eA
  injection eA with eA
  injection eA with eA
  subst eA
  rw [hc] at hc'
  injection hc' with hc'
  injection hc' with e1 e2 e3
  injection e1 with e1
  injection e1 with e1 e4
  subst e1
  subst e4
  subst e3
  exact hset t p
/-- The builder, its rows below hi. -/
structure BldH (w : World) (bb mb hi : Nat) (A : Option Addr) (c : Nat) (rs : List Rw) : Prop where
  cell : w.cell? ⟨bb, 0, none⟩ = some (.slice A rs.length c)
  map : w.cell? ⟨bb, 1, none⟩ = some (.map (some mb))
  free : w.frozen? ⟨bb, 0, none⟩ = false
  own : OwnS w (bb + 1) hi A c rs
  top : bb < hi ∧ hi ≤ w.heap.size
theorem Bld.hold {w U : World} {bb mb c : Nat} {A : Option Addr} {rs : List Rw} (h : Bld w bb mb A c rs) (hB : Below w.heap.size w U) : BldH U bb mb w.heap.size A c rs :=
  ⟨(hB.cell (p := ⟨bb, 0, none⟩) h.lt).trans h.cell, (hB.cell (p := ⟨bb, 1, none⟩) h.lt).trans h.map, (hB.frozen (p := ⟨bb, 0, none⟩) h.lt).trans h.free, h.own.below hB (Nat.le_refl _), h.lt, hB.size⟩
theorem BldH.bld {w : World} {bb mb hi c : Nat} {A : Option Addr} {rs : List Rw} (h : BldH w bb mb hi A c rs) : Bld w bb mb A c rs := ⟨h.cell, h.map, h.free, h.own.wide (Nat.le_refl _) h.top.2⟩
theorem BldH.drew {w : World} {bb mb hi c : Nat} {A : Option Addr} {rs : List Rw} (h : BldH w bb mb hi A c rs) : BldH w.drew bb mb hi A c rs := ⟨h.cell, h.map, h.free, h.own.keep fun _ _ _ => rfl, h.top⟩
theorem BldH.below {w U : World} {bb mb hi c : Nat} {A : Option Addr} {rs : List Rw} (h : BldH w bb mb hi A c rs) (hB : Below w.heap.size w U) : BldH U bb mb hi A c rs :=
  have h1 := h.top
  ⟨(hB.cell (p := ⟨bb, 0, none⟩) (by dsimp only; omega)).trans h.cell, (hB.cell (p := ⟨bb, 1, none⟩) (by dsimp only; omega)).trans h.map, (hB.frozen (p := ⟨bb, 0, none⟩) (by dsimp only; omega)).trans h.free, h.own.below hB h1.2, h1.1, Nat.le_trans h1.2 hB.size⟩
/-- A face written into the builder's table. -/
theorem BldH.setFace {w : World} {bb mb hi c : Nat} {A : Option Addr} {rs : List Rw} (h : BldH w bb mb hi A c rs) {j f : Nat} (hj : j < rs.length) (h4 : Tr.Four (vals rs)) (hf : f < 4) :
    ∃ g gr o cr, A = some ⟨g, 0, none⟩ ∧ (bb < g ∧ g < hi) ∧ w.cell? ⟨g, j, none⟩ = some (.slice (some ⟨gr, o, none⟩) 4 cr) ∧ (bb < gr ∧ gr < hi) ∧ gr ≠ g ∧ (4 ≤ cr ∧ cr ≤ maxLen) ∧
      ((∃ u, w.cell? ⟨gr, o + f * 2, none⟩ = some (.int .i64 u)) ∧ (∃ u, w.cell? ⟨gr, o + f * 2 + 1, none⟩ = some (.int .i64 u)) ∧ w.frozen? ⟨gr, o + f * 2, none⟩ = false ∧ w.frozen? ⟨gr, o + f * 2 + 1, none⟩ = false) ∧
      ∀ t p : Int, ∃ rs', rs'.length = rs.length ∧ BldH ((w.setCell ⟨gr, o + f * 2, none⟩ (.int .i64 t)).setCell ⟨gr, o + f * 2 + 1, none⟩ (.int .i64 p)) bb mb hi A c rs' ∧ vals rs' = Tr.setF (vals rs) j f t p := by
  obtain ⟨g, gr, o, cr, _, eA, hg, hc, hgr, hne, hcap, hu, hset⟩ := h.own.setFace h.top.2 hj (four_row h4 hj) hf
  refine ⟨g, gr, o, cr, eA, ⟨by omega, hg.2⟩, hc, ⟨by omega, hgr.2⟩, hne, hcap, hu, fun t p => ⟨rs.set j ⟨some ⟨gr, o, none⟩, cr, ((rs.getD j nilRw).zs.set (f * 2) t).set (f * 2 + 1) p⟩, List.length_set .., ⟨?_, ?_, ?_, ?_, ?_⟩, vals_setF rs j f t p _ _⟩⟩
  · rw [World.cell?_setCell_other _ _ _ _ (by first | (simp; done) | (simp; omega)), World.cell?_setCell_other _ _ _ _ (by first | (simp; done) | (simp; omega)), List.length_set]; exact h.cell
  · rw [World.cell?_setCell_other _ _ _ _ (by first | (simp; done) | (simp; omega)), World.cell?_setCell_other _ _ _ _ (by first | (simp; done) | (simp; omega))]; exact h.map
  · rw [World.frozen?_setCell, World.frozen?_setCell]; exact h.free
  · exact hset t p
  · have := h.top; simpa [World.setCell] using this
theorem cell_two {w : World} {p q r : Addr} {u v x : Value} (h : w.cell? r = some x) (hp : p.block ≠ r.block) (hq : q.block ≠ r.block) : ((w.setCell p u).setCell q v).cell? r = some x := by
  rw [World.cell?_setCell_other _ _ _ _ (by intro e; subst e; exact hq rfl), World.cell?_setCell_other _ _ _ _ (by intro e; subst e; exact hp rfl)]; exact h

set_option maxRecDepth 100000 in
set_option maxHeartbeats 4000000 in
theorem unglue_impl (bb mb : Nat) (A : Option Addr) (c : Nat) (rs : List Rw) (a f b g : Nat) (x0 x1 x2 x3 : Int) (w : World) (h : Bld w bb mb A c rs) (hv : Vs w) (hb1 : 3 < bb) (h4 : Tr.Four (vals rs)) (ha : a < rs.length) (hf : f < 4) (hb : b < rs.length) (hg : g < 4) :
    Calls Tryd.prog 65 #[.pointer (some ⟨bb, 0, none⟩), .agg #[.int .i64 (a : Int), .int .i64 (f : Int), .int .i64 (b : Int), .int .i64 (g : Int), .int .u8 x0, .int .u8 x1, .int .u8 x2, .int .u8 x3]] w fun e w' => e = .returned (.tuple #[]) ∧ (∃ A' c' rs', Bld w' bb mb A' c' rs' ∧ vals rs' = Tr.setF (Tr.setF (vals rs) a f (-1) 0) b g (-1) 0) ∧ Below bb w w' := by
  obtain ⟨U, hU⟩ : ∃ U, U = w.alloc (Obj.cells #[.int .i64 (a : Int), .int .i64 (f : Int), .int .i64 (b : Int), .int .i64 (g : Int), .int .u8 x0, .int .u8 x1, .int .u8 x2, .int .u8 x3] 80) := ⟨_, rfl⟩
  have hB : Below w.heap.size w U := by rw [hU]; exact al1 w _
  have z : w.heap.size < U.heap.size := by rw [hU]; simp
  have q0 : U.cell? ⟨w.heap.size, 0, none⟩ = some (.int .i64 (a : Int)) := by rw [hU]; simp [go_sem]
  have q1 : U.cell? ⟨w.heap.size, 1, none⟩ = some (.int .i64 (f : Int)) := by rw [hU]; simp [go_sem]
  have q2 : U.cell? ⟨w.heap.size, 2, none⟩ = some (.int .i64 (b : Int)) := by rw [hU]; simp [go_sem]
  have q3 : U.cell? ⟨w.heap.size, 3, none⟩ = some (.int .i64 (g : Int)) := by rw [hU]; simp [go_sem]
  have hbb := h.lt
  have BU := Lib.hid (h.hold hB)
  have VU := Lib.hid (hv.below hB hv.pos.1)
  have DU := Lib.hid (hB.mono (Nat.le_of_lt hbb))
  have VP := hv.pos
  have ia0 : (0 : Int) ≤ (a : Int) := by omega
  have ia1 : (a : Int) < (rs.length : Int) := by omega
  have if0 : (0 : Int) ≤ (f : Int) := by omega
  have if1 : (f : Int) < 4 := by omega
  have ib0 : (0 : Int) ≤ (b : Int) := by omega
  have ib1 : (b : Int) < (rs.length : Int) := by omega
  have ig0 : (0 : Int) ≤ (g : Int) := by omega
  have ig1 : (g : Int) < 4 := by omega
  clear h hv hB
  go_enter Tryd.func65, Tryd.ntmps65
  go_upto_region 1 with fail
  rw [← hU]
  clear hU
  obtain ⟨g1, gr, o, cr, rfl, hg1, hc, hgr, hne, hcap, _, _⟩ := BU.out.setFace (j := a) (f := f) ha h4 hf
  have o0 := BU.out.cell
  obtain ⟨v0, v1⟩ := VU.out.2
  go_still_tail 14, (by kernel_rfl)
  change wpList _ _ _ _ _ U.drew
  have q0' := q0
  have BV := Lib.hid BU.out.drew
  have VV := Lib.hid (show Vs U.drew from VU.out)
  have DV := Lib.hid DU.out.drew
  obtain ⟨V, hV⟩ : ∃ V, V = U.drew := ⟨_, rfl⟩
  have sV : V.heap.size = U.heap.size := by rw [hV]; rfl
  have q2 : V.cell? ⟨w.heap.size, 2, none⟩ = some (.int .i64 (b : Int)) := by rw [hV]; exact q2
  have q3 : V.cell? ⟨w.heap.size, 3, none⟩ = some (.int .i64 (g : Int)) := by rw [hV]; exact q3
  have hcV : V.cell? ⟨g1, a, none⟩ = some (.slice (some ⟨gr, o, none⟩) 4 cr) := by rw [hV]; exact hc
  rw [← hV] at BV VV DV
  rw [← hV]
  clear hV q0 q1 q0' o0 v0 v1 hc BU VU DU
  obtain ⟨g1', gr', o', cr', eA, _, hc', _, _, _, ⟨⟨u0, hu0⟩, ⟨u1, hu1⟩, hf0, hf1⟩, hset⟩ := BV.out.setFace (j := a) (f := f) ha h4 hf
  injection eA with eA
  injection eA with eA
  subst eA
  rw [hcV] at hc'
  injection hc' with hc'
  injection hc' with e1 e2 e3
  injection e1 with e1
  injection e1 with e1 e4
  subst e1
  subst e4
  obtain ⟨rs1, hl1, hB1, hv1⟩ := hset (-1) 0
  have B1 := Lib.hid hB1
  have V1 := Lib.hid hv1
  have L1 := Lib.hid hl1
  clear hset hB1 hv1 hl1 hcV
  go_upto_region 2 with fail
  obtain ⟨W, hW⟩ : ∃ W, W = (V.setCell ⟨gr, o + f * 2, none⟩ (.int .i64 (-1))).setCell ⟨gr, o + f * 2 + 1, none⟩ (.int .i64 0) := ⟨_, rfl⟩
  have q2 : W.cell? ⟨w.heap.size, 2, none⟩ = some (.int .i64 (b : Int)) := by rw [hW]; exact cell_two q2 (by dsimp only; omega) (by dsimp only; omega)
  have q3 : W.cell? ⟨w.heap.size, 3, none⟩ = some (.int .i64 (g : Int)) := by rw [hW]; exact cell_two q3 (by dsimp only; omega) (by dsimp only; omega)
  have DW := Lib.hid (show Below bb w W from by rw [hW]; exact (DV.out.setCell (by dsimp only; omega) _).setCell (by dsimp only; omega) _)
  have VW := Lib.hid (show Vs W from by rw [hW]; exact VV.out.below (((Below.refl bb V).setCell (by dsimp only; omega) _).setCell (by dsimp only; omega) _) hb1)
  rw [← hW] at B1
  rw [← hW]
  clear hW BV VV DV hu0 hu1 hf0 hf1 hgr hg1 hne hcap sV
  have h41 : Tr.Four (vals rs1) := by rw [V1.out]; exact Tr.setF_four h4 _ _ _ _
  have ll1 := L1.out
  obtain ⟨g1, gr, o, cr, eA, hg1, hc, hgr, hne, hcap, _, _⟩ := B1.out.setFace (j := b) (f := g) (by omega) h41 hg
  injection eA with eA
  injection eA with eA
  subst eA
  have o0 := B1.out.cell
  obtain ⟨v0, v1⟩ := VW.out.2
  rw [ll1] at o0
  clear ll1
  go_still_tail 14, (by kernel_rfl)
  change wpList _ _ _ _ _ W.drew
  have BV := Lib.hid B1.out.drew
  have DV := Lib.hid DW.out.drew
  obtain ⟨X, hX⟩ : ∃ X, X = W.drew := ⟨_, rfl⟩
  have hcV := (show X.cell? _ = W.cell? _ from by rw [hX]; rfl).trans hc
  rw [← hX] at BV DV
  rw [← hX]
  clear hX q2 q3 o0 v0 v1 hc B1 VW DW
  obtain ⟨g1', gr', o', cr', eA, _, hc', _, _, _, ⟨⟨u0, hu0⟩, ⟨u1, hu1⟩, hf0, hf1⟩, hset⟩ := BV.out.setFace (j := b) (f := g) (by have := L1.out; omega) h41 hg
  injection eA with eA
  injection eA with eA
  subst eA
  rw [hcV] at hc'
  injection hc' with hc'
  injection hc' with e1 e2 e3
  injection e1 with e1
  injection e1 with e1 e4
  subst e1
  subst e4
  obtain ⟨rs2, hl2, hB2, hv2⟩ := hset (-1) 0
  have B2 := Lib.hid hB2
  have V2 := Lib.hid hv2
  clear hset hB2 hv2 hcV
  go_wp2
  refine bodyPost_end (results_none rfl _ _ _) rfl ?_
  exact ⟨rfl, ⟨_, _, rs2, B2.out.bld, by rw [V2.out, V1.out]⟩, (DV.out.setCell (by dsimp only; omega) _).setCell (by dsimp only; omega) _⟩
end Fc
end Go.Proofs.YtajbahfbldmckaaDoor

namespace Go.Proofs.YtajbahfbldmckaaDoor
open Go.RowKit Go.Shelf
namespace Tr
/-- A row of which m faces have been increased. -/
def ptO (s : Int) (T : List (List Int)) (a m : Nat) : List Int := (List.range 8).map fun j => if j < m * 2 ∧ ¬ tt T a (j / 2) < 0 then (if j % 2 = 0 then tt T a (j / 2) + s else pp T a (j / 2)) else (T.getD a []).getD j 0
theorem ptO_len (s : Int) (T : List (List Int)) (a m : Nat) : (ptO s T a m).length = 8 := by simp [ptO]
theorem ptO_zero (s : Int) (T : List (List Int)) (a : Nat) (h : (T.getD a []).length = 8) : ptO s T a 0 = T.getD a [] := by
  unfold ptO
  obtain ⟨l, hl⟩ : ∃ l, T.getD a [] = l := ⟨_, rfl⟩
  rw [hl] at h ⊢
  refine List.ext_getElem (by simp [h]) fun j h1 h2 => ?_
  simp only [List.getElem_map, List.getElem_range, Nat.zero_mul, Nat.not_lt_zero, false_and, if_false]
  rw [List.getD_eq_getElem?_getD, List.getElem?_eq_getElem h2]
  rfl
theorem ptO_neg {s : Int} {T : List (List Int)} {a f : Nat} (h : tt T a f < 0) : ptO s T a (f + 1) = ptO s T a f := by
  unfold ptO
  refine List.map_congr_left fun j _ => ?_
  by_cases e : j / 2 = f
  · rw [e]; simp [h]
  · have : j < (f + 1) * 2 ↔ j < f * 2 := by omega
    simp only [this]
theorem ptO_pos {s : Int} {T : List (List Int)} {a f : Nat} (h : ¬ tt T a f < 0) : ptO s T a (f + 1) = ((ptO s T a f).set (f * 2) (tt T a f + s)).set (f * 2 + 1) (pp T a f) := by
  refine List.ext_getElem (by simp [ptO]) fun j h1 h2 => ?_
  rw [ptO_len] at h1
  rw [List.getElem_set, List.getElem_set]
  by_cases e1 : f * 2 + 1 = j
  · rw [if_pos e1]
    have e2 : j / 2 = f := by omega
    have e3 : j % 2 = 1 := by omega
    simp [ptO, e2, h, e3]
    omega
  · rw [if_neg e1]
    by_cases e4 : f * 2 = j
    · rw [if_pos e4]
      have e2 : j / 2 = f := by omega
      have e3 : j % 2 = 0 := by omega
      simp [ptO, e2, h, e3]
      omega
    · rw [if_neg e4]
      have e5 : j < (f + 1) * 2 ↔ j < f * 2 := by omega
      simp [ptO, e5]
theorem ptO_at (s : Int) (T : List (List Int)) (a f : Nat) (hf : f < 4) : (ptO s T a f).getD (f * 2) 0 = tt T a f ∧ (ptO s T a f).getD (f * 2 + 1) 0 = pp T a f := by
  have key : ∀ j, j < 8 → f * 2 ≤ j → (ptO s T a f).getD j 0 = (T.getD a []).getD j 0 := fun j hj hm => by
    rw [List.getD_eq_getElem?_getD, List.getElem?_eq_getElem (by rw [ptO_len]; exact hj)]
    simp [ptO]
    omega
  exact ⟨key _ (by omega) (Nat.le_refl _), key _ (by omega) (by omega)⟩
theorem ptO_four {s : Int} {T : List (List Int)} {a : Nat} (h : Is T) (ha : a < T.length) : ptO s T a 4 = ptR s T a 4 := by
  unfold ptO ptR
  refine List.map_congr_left fun j hj => ?_
  have hj8 := List.mem_range.1 hj
  have hf : j / 2 < 4 := by omega
  by_cases hn : tt T a (j / 2) < 0
  · have hb := (h.bd_iff ha hf).2 hn
    rw [if_neg (fun e => e.2 hn), if_neg (fun e => e.2 hn)]
    have e0 : tt T a (j / 2) = (T.getD a []).getD (j / 2 * 2) 0 := rfl
    have e1 : pp T a (j / 2) = (T.getD a []).getD (j / 2 * 2 + 1) 0 := rfl
    by_cases hj : j % 2 = 0
    · rw [show j = j / 2 * 2 from by omega, ← e0, hb.1]
      obtain h | h | h | h : j / 2 = 0 ∨ j / 2 = 1 ∨ j / 2 = 2 ∨ j / 2 = 3 := by omega
      all_goals rw [h]; rfl
    · rw [show j = j / 2 * 2 + 1 from by omega, ← e1, hb.2]
      obtain h | h | h | h : j / 2 = 0 ∨ j / 2 = 1 ∨ j / 2 = 2 ∨ j / 2 = 3 := by omega
      all_goals rw [h]; rfl
  · have : j < 4 * 2 ∧ ¬ tt T a (j / 2) < 0 := ⟨by omega, hn⟩
    rw [if_pos this, if_pos this]
theorem shT_len (s : Int) (T : List (List Int)) : (shT s T).length = T.length := by simp [shT]
theorem shT_snoc (s : Int) (T : List (List Int)) {k : Nat} (hk : k < T.length) : (shT s T).take (k + 1) = (shT s T).take k ++ [ptR s T k 4] := by
  rw [List.take_add_one]
  congr 1
  rw [List.getElem?_eq_getElem (by rw [shT_len]; exact hk)]
  simp [shT]
/-- What UnionTriangulations hands back: its code and its triangulation. -/
def unC (T S : List (List Int)) : Int := if Is T ∧ Is S then (if T.length + S.length ≤ 8 then 0 else 3) else 1
def unT (T S : List (List Int)) : List (List Int) := if unC T S = 0 then T ++ shT T.length S else []
theorem un_1 {T S : List (List Int)} (h : ¬ (Is T ∧ Is S)) : unT T S = [] ∧ unC T S = 1 := by
  have hc : unC T S = 1 := by unfold unC; rw [if_neg h]
  exact ⟨by unfold unT; rw [if_neg (by omega)], hc⟩
theorem un_3 {T S : List (List Int)} (h : Is T) (h' : Is S) (hs : ¬ T.length + S.length ≤ 8) : unT T S = [] ∧ unC T S = 3 := by
  have hc : unC T S = 3 := by unfold unC; rw [if_pos ⟨h, h'⟩, if_neg hs]
  exact ⟨by unfold unT; rw [if_neg (by omega)], hc⟩
theorem un_0 {T S : List (List Int)} (h : Is T) (h' : Is S) (hs : T.length + S.length ≤ 8) : unT T S = T ++ shT T.length S ∧ unC T S = 0 := by
  have hc : unC T S = 0 := by unfold unC; rw [if_pos ⟨h, h'⟩, if_pos hs]
  exact ⟨by unfold unT; rw [if_pos hc], hc⟩
end Tr
namespace Fc
/-- The faces of a row are appended to an empty slice. -/
theorem copy_row {w : World} {ops : Array Oper} {rest : List Oper} {o : Oper} {a : Act} {Q : Exit → Act → World → Prop} (hgd : o.guard = none) (s x : Operand) (ho : o.op = .call { callee := .builtin .append, args := #[s, x], argTypes := #[61, 61] })
    (lo B g0 n c : Nat) (A : Option Addr) (zs : List Int) (hs : a.eval s = .slice (some ⟨g0, 0, none⟩) 0 0) (hg0 : w.heap[g0]? = some (.cells #[] 72 (0, 0))) (hlg : lo ≤ g0) (hx : a.eval x = .slice A n c) (hI : Ints w B A (n * 2) zs) (hn0 : 0 < n) (hn : n ≤ 1048576) (hlo : lo ≤ w.heap.size)
    (h : ∀ g cap w', Rw.In ⟨some ⟨g, 0, none⟩, cap, zs⟩ w' lo w'.heap.size → w.grownBy w' (some g0) → wpList Tryd.prog ops Q rest (a.put o.dst (.slice (some ⟨g, 0, none⟩) n cap)) w') : wpList Tryd.prog ops Q (o :: rest) a w := by
  obtain ⟨ti, hi0, hz0, hz1, hz2⟩ := info_parts infoF
  have hl := hI.1
  obtain ⟨b, off, rfl, _, h4⟩ := hI.2 (by omega)
  have hl2 : (zs.map (Value.int .i64)).length = n * 2 := by rw [List.length_map, hl]
  refine wpList_append_lies w hgd s x 61 ho lo 72 ti _ 2 16 Tryd.underlying61 hi0 hz0 hz1 hz2 rfl (by decide) (.slice (some ⟨g0, 0, none⟩) 0 0) 0 [] hs ⟨rfl, .inr ⟨g0, 0, #[], rfl, hlg, hg0, Nat.le_refl _, by unfold maxLen; omega, rfl, rfl⟩⟩ ⟨b, off, none⟩ n c (zs.map (Value.int .i64)) hx hl2
    (ints_newsF hI) (by simp [Value.oneCell']) hn0 (by unfold maxLen; omega) (by omega) hlo _ rfl ?_
  intro g cap w' h1 hg _ _
  rw [Nat.zero_add, List.nil_append] at h1
  rw [Nat.zero_add]
  exact h g cap w' (faces_row h1) hg

/-- A row is appended; what lies apart stays apart. -/
theorem push_row3 {w : World} {ops : Array Oper} {rest : List Oper} {o : Oper} {a : Act} {Q : Exit → Act → World → Prop} (hgd : o.guard = none) (s x : Operand) (ho : o.op = .call { callee := .builtin .append, args := #[s, x], argTypes := #[26, 26] })
    (lo hi lo2 c n g : Nat) (A : Option Addr) (rs : List Rw) (r : Rw) (hs : a.eval s = .slice A n c) (hn : rs.length = n) (hown : OwnS w lo hi A c rs) (hx : a.eval x = .slice (some ⟨g, 0, none⟩) 1 1) (hc : w.cell? ⟨g, 0, none⟩ = some r.sv) (hr : r.In w lo2 w.heap.size) (h12 : hi ≤ lo2) (hlo2 : lo ≤ lo2) (hlo : lo ≤ w.heap.size) (hhi : hi ≤ w.heap.size) (hlen : n ≤ 1048576)
    (F : Nat → Prop) (hF : ∀ b0, F b0 → b0 < lo2 ∧ b0 < w.heap.size ∧ (∀ a, A = some a → a.block ≠ b0) ∧ ∀ q ∈ rs, q.Off b0)
    (h : ∀ A' c' w', OwnS w' lo w'.heap.size A' c' (rs ++ [r]) → Kept lo hi w w' → (∀ b0, F b0 → w'.heap[b0]? = w.heap[b0]? ∧ (∀ a, A' = some a → a.block ≠ b0) ∧ ∀ q ∈ rs ++ [r], q.Off b0) → wpList Tryd.prog ops Q rest (a.put o.dst (.slice A' (n + 1) c')) w') : wpList Tryd.prog ops Q (o :: rest) a w := by
  obtain ⟨ti, hi0, hz0, hz1, hz2⟩ := info_parts infoS
  subst hn
  refine wpList_append_lies w hgd s x 26 ho lo 61 ti _ 1 24 Tryd.underlying26 hi0 hz0 hz1 hz2 rfl (by decide) (.slice A rs.length c) rs.length (rs.map Rw.sv) hs hown.row ⟨g, 0, none⟩ 1 1 [r.sv] hx rfl
    (by intro j u hj; cases j with | zero => (simp at hj; subst hj; simpa [Addr.add] using hc) | succ j => simp at hj) (by intro u hu; simp at hu; subst hu; rfl) (by omega) (by unfold maxLen; omega) (by omega) hlo _ rfl ?_
  intro g' cap w' h1 hg hat hlt
  obtain ⟨q1, q2⟩ := hown.pushed hr h12 hlo2 hhi h1 hg hat hlt
  refine h _ _ _ q1 q2 (fun b0 h3 => ?_)
  obtain ⟨f1, f2, f3, f4⟩ := hF b0 h3
  have hnb : ∀ k, (Value.slice A rs.length c).ownBlock = some k → k ≠ b0 := fun k hk => by
    cases A with
    | none => simp [Value.ownBlock] at hk
    | some p =>
      have h6 := f3 p rfl
      simp [Value.ownBlock] at hk
      subst hk
      exact h6
  refine ⟨hg.block b0 f2 (fun e => hnb b0 e.symm rfl), fun a' ha' => ?_, fun q hq => ?_⟩
  · cases ha'
    dsimp only
    rcases hat with hat | hat
    · exact hnb _ hat
    · omega
  · rcases List.mem_append.1 hq with hq | hq
    · exact f4 q hq
    · simp at hq; subst hq
      exact hr.off (.inl f1)

theorem Rw.In.setFace {w : World} {lo hi g o c f : Nat} {zs : List Int} (h : Rw.In ⟨some ⟨g, o, none⟩, c, zs⟩ w lo hi) (h8 : zs.length = 8) (hf : f < 4) (t p : Int) :
    Rw.In ⟨some ⟨g, o, none⟩, c, (zs.set (f * 2) t).set (f * 2 + 1) p⟩ ((w.setCell ⟨g, o + f * 2, none⟩ (.int .i64 t)).setCell ⟨g, o + f * 2 + 1, none⟩ (.int .i64 p)) lo hi := by
  have hl := h.le
  have hnew : ((zs.set (f * 2) t).set (f * 2 + 1) p).length = zs.length := by rw [List.length_set, List.length_set]
  obtain ⟨gr, o', eA, b1, b2, b3⟩ := h.mine.2 (by dsimp only; omega)
  injection eA with eA
  injection eA with e1 e2
  subst e1
  subst e2
  dsimp only at b3
  have k0 := b3 (f * 2) (by omega)
  have k1 := b3 (f * 2 + 1) (by omega)
  rw [← Nat.add_assoc] at k1
  refine ⟨by dsimp only; rw [hnew]; exact hl, h.cap, ⟨rfl, fun _ => ⟨g, o, rfl, b1, b2, fun k hk => ?_⟩⟩⟩
  dsimp only at hk ⊢
  rw [hnew] at hk
  have kk := b3 k hk
  refine ⟨?_, by rw [World.frozen?_setCell, World.frozen?_setCell]; exact kk.2⟩
  by_cases e1 : k = f * 2 + 1
  · subst e1
    rw [← Nat.add_assoc, World.cell?_setCell_same' _ _ _ (by rw [World.cell?_setCell_other _ _ _ _ (by simp), k1.1]; rfl)]
    congr 2
    rw [List.getD_eq_getElem?_getD, List.getElem?_set]
    simp
    rw [if_pos (by omega)]
    rfl
  · rw [World.cell?_setCell_other _ _ _ _ (by first | (simp; done) | (simp; omega))]
    by_cases e2 : k = f * 2
    · subst e2
      rw [World.cell?_setCell_same' _ _ _ (by rw [k0.1]; rfl)]
      congr 2
      rw [List.getD_eq_getElem?_getD, List.getElem?_set, List.getElem?_set]
      simp
      rw [if_pos (by omega)]
      rfl
    · rw [World.cell?_setCell_other _ _ _ _ (by first | (simp; done) | (simp; omega)), kk.1]
      congr 2
      rw [List.getD_eq_getElem?_getD, List.getD_eq_getElem?_getD, List.getElem?_set, List.getElem?_set, if_neg (by omega), if_neg (by omega)]
theorem Rw.In.faceAt {w : World} {lo hi g o c f : Nat} {zs : List Int} (h : Rw.In ⟨some ⟨g, o, none⟩, c, zs⟩ w lo hi) (h8 : zs.length = 8) (hf : f < 4) :
    w.cell? ⟨g, o + f * 2, none⟩ = some (.int .i64 (zs.getD (f * 2) 0)) ∧ w.cell? ⟨g, o + f * 2 + 1, none⟩ = some (.int .i64 (zs.getD (f * 2 + 1) 0)) ∧ w.frozen? ⟨g, o + f * 2, none⟩ = false ∧ w.frozen? ⟨g, o + f * 2 + 1, none⟩ = false ∧ lo ≤ g ∧ g < hi := by
  obtain ⟨gr, o', eA, b1, b2, b3⟩ := h.mine.2 (by dsimp only; omega)
  injection eA with eA
  injection eA with e1 e2
  subst e1
  subst e2
  dsimp only at b3
  exact ⟨(b3 (f * 2) (by omega)).1, (b3 (f * 2 + 1) (by omega)).1, (b3 (f * 2) (by omega)).2, (b3 (f * 2 + 1) (by omega)).2, b1, b2⟩
end Fc
end Go.Proofs.YtajbahfbldmckaaDoor

namespace Go.Proofs.YtajbahfbldmckaaDoor
open Go.RowKit Go.Shelf
namespace Fc
set_option maxRecDepth 100000 in
set_option maxHeartbeats 8000000 in
theorem union_impl (A : Option Addr) (n c : Nat) (T : List (List Int)) (A2 : Option Addr) (n2 c2 : Nat) (S : List (List Int)) (w : World) (h : RdT w w.heap.size A n T) (h' : RdT w w.heap.size A2 n2 S) (hv : Vs w) (hn : n ≤ 1048576) (hn2 : n2 ≤ 1048576) :
    Calls Tryd.prog 30 #[.agg #[.slice A n c], .agg #[.slice A2 n2 c2]] w (ResTC w (Tr.unT T S) (Tr.unC T S)) := by
  have h0 := hv.pos
  have LN := Lib.hid h.len
  have LS := Lib.hid h'.len
  have HT := Lib.hid h
  have HS := Lib.hid h'
  have HV := Lib.hid hv
  have TI := Lib.hid (fun (W : World) (hb : Below w.heap.size w W) => isTri_implT A n c T W (h.into hb) (hv.below hb h0.1) hn)
  have TS := Lib.hid (fun (W : World) (hb : Below w.heap.size w W) => isTri_implT A2 n2 c2 S W (h'.into hb) (hv.below hb h0.1) hn2)
  clear h h' hv
  obtain ⟨U, hU⟩ : ∃ U, U = ((w.alloc (Obj.cells #[.slice A n c] 28)).alloc (Obj.cells #[.slice A2 n2 c2] 28)).alloc (Obj.cells #[.slice none 0 0] 28) := ⟨_, rfl⟩
  have hB : Below w.heap.size w U := by rw [hU]; exact (al2 w _ _).trans ((al1 _ _).mono (by simp; omega))
  have z : U.heap.size = w.heap.size + 3 := by rw [hU]; simp
  have k0 : U.cell? ⟨w.heap.size, 0, none⟩ = some (.slice A n c) := by rw [hU]; simp [go_sem]
  have ks : U.cell? ⟨w.heap.size + 1, 0, none⟩ = some (.slice A2 n2 c2) := by rw [hU]; simp [go_sem]
  have k1 : U.cell? ⟨w.heap.size + 2, 0, none⟩ = some (.slice none 0 0) := by rw [hU]; simp [go_sem]
  have f1 : U.frozen? ⟨w.heap.size + 2, 0, none⟩ = false := by rw [hU]; simp [go_sem]
  have D0 := Lib.hid hB
  clear hB
  go_enter Tryd.func30, Tryd.ntmps30
  go_upto_region 1 with fail
  rw [← hU]
  clear hU
  go_wp2_with fail
  refine (TI.out _ D0.out).mono ?_
  rintro e w1 ⟨rfl, hb⟩
  have k0 := (hb.cell (p := ⟨w.heap.size, 0, none⟩) (by dsimp only; omega)).trans k0
  have ks := (hb.cell (p := ⟨w.heap.size + 1, 0, none⟩) (by dsimp only; omega)).trans ks
  have k1 := (hb.cell (p := ⟨w.heap.size + 2, 0, none⟩) (by dsimp only; omega)).trans k1
  have f1 := (hb.frozen (p := ⟨w.heap.size + 2, 0, none⟩) (by dsimp only; omega)).trans f1
  have D1 := Lib.hid (D0.out.trans (hb.mono (by omega)))
  have z1 : U.heap.size ≤ w1.heap.size := hb.size
  clear hb
  by_cases hok : Tr.Is T
  case neg =>
    rw [decide_eq_false hok]
    have R := Lib.hid (Tr.un_1 (T := T) (S := S) (fun e => hok e.1))
    clear hok
    go_wp2
    refine bodyPost_ret (v := .tuple #[.agg #[.slice none 0 0], .int .i64 1]) (by simp [results, Tryd.results30, k1, go_sem]) rfl ?_
    rw [R.out.1, R.out.2]
    exact ⟨none, 0, [], rfl, OwnS.nil _ _ _, rfl, D1.out.setCell (by dsimp only; omega) _⟩
  rw [decide_eq_true hok]
  have IT := Lib.hid hok
  clear hok
  go_wp2_with fail
  refine (TS.out _ D1.out).mono ?_
  rintro e w2 ⟨rfl, hb⟩
  have k0 := (hb.cell (p := ⟨w.heap.size, 0, none⟩) (by dsimp only; omega)).trans k0
  have ks := (hb.cell (p := ⟨w.heap.size + 1, 0, none⟩) (by dsimp only; omega)).trans ks
  have k1 := (hb.cell (p := ⟨w.heap.size + 2, 0, none⟩) (by dsimp only; omega)).trans k1
  have f1 := (hb.frozen (p := ⟨w.heap.size + 2, 0, none⟩) (by dsimp only; omega)).trans f1
  have D2 := Lib.hid (D1.out.trans (hb.mono (by omega)))
  have z2 : w1.heap.size ≤ w2.heap.size := hb.size
  clear hb
  by_cases hok : Tr.Is S
  case neg =>
    rw [decide_eq_false hok]
    have R := Lib.hid (Tr.un_1 (T := T) (S := S) (fun e => hok e.2))
    clear hok
    go_wp2
    refine bodyPost_ret (v := .tuple #[.agg #[.slice none 0 0], .int .i64 1]) (by simp [results, Tryd.results30, k1, go_sem]) rfl ?_
    rw [R.out.1, R.out.2]
    exact ⟨none, 0, [], rfl, OwnS.nil _ _ _, rfl, D2.out.setCell (by dsimp only; omega) _⟩
  rw [decide_eq_true hok]
  have IS := Lib.hid hok
  clear hok TI TS
  have h8 : n ≤ 8 := by rw [← LN.out]; exact IT.out.1
  have h82 : n2 ≤ 8 := by rw [← LS.out]; exact IS.out.1
  have wr1 : IntKind.i64.wrap ((n : Int) + (n2 : Int)) = (n : Int) + (n2 : Int) := IntWalk.i64_in _ (by omega)
  by_cases hs : n + n2 ≤ 8
  case neg =>
    have R := Lib.hid (Tr.un_3 (T := T) (S := S) IT.out IS.out (by rw [LN.out, LS.out]; exact hs))
    have t9 : decide (8 < (n : Int) + (n2 : Int)) = true := by simp; omega
    have u9 : (8 : Int) < (n : Int) + (n2 : Int) := by omega
    clear hs
    go_wp2
    refine bodyPost_ret (v := .tuple #[.agg #[.slice none 0 0], .int .i64 3]) (by simp [results, Tryd.results30, k1, go_sem]) rfl ?_
    rw [R.out.1, R.out.2]
    exact ⟨none, 0, [], rfl, OwnS.nil _ _ _, rfl, D2.out.setCell (by dsimp only; omega) _⟩
  have R := Lib.hid (Tr.un_0 (T := T) (S := S) IT.out IS.out (by rw [LN.out, LS.out]; exact hs))
  have t9 : decide (8 < (n : Int) + (n2 : Int)) = false := by simp; omega
  have u9 : ¬ (8 : Int) < (n : Int) + (n2 : Int) := by omega
  have BO := Lib.hid (builderOf_impl A n c T w2 (HT.out.into D2.out) (HV.out.below D2.out h0.1) IT.out)
  go_wp2_with fail
  refine BO.out.mono ?_
  rintro e y1 ⟨bb, mb, A1, c1, rs1, rfl, ⟨g1, g2⟩, hB2, hV2, hM2, hb⟩
  have k0 := (hb.cell (p := ⟨w.heap.size, 0, none⟩) (by dsimp only; omega)).trans k0
  have ks := (hb.cell (p := ⟨w.heap.size + 1, 0, none⟩) (by dsimp only; omega)).trans ks
  have k1 := (hb.cell (p := ⟨w.heap.size + 2, 0, none⟩) (by dsimp only; omega)).trans k1
  have f1 := (hb.frozen (p := ⟨w.heap.size + 2, 0, none⟩) (by dsimp only; omega)).trans f1
  have E1 := Lib.hid (D2.out.trans (hb.mono (by omega)))
  have y1z : w2.heap.size ≤ y1.heap.size := hb.size
  have L4 := Lib.hid (show rs1.length = n from by rw [← Fc.vals_len, hV2, LN.out])
  have zb := hB2.lt
  have AT := Lib.hid (addTri_impl bb mb n2 c2 A2 S A1 c1 rs1 y1 ((HS.out.below E1.out).more (show w.heap.size ≤ bb by omega)) hB2 (HV.out.below E1.out h0.1) (by omega) IS.out (by have := L4.out; omega))
  rw [hV2, L4.out] at AT
  clear hb hB2 hV2 hM2 BO
  go_wp2_with fail
  refine AT.out.mono ?_
  rintro e y2 ⟨rfl, ⟨A', c', rs', hB3, hV3⟩, hb⟩
  have k1 := (hb.cell (p := ⟨w.heap.size + 2, 0, none⟩) (by dsimp only; omega)).trans k1
  have f1 := (hb.frozen (p := ⟨w.heap.size + 2, 0, none⟩) (by dsimp only; omega)).trans f1
  have E2 := Lib.hid (E1.out.trans (hb.mono (by omega)))
  have B6 := Lib.hid hB3
  have V6 := Lib.hid (show vals rs' = T ++ Tr.shT T.length S from by rw [LN.out]; exact hV3)
  have y2z := hb.size
  have zb2 := hB3.lt
  clear hb hB3 hV3 AT
  go_wp2_with fail
  refine (triang_impl bb mb A' c' rs' y2 B6.out).mono ?_
  rintro e y3 ⟨rfl, hb⟩
  have k1 := (hb.cell (p := ⟨w.heap.size + 2, 0, none⟩) (by dsimp only; omega)).trans k1
  have f1 := (hb.frozen (p := ⟨w.heap.size + 2, 0, none⟩) (by dsimp only; omega)).trans f1
  have E3 := Lib.hid (E2.out.trans (hb.mono (by omega)))
  have B7 := Lib.hid (B6.out.below hb)
  clear hb
  go_wp2
  refine bodyPost_ret (v := .tuple #[.agg #[.slice A' rs'.length c'], .int .i64 0]) (by simp [results, Tryd.results30, k1, go_sem]) rfl ?_
  rw [R.out.1, R.out.2]
  exact ⟨A', c', rs', rfl, (B7.out.own.far (p := ⟨w.heap.size + 2, 0, none⟩) (.inl (by dsimp only; omega)) _).wide (by omega) (by simp [World.setCell]), V6.out, E3.out.setCell (by dsimp only; omega) _⟩

end Fc
end Go.Proofs.YtajbahfbldmckaaDoor

namespace Go.Proofs.YtajbahfbldmckaaDoor
open Go.RowKit Go.Shelf
namespace Fc
set_option maxRecDepth 100000 in
set_option maxHeartbeats 16000000 in
theorem l07Union_spec (A : Option Addr) (n c : Nat) (T : List (List Int)) (A2 : Option Addr) (n2 c2 : Nat) (S : List (List Int)) (w : World) (h : RdT w w.heap.size A n T) (h' : RdT w w.heap.size A2 n2 S) (hn : n ≤ 8) (hn2 : n2 ≤ 8) (h4 : Tr.Four T) (hS : Tr.Is S) :
    Calls Tryd.prog 69 #[.agg #[.slice A n c], .agg #[.slice A2 n2 c2]] w (ResT w (T ++ Tr.shT n S)) := by
  have LN := Lib.hid h.len
  have LS := Lib.hid h'.len
  have HT := Lib.hid h
  have HS := Lib.hid h'
  have H4 := Lib.hid h4
  have IS := Lib.hid hS
  clear h h' h4 hS
  obtain ⟨U, hU⟩ : ∃ U, U = ((w.alloc (Obj.cells #[.slice A n c] 28)).alloc (Obj.cells #[.slice A2 n2 c2] 28)).alloc (Obj.cells #[.slice none 0 0] 28) := ⟨_, rfl⟩
  have hB : Below w.heap.size w U := by rw [hU]; exact (al2 w _ _).trans ((al1 _ _).mono (by simp; omega))
  have z : U.heap.size = w.heap.size + 3 := by rw [hU]; simp
  have k0 : U.cell? ⟨w.heap.size, 0, none⟩ = some (.slice A n c) := by rw [hU]; simp [go_sem]
  have k1 : U.cell? ⟨w.heap.size + 1, 0, none⟩ = some (.slice A2 n2 c2) := by rw [hU]; simp [go_sem]
  have k2 : U.cell? ⟨w.heap.size + 2, 0, none⟩ = some (.slice none 0 0) := by rw [hU]; simp [go_sem]
  have f2 : U.frozen? ⟨w.heap.size + 2, 0, none⟩ = false := by rw [hU]; simp [go_sem]
  have DU := Lib.hid hB
  have OS := Lib.hid (own_spec A n c T U (HT.out.into hB) hn H4.out)
  clear hB
  go_enter Tryd.func69, Tryd.ntmps69
  go_upto_region 1 with fail
  rw [← hU]
  clear hU
  go_wp2_with fail
  refine OS.out.mono ?_
  rintro e w1 ⟨A1, c1, rs1, rfl, hO, hV1, hb⟩
  have z1 : U.heap.size ≤ w1.heap.size := hb.size
  have O1 := Lib.hid hO
  have V1 := Lib.hid hV1
  have B1 := Lib.hid hb
  have l1 : rs1.length = n := by rw [← Fc.vals_len, hV1, LN.out]
  clear hO hV1 hb OS
  obtain ⟨V, hV⟩ : ∃ V, V = w1.alloc (Obj.cells #[.slice A1 n c1] 28) := ⟨_, rfl⟩
  have zV : V.heap.size = w1.heap.size + 1 := by rw [hV]; simp
  have BV := Lib.hid (show Below w1.heap.size w1 V from by rw [hV]; exact al1 _ _)
  have r0 : V.cell? ⟨w1.heap.size, 0, none⟩ = some (.slice A1 rs1.length c1) := by rw [hV, l1]; simp [go_sem]
  have r1 : V.frozen? ⟨w1.heap.size, 0, none⟩ = false := by rw [hV]; simp [go_sem]
  have UV := Lib.hid (show Below U.heap.size U V from B1.out.trans (BV.out.mono z1))
  have OV := Lib.hid ((O1.out.below BV.out (Nat.le_refl _)).wide (Nat.le_refl _) (show w1.heap.size ≤ V.heap.size by omega))
  have AV := Lib.hid (show Apt (fun b0 => b0 = w1.heap.size) A1 rs1 from fun b0 hb0 => by
    subst hb0
    exact ⟨fun a ha => by have := O1.out.top a ha; omega, fun q hq => (O1.out.mine q hq).off (.inr (Nat.le_refl _))⟩)
  go_upto_region 2 with fail
  rw [← hV]
  clear hV BV B1 O1
  go_wp2
  go_loopw [6] (fun i W => ∃ (k : Nat) (A' : Option Addr) (c' : Nat) (rs : List Rw), k ≤ n2 ∧ i = .int .i64 k ∧ (W.cell? ⟨w1.heap.size, 0, none⟩ = some (.slice A' rs.length c') ∧ W.frozen? ⟨w1.heap.size, 0, none⟩ = false) ∧ OwnS W U.heap.size W.heap.size A' c' rs ∧ Apt (fun b0 => b0 = w1.heap.size) A' rs ∧ vals rs = T ++ (Tr.shT n S).take k ∧ Below U.heap.size U W ∧ w1.heap.size < W.heap.size) (fun i _ => n2 - (intOf i).toNat)
  case atStart => exact ⟨0, A1, c1, rs1, Nat.zero_le _, rfl, ⟨r0, r1⟩, OV.out, AV.out, by rw [V1.out]; simp, UV.out, by omega⟩
  case round =>
    obtain ⟨Wo, rfl⟩ : ∃ Wo : World, Wo = wr := ⟨_, rfl⟩
    obtain ⟨k, A', c', rs, hk, rfl, ⟨hb2, hf2⟩, hO, hA, hVl, hbel, zbo⟩ := hrel
    have OW := Lib.hid hO
    have AW := Lib.hid hA
    have VL := Lib.hid hVl
    have BW := Lib.hid hbel
    have zW : U.heap.size ≤ Wo.heap.size := hbel.size
    have m0 := (hbel.cell (p := ⟨w.heap.size, 0, none⟩) (by dsimp only; omega)).trans k0
    have m1 := (hbel.cell (p := ⟨w.heap.size + 1, 0, none⟩) (by dsimp only; omega)).trans k1
    have m2 := (hbel.cell (p := ⟨w.heap.size + 2, 0, none⟩) (by dsimp only; omega)).trans k2
    have g2 := (hbel.frozen (p := ⟨w.heap.size + 2, 0, none⟩) (by dsimp only; omega)).trans f2
    have DW := Lib.hid (DU.out.trans (hbel.mono (by omega)))
    have RL := Lib.hid (show rs.length = n + k from by
      have h1 := congrArg List.length hVl
      rw [vals_len, List.length_append, List.length_take, Tr.shT_len, LN.out, LS.out] at h1
      omega)
    have rl16 : rs.length ≤ 16 := by have := RL.out; omega
    have i0 : (0 : Int) ≤ (k : Int) := by omega
    clear hO hA hVl hbel
    by_cases hlt : k < n2
    case neg =>
      obtain rfl : k = n2 := by omega
      have i1 : ¬ (k : Int) < (k : Int) := by omega
      go_wp2
      refine bodyPost_ret (v := .agg #[.slice A' rs.length c']) (by simp [results, Tryd.results69, m2, go_sem]) rfl ?_
      exact ⟨A', c', rs, rfl, (OW.out.far (p := ⟨w.heap.size + 2, 0, none⟩) (.inl (by dsimp only; omega)) _).wide (by omega) (by simp [World.setCell]), by rw [VL.out, List.take_of_length_le (by rw [Tr.shT_len, LS.out]; exact Nat.le_refl _)], DW.out.setCell (by dsimp only; omega) _⟩
    have i1 : (k : Int) < (n2 : Int) := by omega
    have h8 := IS.out.2.1 k (by rw [LS.out]; exact hlt)
    obtain ⟨b, off, Aj, cj, m, rfl, hb, hcr, h1, h2, h3, hi⟩ := (HS.out.below DW.out).row k hlt
    obtain rfl : m = 4 := by omega
    obtain ⟨zs, hzs⟩ : ∃ zs, S.getD k [] = zs := ⟨_, rfl⟩
    have Z0 := Lib.hid (Tr.ptO_zero (n : Int) S k h8)
    rw [hzs] at hi h8 Z0
    have HI := Lib.hid hi
    have NX := Lib.hid (Tr.shT_snoc (n : Int) S (k := k) (by rw [LS.out]; exact hlt))
    clear hi hzs h3
    have l2 : b < Wo.heap.size := by omega
    have l3 : w.heap.size + 1 < Wo.heap.size := by omega
    have l4 : w.heap.size < Wo.heap.size := by omega
    have l5 : w1.heap.size < Wo.heap.size := by omega
    go_wp2_with (refine copy_row (by rfl) _ _ (by rfl) Wo.heap.size w.heap.size Wo.heap.size 4 cj Aj zs rfl (by exact heap_alloc_new Wo _) (Nat.le_refl _) rfl (by exact HI.out.below ((al1 Wo _).mono (by omega))) (by omega) (by omega) (by simp) ?_)
    intro g7 cap7 w7 h5 h6
    have D7 := Lib.hid ((al1 Wo (Obj.cells #[] 72)).grown h6 (by simp) (fun k hk => by cases hk; exact Nat.le_refl _))
    have R7 := Lib.hid h5
    have s7 : Wo.heap.size < w7.heap.size := by have := h6.size; simp at this; omega
    clear h5 h6
    have n0 := (D7.out.cell (p := ⟨w.heap.size, 0, none⟩) (by dsimp only; omega)).trans m0
    have n1 := (D7.out.cell (p := ⟨w.heap.size + 1, 0, none⟩) (by dsimp only; omega)).trans m1
    have nb := (D7.out.cell (p := ⟨w1.heap.size, 0, none⟩) (by dsimp only; omega)).trans hb2
    have nf := (D7.out.frozen (p := ⟨w1.heap.size, 0, none⟩) (by dsimp only; omega)).trans hf2
    go_wp2
    go_loopw [8] (fun i Y => ∃ f : Nat, f ≤ 4 ∧ i = .int .i64 f ∧ Rw.In ⟨some ⟨g7, 0, none⟩, cap7, Tr.ptO (n : Int) S k f⟩ Y Wo.heap.size w7.heap.size ∧ Kept Wo.heap.size w7.heap.size w7 Y) (fun i _ => 4 - (intOf i).toNat)
    case atStart => exact ⟨0, by omega, rfl, by rw [Z0.out]; exact R7.out, Kept.refl _ _ _⟩
    case round =>
      obtain ⟨Y, rfl⟩ : ∃ Y : World, Y = wr := ⟨_, rfl⟩
      obtain ⟨f, hf, rfl, hR, hK7⟩ := hrel
      have RY := Lib.hid hR
      have KY := Lib.hid hK7
      have zY : w7.heap.size ≤ Y.heap.size := hK7.size
      have p8 := Tr.ptO_len (n : Int) S k f
      have y0 := (World.cell?_of_block (a := ⟨w.heap.size, 0, none⟩) (hK7.block w.heap.size (by omega) (by omega))).trans n0
      have y1 := (World.cell?_of_block (a := ⟨w.heap.size + 1, 0, none⟩) (hK7.block (w.heap.size + 1) (by omega) (by omega))).trans n1
      have yb := (World.cell?_of_block (a := ⟨w1.heap.size, 0, none⟩) (hK7.block w1.heap.size (by omega) (by omega))).trans nb
      have yf := (World.frozen?_of_block (a := ⟨w1.heap.size, 0, none⟩) (hK7.block w1.heap.size (by omega) (by omega))).trans nf
      have f0 : (0 : Int) ≤ (f : Int) := by omega
      clear hR hK7
      by_cases hf4 : f < 4
      case neg =>
        obtain rfl : f = 4 := by omega
        have RZ := Lib.hid (show Rw.In ⟨some ⟨g7, 0, none⟩, cap7, Tr.ptR (n : Int) S k 4⟩ Y Wo.heap.size w7.heap.size from by rw [← Tr.ptO_four IS.out (by rw [LS.out]; exact hlt)]; exact RY.out)
        have SVR := Lib.hid (show Rw.sv ⟨some ⟨g7, 0, none⟩, cap7, Tr.ptR (n : Int) S k 4⟩ = .slice (some ⟨g7, 0, none⟩) 4 cap7 from by simp [Rw.sv, Tr.ptR_len])
        have OY := Lib.hid ((OW.out.below (D7.out.mono (by omega)) (Nat.le_refl _)).kept KY.out (by omega) (.inl (Nat.le_refl _)))
        have YB : w1.heap.size < Y.heap.size := by omega
        obtain ⟨F, hF⟩ : ∃ F : Nat → Prop, ∀ b0, F b0 ↔ b0 = w1.heap.size := ⟨_, fun _ => Iff.rfl⟩
        have HF := Lib.hid hF
        clear hF
        have UY := Lib.hid (show Below U.heap.size U Y from (BW.out.trans (D7.out.mono (by omega))).trans (KY.out.below (by omega) (by omega)))
        clear RY p8 y0 y1
        go_wp2_with (refine push_row3 (by rfl) _ _ (by rfl) U.heap.size Wo.heap.size Wo.heap.size c' rs.length Y.heap.size A' rs ⟨some ⟨g7, 0, none⟩, cap7, Tr.ptR (n : Int) S k 4⟩ rfl rfl (by exact OY.out.below (al1 Y _) (by omega)) rfl (by rw [SVR.out]; exact Wd.alloc_first _ _ _ _ rfl) (by exact (RZ.out.below (al1 Y _) (by omega)).wide (Nat.le_refl _) (by simp; omega)) (Nat.le_refl _) (by omega) (by simp; omega) (by simp; omega) (by omega) F (fun b0 hb0 => by have hb1 := (HF.out b0).1 hb0; subst hb1; exact ⟨by omega, by simp; omega, (AW.out _ rfl).1, (AW.out _ rfl).2⟩) ?_)
        intro A8 c8 w8 h5 h6 h7
        obtain ⟨h8a, h8b1, h8b2⟩ := h7 w1.heap.size ((HF.out _).2 rfl)
        have e8 := (World.cell?_of_block (a := ⟨w1.heap.size, 0, none⟩) h8a).trans (((al1 Y _).cell (p := ⟨w1.heap.size, 0, none⟩) (by dsimp only; omega)).trans yb)
        have f8 := (World.frozen?_of_block (a := ⟨w1.heap.size, 0, none⟩) h8a).trans (((al1 Y _).frozen (p := ⟨w1.heap.size, 0, none⟩) (by dsimp only; omega)).trans yf)
        have s8 := h6.size
        simp only [World.size_alloc] at s8
        have O8 := Lib.hid h5
        have A8' := Lib.hid (show (∀ a, A8 = some a → a.block ≠ w1.heap.size) ∧ ∀ q ∈ rs ++ [(⟨some ⟨g7, 0, none⟩, cap7, Tr.ptR (n : Int) S k 4⟩ : Rw)], q.Off w1.heap.size from ⟨fun a ha => h8b1 a ha, fun q hq => h8b2 q (by simpa using hq)⟩)
        have B8 := Lib.hid (show Below U.heap.size U w8 from (UY.out.trans ((al1 Y _).mono (by omega))).trans (h6.below (by omega) (by simp; omega)))
        clear h5 h6 h7 h8a h8b1 h8b2 yb yf
        go_wp2
        go_roundw
        case rel =>
          refine ⟨k + 1, A8, c8, rs ++ [⟨some ⟨g7, 0, none⟩, cap7, Tr.ptR (n : Int) S k 4⟩], by omega, by go_num, ⟨by rw [List.length_append]; exact World.cell?_setCell_same' _ _ _ (by rw [e8]; rfl), (setCell_frozen _ _ _ _).trans f8⟩, (by have h9 := O8.out.far_off (p := ⟨w1.heap.size, 0, none⟩) A8'.out.1 A8'.out.2 (.slice A8 (rs.length + 1) c8); exact h9.wide (by omega) (Nat.le_of_eq (by unfold World.setCell; simp))), fun b0 hb0 => by subst hb0; exact A8'.out, by rw [NX.out, ← List.append_assoc, ← VL.out]; simp [vals], B8.out.setCell (by dsimp only; omega) _, by simp [World.setCell]; omega⟩
        case measure => simp [intOf]; omega
      have f1 : (f : Int) < 4 := by omega
      have AT := Lib.hid (Tr.ptO_at (n : Int) S k f hf4)
      obtain ⟨d0, d1, e0, e1, g70, g71⟩ := RY.out.faceAt p8 hf4
      rw [AT.out.1] at d0
      rw [AT.out.2] at d1
      rw [Nat.zero_add] at d0 d1 e0 e1
      obtain ⟨tv, htv⟩ : ∃ tv, Tr.tt S k f = tv := ⟨_, rfl⟩
      obtain ⟨pv, hpv⟩ : ∃ pv, Tr.pp S k f = pv := ⟨_, rfl⟩
      rw [htv] at d0
      rw [hpv] at d1
      by_cases hneg : tv < 0
      · have NG := Lib.hid (Tr.ptO_neg (s := (n : Int)) (T := S) (a := k) (f := f) (by rw [htv]; exact hneg))
        have t0 : decide (0 ≤ tv) = false := by simp; omega
        clear htv hpv hneg
        go_wp2
        go_roundw
        case rel => exact ⟨f + 1, by omega, by go_num, by rw [NG.out]; exact RY.out, KY.out⟩
        case measure => simp [intOf]; omega
      have PS := Lib.hid (Tr.ptO_pos (s := (n : Int)) (T := S) (a := k) (f := f) (by rw [htv]; exact hneg))
      rw [htv, hpv] at PS
      have t0 : decide (0 ≤ tv) = true := by simp; omega
      have htop : tv < n2 := by
        rcases (IS.out.2.2 k (by rw [LS.out]; exact hlt) f hf4).ok with e | ⟨⟨_, t1⟩, _⟩
        · have := e.1; omega
        · rw [htv, LS.out] at t1; exact t1
      have wr5 : IntKind.i64.wrap (tv + (n : Int)) = tv + (n : Int) := IntWalk.i64_in _ (by omega)
      clear htv hpv htop
      go_upto_region 10 with fail
      refine wp_region_N (fun Z : World => (Z.cell? ⟨g7, f * 2, none⟩ = some (.int .i64 tv) ∧ Z.cell? ⟨g7, f * 2 + 1, none⟩ = some (.int .i64 pv)) ∧ Z.cell? ⟨w.heap.size, 0, none⟩ = some (.slice A n c)) [0, 1, 2, 3, 4, 5, 6, 7, 10, 11, 12, 13, 14] (by kernel_rfl) ?_
      have hS : (fun Z : World => (Z.cell? ⟨g7, f * 2, none⟩ = some (.int .i64 tv) ∧ Z.cell? ⟨g7, f * 2 + 1, none⟩ = some (.int .i64 pv)) ∧ Z.cell? ⟨w.heap.size, 0, none⟩ = some (.slice A n c)) Y.drew := ⟨⟨d0, d1⟩, y0⟩
      refine wpN_take (i := 0) (oi := { dst := some 35, op := .move (.tmp 7), type := _, pos := _, after := _, guard := _ }) (v := ?_) rfl (by kernel_rfl) (by kernel_rfl) (by kernel_rfl) (by kernel_rfl) (fun _ _ _ h => h) (Or.inl ⟨by rfl, ?_⟩) hS ?_
      rotate_left
      · intro Z hZ
        obtain ⟨⟨x0, x1⟩, x2⟩ := hZ
        go_simp
        try with_reducible rfl
      try simp only [Act.put, List.setIfInBounds_toArray, List.set_cons_zero, List.set_cons_succ]
      refine wpN_take (i := 1) (oi := { dst := some 36, op := .move (.tmp 8), type := _, pos := _, after := _, guard := _ }) (v := ?_) rfl (by kernel_rfl) (by kernel_rfl) (by kernel_rfl) (by kernel_rfl) (fun _ _ _ h => h) (Or.inl ⟨by rfl, ?_⟩) hS ?_
      rotate_left
      · intro Z hZ
        obtain ⟨⟨x0, x1⟩, x2⟩ := hZ
        go_simp
        try with_reducible rfl
      try simp only [Act.put, List.setIfInBounds_toArray, List.set_cons_zero, List.set_cons_succ]
      refine wpN_take (i := 2) (oi := { dst := some 37, op := .move (.tmp 7), type := _, pos := _, after := _, guard := _ }) (v := ?_) rfl (by kernel_rfl) (by kernel_rfl) (by kernel_rfl) (by kernel_rfl) (fun _ _ _ h => h) (Or.inl ⟨by rfl, ?_⟩) hS ?_
      rotate_left
      · intro Z hZ
        obtain ⟨⟨x0, x1⟩, x2⟩ := hZ
        go_simp
        try with_reducible rfl
      try simp only [Act.put, List.setIfInBounds_toArray, List.set_cons_zero, List.set_cons_succ]
      refine wpN_take (i := 3) (oi := { dst := some 38, op := .move (.tmp 8), type := _, pos := _, after := _, guard := _ }) (v := ?_) rfl (by kernel_rfl) (by kernel_rfl) (by kernel_rfl) (by kernel_rfl) (fun _ _ _ h => h) (Or.inl ⟨by rfl, ?_⟩) hS ?_
      rotate_left
      · intro Z hZ
        obtain ⟨⟨x0, x1⟩, x2⟩ := hZ
        go_simp
        try with_reducible rfl
      try simp only [Act.put, List.setIfInBounds_toArray, List.set_cons_zero, List.set_cons_succ]
      refine wpN_take (i := 4) (oi := { dst := some 39, op := .indexAddr _ (.tmp 37) (.tmp 38), type := _, pos := _, after := _, guard := _ }) (v := ?_) rfl (by kernel_rfl) (by kernel_rfl) (by kernel_rfl) (by kernel_rfl) (fun _ _ _ h => h) (Or.inl ⟨by rfl, ?_⟩) hS ?_
      rotate_left
      · intro Z hZ
        obtain ⟨⟨x0, x1⟩, x2⟩ := hZ
        go_simp
        try with_reducible rfl
      try simp only [Act.put, List.setIfInBounds_toArray, List.set_cons_zero, List.set_cons_succ]
      refine wpN_take (i := 5) (oi := { dst := some 40, op := .fieldAddr _ (.tmp 39) 0, type := _, pos := _, after := _, guard := _ }) (v := ?_) rfl (by kernel_rfl) (by kernel_rfl) (by kernel_rfl) (by kernel_rfl) (fun _ _ _ h => h) (Or.inl ⟨by rfl, ?_⟩) hS ?_
      rotate_left
      · intro Z hZ
        obtain ⟨⟨x0, x1⟩, x2⟩ := hZ
        go_simp
        try with_reducible rfl
      try simp only [Act.put, List.setIfInBounds_toArray, List.set_cons_zero, List.set_cons_succ]
      refine wpN_take (i := 6) (oi := { dst := some 41, op := .load _ (.tmp 40), type := _, pos := _, after := _, guard := _ }) (v := ?_) rfl (by kernel_rfl) (by kernel_rfl) (by kernel_rfl) (by kernel_rfl) (fun _ _ _ h => h) (Or.inl ⟨by rfl, ?_⟩) hS ?_
      rotate_left
      · intro Z hZ
        obtain ⟨⟨x0, x1⟩, x2⟩ := hZ
        go_simp
        try with_reducible rfl
      try simp only [Act.put, List.setIfInBounds_toArray, List.set_cons_zero, List.set_cons_succ]
      refine wpN_take (i := 7) (oi := { dst := some 42, op := .load _ (.tmp 2), type := _, pos := _, after := _, guard := _ }) (v := ?_) rfl (by kernel_rfl) (by kernel_rfl) (by kernel_rfl) (by kernel_rfl) (fun _ _ _ h => h) (Or.inl ⟨by rfl, ?_⟩) hS ?_
      rotate_left
      · intro Z hZ
        obtain ⟨⟨x0, x1⟩, x2⟩ := hZ
        go_simp
        try with_reducible rfl
      try simp only [Act.put, List.setIfInBounds_toArray, List.set_cons_zero, List.set_cons_succ]
      refine wpN_take (i := 10) (oi := { dst := some 45, op := .move (.tmp 7), type := _, pos := _, after := _, guard := _ }) (v := ?_) rfl (by kernel_rfl) (by kernel_rfl) (by kernel_rfl) (by kernel_rfl) (fun _ _ _ h => h) (Or.inl ⟨by rfl, ?_⟩) hS ?_
      rotate_left
      · intro Z hZ
        obtain ⟨⟨x0, x1⟩, x2⟩ := hZ
        go_simp
        try with_reducible rfl
      try simp only [Act.put, List.setIfInBounds_toArray, List.set_cons_zero, List.set_cons_succ]
      refine wpN_take (i := 11) (oi := { dst := some 46, op := .move (.tmp 8), type := _, pos := _, after := _, guard := _ }) (v := ?_) rfl (by kernel_rfl) (by kernel_rfl) (by kernel_rfl) (by kernel_rfl) (fun _ _ _ h => h) (Or.inl ⟨by rfl, ?_⟩) hS ?_
      rotate_left
      · intro Z hZ
        obtain ⟨⟨x0, x1⟩, x2⟩ := hZ
        go_simp
        try with_reducible rfl
      try simp only [Act.put, List.setIfInBounds_toArray, List.set_cons_zero, List.set_cons_succ]
      refine wpN_take (i := 12) (oi := { dst := some 47, op := .indexAddr _ (.tmp 45) (.tmp 46), type := _, pos := _, after := _, guard := _ }) (v := ?_) rfl (by kernel_rfl) (by kernel_rfl) (by kernel_rfl) (by kernel_rfl) (fun _ _ _ h => h) (Or.inl ⟨by rfl, ?_⟩) hS ?_
      rotate_left
      · intro Z hZ
        obtain ⟨⟨x0, x1⟩, x2⟩ := hZ
        go_simp
        try with_reducible rfl
      try simp only [Act.put, List.setIfInBounds_toArray, List.set_cons_zero, List.set_cons_succ]
      refine wpN_take (i := 13) (oi := { dst := some 48, op := .fieldAddr _ (.tmp 47) 1, type := _, pos := _, after := _, guard := _ }) (v := ?_) rfl (by kernel_rfl) (by kernel_rfl) (by kernel_rfl) (by kernel_rfl) (fun _ _ _ h => h) (Or.inl ⟨by rfl, ?_⟩) hS ?_
      rotate_left
      · intro Z hZ
        obtain ⟨⟨x0, x1⟩, x2⟩ := hZ
        go_simp
        try with_reducible rfl
      try simp only [Act.put, List.setIfInBounds_toArray, List.set_cons_zero, List.set_cons_succ]
      refine wpN_take (i := 14) (oi := { dst := some 49, op := .load _ (.tmp 48), type := _, pos := _, after := _, guard := _ }) (v := ?_) rfl (by kernel_rfl) (by kernel_rfl) (by kernel_rfl) (by kernel_rfl) (fun _ _ _ h => h) (Or.inl ⟨by rfl, ?_⟩) hS ?_
      rotate_left
      · intro Z hZ
        obtain ⟨⟨x0, x1⟩, x2⟩ := hZ
        go_simp
        try with_reducible rfl
      try simp only [Act.put, List.setIfInBounds_toArray, List.set_cons_zero, List.set_cons_succ]
      refine wpN_one (j := 8) (o := { dst := some 43, op := _, type := _, pos := _, after := _, guard := _ }) (by kernel_rfl) rfl ?_
      intro K hK
      go_simp
      go_at_call 44
      refine (tets_spec A n c _).mono ?_
      rintro e u1 ⟨rfl, hb'⟩
      have hb := undrew hb'
      have zu : Y.heap.size ≤ u1.heap.size := hb.size
      have d0 := (hb.cell (p := ⟨g7, f * 2, none⟩) (by dsimp only; omega)).trans d0
      have d1 := (hb.cell (p := ⟨g7, f * 2 + 1, none⟩) (by dsimp only; omega)).trans d1
      have e0 := (hb.frozen (p := ⟨g7, f * 2, none⟩) (by dsimp only; omega)).trans e0
      have e1 := (hb.frozen (p := ⟨g7, f * 2 + 1, none⟩) (by dsimp only; omega)).trans e1
      have y0 := (hb.cell (p := ⟨w.heap.size, 0, none⟩) (by dsimp only; omega)).trans y0
      have BU := Lib.hid hb
      clear hS hb hb'
      have hS : (fun Z : World => (Z.cell? ⟨g7, f * 2, none⟩ = some (.int .i64 tv) ∧ Z.cell? ⟨g7, f * 2 + 1, none⟩ = some (.int .i64 pv)) ∧ Z.cell? ⟨w.heap.size, 0, none⟩ = some (.slice A n c)) u1 := ⟨⟨d0, d1⟩, y0⟩
      refine hK _ _ (fun _ => hS) ?_
      clear hK K
      try simp only [Act.put, List.setIfInBounds_toArray, List.set_cons_zero, List.set_cons_succ]
      refine wpN_one (j := 9) (o := { dst := some 44, op := _, type := _, pos := _, after := _, guard := _ }) (by kernel_rfl) rfl ?_
      intro K hK
      go_simp
      refine hK _ _ (fun _ => hS) ?_
      clear hK K
      try simp only [Act.put, List.setIfInBounds_toArray, List.set_cons_zero, List.set_cons_succ]
      refine wpN_one (j := 15) (o := { dst := some 50, op := _, type := _, pos := _, after := _, guard := _ }) (by kernel_rfl) rfl ?_
      intro K hK
      go_simp
      refine hK _ _ (fun _ => hS) ?_
      clear hK K
      try simp only [Act.put, List.setIfInBounds_toArray, List.set_cons_zero, List.set_cons_succ]
      refine wpN_one (j := 16) (o := { dst := some 51, op := _, type := _, pos := _, after := _, guard := _ }) (by kernel_rfl) rfl ?_
      intro K hK
      go_simp
      refine hK _ _ (fun _ => hS) ?_
      clear hK K
      try simp only [Act.put, List.setIfInBounds_toArray, List.set_cons_zero, List.set_cons_succ]
      refine wpN_one (j := 17) (o := { dst := none, op := _, type := _, pos := _, after := _, guard := _ }) (by kernel_rfl) rfl ?_
      intro K hK
      go_simp
      refine hK _ _ (fun h => absurd h (Bool.eq_false_iff.1 (by kernel_rfl))) ?_
      clear hK K hS
      refine wpN_done (by kernel_rfl) ?_
      have RU := (RY.out.below BU.out (by omega)).setFace p8 hf4 (tv + (n : Int)) pv
      rw [Nat.zero_add] at RU
      have RN := Lib.hid RU
      clear RU d0 d1 e0 e1 y0 y1 yb yf
      go_wp2
      go_roundw
      case rel => exact ⟨f + 1, by omega, by go_num, by rw [PS.out]; exact RN.out, ((KY.out.trans (Kept.of_below BU.out _ _)).set_ g70 g71 _).set_ g70 g71 _⟩
      case measure => simp [intOf]; omega
end Fc
end Go.Proofs.YtajbahfbldmckaaDoor

namespace Go.Proofs.YtajbahfbldmckaaDoor
open Go.RowKit Go.Shelf
namespace Fc
set_option maxRecDepth 100000 in
set_option maxHeartbeats 8000000 in
theorem union_spec (A : Option Addr) (n c : Nat) (T : List (List Int)) (A2 : Option Addr) (n2 c2 : Nat) (S : List (List Int)) (w : World) (h : RdT w w.heap.size A n T) (h' : RdT w w.heap.size A2 n2 S) (hn : n ≤ 1048576) (hn2 : n2 ≤ 1048576) :
    Calls Tryd.prog 29 #[.agg #[.slice A n c], .agg #[.slice A2 n2 c2]] w (ResTC w (Tr.unT T S) (Tr.unC T S)) := by
  have LN := Lib.hid h.len
  have LS := Lib.hid h'.len
  have HT := Lib.hid h
  have HS := Lib.hid h'
  have TI := Lib.hid (fun (W : World) (hb : Below w.heap.size w W) => isTri_specT A n c T W (h.into hb) hn)
  have TS := Lib.hid (fun (W : World) (hb : Below w.heap.size w W) => isTri_specT A2 n2 c2 S W (h'.into hb) hn2)
  clear h h'
  obtain ⟨U, hU⟩ : ∃ U, U = ((w.alloc (Obj.cells #[.slice A n c] 28)).alloc (Obj.cells #[.slice A2 n2 c2] 28)).alloc (Obj.cells #[.slice none 0 0] 28) := ⟨_, rfl⟩
  have hB : Below w.heap.size w U := by rw [hU]; exact (al2 w _ _).trans ((al1 _ _).mono (by simp; omega))
  have z : U.heap.size = w.heap.size + 3 := by rw [hU]; simp
  have k0 : U.cell? ⟨w.heap.size, 0, none⟩ = some (.slice A n c) := by rw [hU]; simp [go_sem]
  have ks : U.cell? ⟨w.heap.size + 1, 0, none⟩ = some (.slice A2 n2 c2) := by rw [hU]; simp [go_sem]
  have k1 : U.cell? ⟨w.heap.size + 2, 0, none⟩ = some (.slice none 0 0) := by rw [hU]; simp [go_sem]
  have f1 : U.frozen? ⟨w.heap.size + 2, 0, none⟩ = false := by rw [hU]; simp [go_sem]
  have D0 := Lib.hid hB
  clear hB
  go_enter Tryd.func29, Tryd.ntmps29
  go_upto_region 1 with fail
  rw [← hU]
  clear hU
  go_wp2_with fail
  refine (TI.out _ D0.out).mono ?_
  rintro e w1 ⟨rfl, hb⟩
  have k0 := (hb.cell (p := ⟨w.heap.size, 0, none⟩) (by dsimp only; omega)).trans k0
  have ks := (hb.cell (p := ⟨w.heap.size + 1, 0, none⟩) (by dsimp only; omega)).trans ks
  have k1 := (hb.cell (p := ⟨w.heap.size + 2, 0, none⟩) (by dsimp only; omega)).trans k1
  have f1 := (hb.frozen (p := ⟨w.heap.size + 2, 0, none⟩) (by dsimp only; omega)).trans f1
  have D1 := Lib.hid (D0.out.trans (hb.mono (by omega)))
  have z1 : U.heap.size ≤ w1.heap.size := hb.size
  clear hb
  by_cases hok : Tr.Is T
  case neg =>
    rw [decide_eq_false hok]
    have R := Lib.hid (Tr.un_1 (T := T) (S := S) (fun e => hok e.1))
    clear hok
    go_wp2
    refine bodyPost_ret (v := .tuple #[.agg #[.slice none 0 0], .int .i64 1]) (by simp [results, Tryd.results29, k1, go_sem]) rfl ?_
    rw [R.out.1, R.out.2]
    exact ⟨none, 0, [], rfl, OwnS.nil _ _ _, rfl, D1.out.setCell (by dsimp only; omega) _⟩
  rw [decide_eq_true hok]
  have IT := Lib.hid hok
  clear hok
  go_wp2_with fail
  refine (TS.out _ D1.out).mono ?_
  rintro e w2 ⟨rfl, hb⟩
  have k0 := (hb.cell (p := ⟨w.heap.size, 0, none⟩) (by dsimp only; omega)).trans k0
  have ks := (hb.cell (p := ⟨w.heap.size + 1, 0, none⟩) (by dsimp only; omega)).trans ks
  have k1 := (hb.cell (p := ⟨w.heap.size + 2, 0, none⟩) (by dsimp only; omega)).trans k1
  have f1 := (hb.frozen (p := ⟨w.heap.size + 2, 0, none⟩) (by dsimp only; omega)).trans f1
  have D2 := Lib.hid (D1.out.trans (hb.mono (by omega)))
  have z2 : w1.heap.size ≤ w2.heap.size := hb.size
  clear hb
  by_cases hok : Tr.Is S
  case neg =>
    rw [decide_eq_false hok]
    have R := Lib.hid (Tr.un_1 (T := T) (S := S) (fun e => hok e.2))
    clear hok
    go_wp2
    refine bodyPost_ret (v := .tuple #[.agg #[.slice none 0 0], .int .i64 1]) (by simp [results, Tryd.results29, k1, go_sem]) rfl ?_
    rw [R.out.1, R.out.2]
    exact ⟨none, 0, [], rfl, OwnS.nil _ _ _, rfl, D2.out.setCell (by dsimp only; omega) _⟩
  rw [decide_eq_true hok]
  have IS := Lib.hid hok
  clear hok TI TS
  have h8 : n ≤ 8 := by rw [← LN.out]; exact IT.out.1
  have h82 : n2 ≤ 8 := by rw [← LS.out]; exact IS.out.1
  have wr1 : IntKind.i64.wrap ((n : Int) + (n2 : Int)) = (n : Int) + (n2 : Int) := IntWalk.i64_in _ (by omega)
  go_upto_region 3 with fail
  by_cases hs : n + n2 ≤ 8
  case neg =>
    have R := Lib.hid (Tr.un_3 (T := T) (S := S) IT.out IS.out (by rw [LN.out, LS.out]; exact hs))
    have t9 : decide (8 < (n : Int) + (n2 : Int)) = true := by simp; omega
    clear hs
    have CUR := Lib.hid (Below.refl w2.heap.size w2)
    have SX := Lib.hid (fun (Z : World) (hb : Below w2.heap.size w2 Z) => (hb.cell (p := ⟨w.heap.size, 0, none⟩) (by dsimp only; omega)).trans k0)
    have SY := Lib.hid (fun (Z : World) (hb : Below w2.heap.size w2 Z) => (hb.cell (p := ⟨w.heap.size + 1, 0, none⟩) (by dsimp only; omega)).trans ks)
    go_region_held3 (fun Z => Z.cell? ⟨w.heap.size, 0, none⟩ = some (.slice A n c) ∧ Z.cell? ⟨w.heap.size + 1, 0, none⟩ = some (.slice A2 n2 c2)) (go_keep) (first
      | (go_at_call 44; (with_reducible refine (tets_spec A n c _).mono ?_); rintro e x1 ⟨rfl, hb6'⟩; (first | have hb6 := undrew hb6' | have hb6 := hb6'); replace CUR := Lib.hid (CUR.out.trans (hb6.mono CUR.out.size)); have k0 := SX.out _ CUR.out; have ks := SY.out _ CUR.out; clear hb6 hb6')
      | (go_at_call 44; (with_reducible refine (tets_spec A2 n2 c2 _).mono ?_); rintro e x2 ⟨rfl, hb6'⟩; (first | have hb6 := undrew hb6' | have hb6 := hb6'); replace CUR := Lib.hid (CUR.out.trans (hb6.mono CUR.out.size)); have k0 := SX.out _ CUR.out; have ks := SY.out _ CUR.out; clear hb6 hb6'))
    all_goals
      have D9 := Lib.hid (D2.out.trans (CUR.out.mono (by omega)))
      have z9 : w2.heap.size ≤ x2.heap.size := CUR.out.size
      have k1 := (CUR.out.cell (p := ⟨w.heap.size + 2, 0, none⟩) (by dsimp only; omega)).trans k1
      have f1 := (CUR.out.frozen (p := ⟨w.heap.size + 2, 0, none⟩) (by dsimp only; omega)).trans f1
      clear CUR SX SY
      go_wp2
      refine bodyPost_ret (v := .tuple #[.agg #[.slice none 0 0], .int .i64 3]) (by simp [results, Tryd.results29, k1, go_sem]) rfl ?_
      rw [R.out.1, R.out.2]
      exact ⟨none, 0, [], rfl, OwnS.nil _ _ _, rfl, D9.out.setCell (by dsimp only; omega) _⟩
  have R := Lib.hid (Tr.un_0 (T := T) (S := S) IT.out IS.out (by rw [LN.out, LS.out]; exact hs))
  have t9 : decide (8 < (n : Int) + (n2 : Int)) = false := by simp; omega
  have CUR := Lib.hid (Below.refl w2.heap.size w2)
  have SX := Lib.hid (fun (Z : World) (hb : Below w2.heap.size w2 Z) => (hb.cell (p := ⟨w.heap.size, 0, none⟩) (by dsimp only; omega)).trans k0)
  have SY := Lib.hid (fun (Z : World) (hb : Below w2.heap.size w2 Z) => (hb.cell (p := ⟨w.heap.size + 1, 0, none⟩) (by dsimp only; omega)).trans ks)
  go_region_held3 (fun Z => Z.cell? ⟨w.heap.size, 0, none⟩ = some (.slice A n c) ∧ Z.cell? ⟨w.heap.size + 1, 0, none⟩ = some (.slice A2 n2 c2)) (go_keep) (first
    | (go_at_call 44; (with_reducible refine (tets_spec A n c _).mono ?_); rintro e x1 ⟨rfl, hb6'⟩; (first | have hb6 := undrew hb6' | have hb6 := hb6'); replace CUR := Lib.hid (CUR.out.trans (hb6.mono CUR.out.size)); have k0 := SX.out _ CUR.out; have ks := SY.out _ CUR.out; clear hb6 hb6')
    | (go_at_call 44; (with_reducible refine (tets_spec A2 n2 c2 _).mono ?_); rintro e x2 ⟨rfl, hb6'⟩; (first | have hb6 := undrew hb6' | have hb6 := hb6'); replace CUR := Lib.hid (CUR.out.trans (hb6.mono CUR.out.size)); have k0 := SX.out _ CUR.out; have ks := SY.out _ CUR.out; clear hb6 hb6'))
  all_goals
    have D9 := Lib.hid (D2.out.trans (CUR.out.mono (by omega)))
    have z9 : w2.heap.size ≤ x2.heap.size := CUR.out.size
    have k1 := (CUR.out.cell (p := ⟨w.heap.size + 2, 0, none⟩) (by dsimp only; omega)).trans k1
    have f1 := (CUR.out.frozen (p := ⟨w.heap.size + 2, 0, none⟩) (by dsimp only; omega)).trans f1
    clear CUR SX SY
    have UN := Lib.hid (l07Union_spec A n c T A2 n2 c2 S x2 (HT.out.into D9.out) (HS.out.into D9.out) h8 h82 IT.out.2.1 IS.out)
    go_wp2_with fail
    refine UN.out.mono ?_
    rintro e y1 ⟨A1, c1, rs1, rfl, hO, hV1, hb⟩
    have k1 := (hb.cell (p := ⟨w.heap.size + 2, 0, none⟩) (by dsimp only; omega)).trans k1
    have f1 := (hb.frozen (p := ⟨w.heap.size + 2, 0, none⟩) (by dsimp only; omega)).trans f1
    have E1 := Lib.hid (D9.out.trans (hb.mono (by omega)))
    have O1 := Lib.hid hO
    have V1 := Lib.hid (show vals rs1 = T ++ Tr.shT T.length S from by rw [LN.out]; exact hV1)
    have zy := hb.size
    clear hb hO hV1 UN
    go_wp2
    refine bodyPost_ret (v := .tuple #[.agg #[.slice A1 rs1.length c1], .int .i64 0]) (by simp [results, Tryd.results29, k1, go_sem]) rfl ?_
    rw [R.out.1, R.out.2]
    exact ⟨A1, c1, rs1, rfl, (O1.out.far (p := ⟨w.heap.size + 2, 0, none⟩) (.inl (by dsimp only; omega)) _).wide (by omega) (by simp [World.setCell]), V1.out, E1.out.setCell (by dsimp only; omega) _⟩

end Fc
end Go.Proofs.YtajbahfbldmckaaDoor

namespace Go.Proofs.YtajbahfbldmckaaDoor
open Go Go.ChangeShapes Go.WideShapes Go.ChangeAt Go.RowKit

/-- A box of one cell. -/
structure Box1 (w : World) (b : Nat) (x : Value) : Prop where
  c : w.cell? ⟨b, 0, none⟩ = some x
theorem Box1.below {w w' : World} {b : Nat} {x : Value} {B : Nat} (h : Box1 w b x) (hb : Below B w w') (hg : b < B) : Box1 w' b x := ⟨(hb.cell (p := ⟨b, 0, none⟩) hg).trans h.c⟩
theorem Box1.new (w : World) (t : TypeId) (x : Value) : Box1 (w.alloc (.cells #[x] t)) w.heap.size x := ⟨by simp [go_sem]⟩
theorem Box1.kept {w w' : World} {lo hi b : Nat} {x : Value} (h : Box1 w b x) (hk : Kept lo hi w w') (hg : b < w.heap.size) (hn : ¬ (lo ≤ b ∧ b < hi)) : Box1 w' b x := ⟨(World.cell?_of_block (a := ⟨b, 0, none⟩) (hk.block b hg hn)).trans h.c⟩
theorem Box1.set_ {W : World} {b : Nat} {x u : Value} (h : Box1 W b x) : Box1 (W.setCell ⟨b, 0, none⟩ u) b u := ⟨by simp [h.c, go_sem]⟩

/-- An answer of at most eight tetrahedra. -/
def Fc.Szd (T : List (List Int)) : Prop := T.length ≤ 8 ∧ ∀ z ∈ T, z.length ≤ 8
theorem Fc.Szd.nil : Fc.Szd [] := ⟨by simp, by simp⟩
theorem Fc.Szd.len {T : List (List Int)} {rs : List Fc.Rw} (h : Fc.Szd T) (hv : Fc.vals rs = T) : rs.length ≤ 1048576 := by have := h.1; rw [← hv, Fc.vals_len] at this; omega
theorem Fc.Szd.row0 {T : List (List Int)} {rs : List Fc.Rw} (h : Fc.Szd T) (hv : Fc.vals rs = T) : ∀ r ∈ rs, r.zs.length ≤ 8 := fun r hr => h.2 _ (by rw [← hv]; exact List.mem_map_of_mem hr)
theorem Fc.Szd.row {T : List (List Int)} {rs : List Fc.Rw} (h : Fc.Szd T) (hv : Fc.vals rs = T) : ∀ r ∈ rs, r.zs.length / 2 ≤ 1048576 := fun r hr => by have := h.row0 hv r hr; omega
theorem Fc.tot_le8 : ∀ rs : List Fc.Rw, (∀ r ∈ rs, r.zs.length ≤ 8) → Fc.tot rs ≤ 8 * rs.length
  | [], _ => by simp [Fc.tot]
  | r :: rs, h => by
    have h1 := h r (List.mem_cons_self ..)
    have h2 := tot_le8 rs fun q hq => h q (List.mem_cons_of_mem _ hq)
    simp only [Fc.tot, List.length_cons]
    omega
theorem Fc.Szd.tot {T : List (List Int)} {rs : List Fc.Rw} (h : Fc.Szd T) (hv : Fc.vals rs = T) : rs.length + Fc.tot rs ≤ 2097152 := by
  have h1 := Fc.tot_le8 rs (h.row0 hv)
  have h2 := h.1
  rw [← hv, Fc.vals_len] at h2
  omega

theorem Tr.Four.mem {T : List (List Int)} (h : Tr.Four T) {z : List Int} (hz : z ∈ T) : z.length = 8 := by
  obtain ⟨i, hi, rfl⟩ := List.getElem_of_mem hz
  have := h i hi
  rwa [List.getD_eq_getElem?_getD, List.getElem?_eq_getElem hi] at this
theorem Tr.Is.szd {T : List (List Int)} (h : Tr.Is T) : Fc.Szd T := ⟨h.1, fun _ hz => Nat.le_of_eq (Tr.Four.mem h.2.1 hz)⟩

end Go.Proofs.YtajbahfbldmckaaDoor

namespace Go.Proofs.YtajbahfbldmckaaDoor
open Go Go.ChangeShapes Go.WideShapes Go.ChangeAt Go.RowKit

/-- A triangulation and a code behind a call, the triangulation in its box. -/
def CutT (wj : World) (tz : List (List Int)) (v p x : Value) (W : World) : Prop :=
  ∃ β R t rs, p = .pointer (some ⟨β, 0, none⟩) ∧ x = v ∧ Box1 W β (.slice R rs.length t) ∧ wj.heap.size ≤ β ∧ β < W.heap.size ∧ Fc.OwnS W wj.heap.size W.heap.size R t rs ∧ Fc.vals rs = tz ∧ Below wj.heap.size wj W
theorem CutT.new {wj W : World} {tz : List (List Int)} {v : Value} {lo : Nat} {R : Option Addr} {t : Nat} {rs : List Fc.Rw} {T : TypeId} (ho : Fc.OwnS W lo W.heap.size R t rs) (hv : Fc.vals rs = tz) (hb : Below wj.heap.size wj W) (hl : wj.heap.size ≤ lo) :
    CutT wj tz v (.pointer (some ⟨W.heap.size, 0, none⟩)) v (W.alloc (Obj.cells #[.slice R rs.length t] T)) :=
  ⟨W.heap.size, R, t, rs, rfl, rfl, Box1.new _ _ _, hb.size, by simp, (ho.below (al1 _ _) (Nat.le_refl _)).wide hl (by simp), hv, hb.alloc hb.size _⟩
theorem CutT.old {wj W : World} {tz : List (List Int)} {v : Value} {lo b : Nat} {R : Option Addr} {t : Nat} {rs : List Fc.Rw} {x : Value} (ho : Fc.OwnS W lo W.heap.size R t rs) (hv : Fc.vals rs = tz) (hx : Box1 W b x) (hb : Below wj.heap.size wj W) (hl : wj.heap.size ≤ b) (hlo : b < lo) (hh : b < W.heap.size) :
    CutT wj tz v (.pointer (some ⟨b, 0, none⟩)) v (W.setCell ⟨b, 0, none⟩ (.slice R rs.length t)) :=
  ⟨b, R, t, rs, rfl, rfl, hx.set_, hl, by simpa [World.setCell] using hh, ((ho.far (p := ⟨b, 0, none⟩) (.inl hlo) _).wide (by omega) (by simp [World.setCell])), hv, hb.setCell hl _⟩

set_option maxRecDepth 100000 in
set_option maxHeartbeats 16000000 in
theorem exactUnionTriangulations (Aa : Option Addr) (ca : Nat) (rsa : List Fc.Rw) (Ab : Option Addr) (cb : Nat) (rsb : List Fc.Rw) (tz : List (List Int)) (code : Int) (w : World) (ha : Fc.RdS w w.heap.size Aa rsa) (hb : Fc.RdS w w.heap.size Ab rsb) (hna : rsa.length + Fc.cnt rsa + (rsb.length + Fc.cnt rsb) ≤ 1048576) (hz : Fc.Szd tz)
    (hs : ∀ (W : World) (A A2 : Option Addr) (c c2 : Nat) (qs us : List Fc.Rw), Fc.RdS W W.heap.size A qs → Fc.vals qs = Fc.vals rsa → Fc.RdS W W.heap.size A2 us → Fc.vals us = Fc.vals rsb → Below w.heap.size w W → Calls Tryd.prog 29 #[.agg #[.slice A qs.length c], .agg #[.slice A2 us.length c2]] W (Fc.ResTC W tz code))
    (hi : ∀ (W : World) (A A2 : Option Addr) (c c2 : Nat) (qs us : List Fc.Rw), Fc.RdS W W.heap.size A qs → Fc.vals qs = Fc.vals rsa → Fc.RdS W W.heap.size A2 us → Fc.vals us = Fc.vals rsb → Below w.heap.size w W → Calls Tryd.prog 30 #[.agg #[.slice A qs.length c], .agg #[.slice A2 us.length c2]] W (Fc.ResTC W tz code)) :
    Calls Tryd.prog 7 #[.agg #[.slice Aa rsa.length ca], .agg #[.slice Ab rsb.length cb]] w fun e w' => e = .returned (.bool true) ∧ Below w.heap.size w w' := by
  have HS := Lib.hid hs
  have HI := Lib.hid hi
  clear hs hi
  have Ha := Lib.hid ha
  have Hb := Lib.hid hb
  have HZ := Lib.hid hz
  clear ha hb hz
  have hnla : rsa.length ≤ 1048576 := by omega
  have hmla : rsa.length ≤ maxLen := Nat.le_trans hnla (by unfold maxLen; omega)
  have ROWa := Lib.hid (show ∀ r ∈ rsa, r.zs.length / 2 ≤ 1048576 from fun r hr => by have := Fc.row_le_cnt hr; omega)
  have TTa := Lib.hid (show Fc.tot rsa = 2 * Fc.cnt rsa from Fc.tot_cnt (fun r hr => (Ha.out.1 r hr).le.2))
  have hnlb : rsb.length ≤ 1048576 := by omega
  have hmlb : rsb.length ≤ maxLen := Nat.le_trans hnlb (by unfold maxLen; omega)
  have ROWb := Lib.hid (show ∀ r ∈ rsb, r.zs.length / 2 ≤ 1048576 from fun r hr => by have := Fc.row_le_cnt hr; omega)
  have TTb := Lib.hid (show Fc.tot rsb = 2 * Fc.cnt rsb from Fc.tot_cnt (fun r hr => (Hb.out.1 r hr).le.2))
  have tl0 : decide ((1048576 : Int) - (rsa.length : Int) - (Fc.cnt rsa : Int) < 0) = false := by simp; omega
  have tl1 : decide ((1048576 : Int) - (rsa.length : Int) - (Fc.cnt rsa : Int) - (rsb.length : Int) - (Fc.cnt rsb : Int) < 0) = false := by simp; omega
  obtain ⟨V, hV⟩ : ∃ V, V = ((w.alloc (Obj.cells #[.slice Aa rsa.length ca] 24)).alloc (Obj.cells #[.slice Ab rsb.length cb] 24)) := ⟨_, rfl⟩
  have sV : w.heap.size + 1 < V.heap.size := by rw [hV]; simp
  have ba_0 := Lib.hid (show Box1 V w.heap.size (.slice Aa rsa.length ca) from by rw [hV]; exact (Box1.new w _ _).below (al1 _ _) (by simp))
  have bm_0 := Lib.hid (show Box1 V (w.heap.size + 1) (.slice Ab rsb.length cb) from by rw [hV]; simpa using Box1.new (w.alloc (Obj.cells #[.slice Aa rsa.length ca] 24)) 24 (.slice Ab rsb.length cb))
  have HB := Lib.hid (show Below w.heap.size w V from by rw [hV]; exact al2 _ _ _)
  go_enter Tryd.func7, Tryd.ntmps7
  have vz0 : w.heap.size < V.heap.size := by omega
  go_upto_region 2 with fail
  rw [← hV]
  clear hV
  obtain ⟨qba0⟩ := ba_0.out
  obtain ⟨qbm0⟩ := bm_0.out
  go_wp2_with fail
  refine (Fc.szT_any Aa ca rsa _ _ (Ha.out.into HB.out) hmla (by omega) (by omega)).mono ?_
  rintro e w1 ⟨rfl, hb⟩
  rw [if_neg (by omega)]
  clear qba0 qbm0
  have D1 := Lib.hid (hb)
  have s1 : V.heap.size + 0 ≤ w1.heap.size := by have := hb.size; (try simp at this); omega
  have ba_1 := Lib.hid (ba_0.out.below D1.out (by omega))
  clear ba_0
  have bm_1 := Lib.hid (bm_0.out.below D1.out (by omega))
  clear bm_0
  have HB1 := Lib.hid (HB.out.trans (D1.out.mono (by omega)))
  clear HB
  have HB := HB1
  clear HB1 hb
  have z_ba : w.heap.size < w1.heap.size := by omega
  have z_bm : (w.heap.size + 1) < w1.heap.size := by omega
  obtain ⟨qba0⟩ := ba_1.out
  obtain ⟨qbm0⟩ := bm_1.out
  go_wp2_with fail
  refine (Fc.szT_any Ab cb rsb _ _ (Hb.out.into HB.out) hmlb (by omega) (by omega)).mono ?_
  rintro e w2 ⟨rfl, hb⟩
  rw [if_neg (by omega)]
  clear qba0 qbm0
  have D2 := Lib.hid (hb)
  have s2 : w1.heap.size + 0 ≤ w2.heap.size := by have := hb.size; (try simp at this); omega
  have ba_2 := Lib.hid (ba_1.out.below D2.out (by omega))
  clear ba_1
  have bm_2 := Lib.hid (bm_1.out.below D2.out (by omega))
  clear bm_1
  have HB2 := Lib.hid (HB.out.trans (D2.out.mono (by omega)))
  clear HB
  have HB := HB2
  clear HB2 hb
  clear z_ba
  have z_ba : w.heap.size < w2.heap.size := by omega
  clear z_bm
  have z_bm : (w.heap.size + 1) < w2.heap.size := by omega
  obtain ⟨qba0⟩ := ba_2.out
  obtain ⟨qbm0⟩ := bm_2.out
  go_upto_region 8 with fail
  go_cut [6, 7] (fun p x W => CutT w2 tz (.int .i64 code) p x W)
  case first =>
    go_region_held3 (fun W => W.cell? ⟨w.heap.size, 0, none⟩ = some (.slice Aa rsa.length ca) ∧ W.cell? ⟨(w.heap.size + 1), 0, none⟩ = some (.slice Ab rsb.length cb)) (go_keep)
      (first
        | (go_at_call 15; (with_reducible refine (Fc.toT_any Aa ca rsa _ (by first | exact Ha.out.into HB.out.drew | exact Ha.out.into (HB.out.alloc (by omega) _).drew) hnla ROWa.out).mono ?_); rintro e w6 ⟨g6, c6, rs6, rfl, hk6, hv6, hb6⟩; (first | (have U6 : Hid (Below w2.heap.size w2 w6) := Lib.hid (undrew hb6); have z6 : w2.heap.size ≤ w6.heap.size := U6.out.size; (try have Zb := Lib.hid (Zb.out.below U6.out (by omega))); (try have Zf := Lib.hid (Zf.out.below U6.out (by omega)))) | (have U6 : Hid (Below w2.heap.size w2 w6) := Lib.hid (on1 _ (undrew hb6)); have z6 : w2.heap.size < w6.heap.size := (by have := (undrew hb6).size; simp at this; omega); have Zb := Lib.hid ((Box1.new w2 28 (.slice none 0 0)).below (undrew hb6) (by simp)); have Zf := Lib.hid ((Free.new w2 28 #[.slice none 0 0]).below (undrew hb6) (by simp)))); have K6 := Lib.hid hk6; have V6 := Lib.hid hv6; have e0 := (ba_2.out.below U6.out (by omega)).c; have e1 := (bm_2.out.below U6.out (by omega)).c; have y6 : w.heap.size < w6.heap.size := (by omega); have y6_ : (w.heap.size + 1) < w6.heap.size := (by omega); (try clear j0 jf); (try have j0 := Zb.out.c); (try have jf := Zf.out); (try unfold Free at jf); clear hk6 hv6 hb6)
        | (go_at_call 15; (with_reducible refine (Fc.toT_any Ab cb rsb _ (by first | exact Hb.out.into (HB.out.trans (U6.out.mono (by omega))) | exact Hb.out.into ((HB.out.trans (U6.out.mono (by omega))).alloc (by omega) _)) hnlb ROWb.out).mono ?_); rintro e w7 ⟨g7, c7, rs7, rfl, hk7, hv7, hb7⟩; (first | (have U7 : Hid (Below w6.heap.size w6 w7) := Lib.hid hb7; have z7 : w6.heap.size ≤ w7.heap.size := U7.out.size; (try have Zb := Lib.hid (Zb.out.below U7.out (by omega))); (try have Zf := Lib.hid (Zf.out.below U7.out (by omega)))) | (have U7 : Hid (Below w6.heap.size w6 w7) := Lib.hid (on1 _ hb7); have z7 : w6.heap.size < w7.heap.size := (by have := hb7.size; simp at this; omega); have Zb := Lib.hid ((Box1.new w6 28 (.slice none 0 0)).below hb7 (by simp)); have Zf := Lib.hid ((Free.new w6 28 #[.slice none 0 0]).below hb7 (by simp)))); have K7 := Lib.hid hk7; have V7 := Lib.hid hv7; have f0 := ((ba_2.out.below U6.out (by omega)).below U7.out (by omega)).c; have f1 := ((bm_2.out.below U6.out (by omega)).below U7.out (by omega)).c; have y7 : w.heap.size < w7.heap.size := (by omega); have y7_ : (w.heap.size + 1) < w7.heap.size := (by omega); (try clear j0 jf); (try have j0 := Zb.out.c); (try have jf := Zf.out); (try unfold Free at jf); clear hk7 hv7 hb7)
        | (go_at_call 29; (first | with_reducible refine (HS.out _ _ _ _ _ _ _ (by exact (((K6.out.rd).below U7.out).more U7.out.size)) V6.out (by exact K7.out.rd) V7.out (by exact (HB.out.trans (U6.out.mono (by omega))).trans (U7.out.mono (by omega)))).mono ?_ | with_reducible refine (HS.out _ _ _ _ _ _ _ (by exact (((K6.out.rd).below U7.out).more U7.out.size).into (al1 _ _)) V6.out (by exact K7.out.rd.into (al1 _ _)) V7.out (by exact ((HB.out.trans (U6.out.mono (by omega))).trans (U7.out.mono (by omega))).alloc (by omega) _)).mono ?_); rintro e w3 ⟨R3, t3, rs3, rfl, hown, hv8, hb8⟩; (first | (have U8 : Hid (Below w7.heap.size w7 w3) := Lib.hid hb8; have z8 : w7.heap.size ≤ w3.heap.size := U8.out.size; (try have Zb := Lib.hid (Zb.out.below U8.out (by omega))); (try have Zf := Lib.hid (Zf.out.below U8.out (by omega)))) | (have U8 : Hid (Below w7.heap.size w7 w3) := Lib.hid (on1 _ hb8); have z8 : w7.heap.size < w3.heap.size := (by have := hb8.size; simp at this; omega); have Zb := Lib.hid ((Box1.new w7 28 (.slice none 0 0)).below hb8 (by simp)); have Zf := Lib.hid ((Free.new w7 28 #[.slice none 0 0]).below hb8 (by simp)))); have O8 := Lib.hid hown; have W8 := Lib.hid hv8; have y8 : w.heap.size < w3.heap.size := (by omega); have y8_ : (w.heap.size + 1) < w3.heap.size := (by omega); have x8 : ¬ w3.heap.size = w.heap.size := (by omega); have x8_ : ¬ w3.heap.size = (w.heap.size + 1) := (by omega); have xa : ¬ w2.heap.size = w.heap.size := (by omega); have xb : ¬ w2.heap.size = (w.heap.size + 1) := (by omega); have xc : ¬ w6.heap.size = w.heap.size := (by omega); have xd : ¬ w6.heap.size = (w.heap.size + 1) := (by omega); have xe : ¬ w7.heap.size = w.heap.size := (by omega); have xf : ¬ w7.heap.size = (w.heap.size + 1) := (by omega); have m0 := (((ba_2.out.below U6.out (by omega)).below U7.out (by omega)).below U8.out (by omega)).c; have m1 := (((bm_2.out.below U6.out (by omega)).below U7.out (by omega)).below U8.out (by omega)).c; (try clear j0 jf); (try have j0 := Zb.out.c); (try have jf := Zf.out); (try unfold Free at jf); clear hown hv8 hb8))
    all_goals
      have UH := Lib.hid ((U6.out.trans (U7.out.mono (by omega))).trans (U8.out.mono (by omega)))
      clear e0 e1 f0 f1 m0 m1
      go_wp2_with fail
      go_meet
      first
        | exact CutT.new O8.out W8.out UH.out (by (try simp) <;> omega)
        | exact CutT.old O8.out W8.out Zb.out UH.out (by omega) (by (try simp) <;> omega) (by omega)
  obtain ⟨β3, R3, t3, rs3, rfl, rfl, hbx, hlo, hhi, hown, hv, hb⟩ := hcut
  obtain ⟨w3, rfl⟩ : ∃ W : World, W = wc := ⟨_, rfl⟩
  clear qba0 qbm0
  have Y3_3 := Lib.hid hown
  have bw_3 := Lib.hid hbx
  have V3 := Lib.hid hv
  clear hown hbx hv
  have D3 := Lib.hid (hb)
  have s3 : w2.heap.size + 0 ≤ w3.heap.size := by have := hb.size; (try simp at this); omega
  have ba_3 := Lib.hid (ba_2.out.below D3.out (by omega))
  clear ba_2
  have bm_3 := Lib.hid (bm_2.out.below D3.out (by omega))
  clear bm_2
  have HB3 := Lib.hid (HB.out.trans (D3.out.mono (by omega)))
  clear HB
  have HB := HB3
  clear HB3 hb
  clear z_ba
  have z_ba : w.heap.size < w3.heap.size := by omega
  clear z_bm
  have z_bm : (w.heap.size + 1) < w3.heap.size := by omega
  have z_bw : β3 < w3.heap.size := hhi
  as_aux_lemma =>
    obtain ⟨qba0⟩ := ba_3.out
    obtain ⟨qbm0⟩ := bm_3.out
    obtain ⟨qbw0⟩ := bw_3.out
    go_wp2_with fail
    refine (Fc.toT_any Aa ca rsa _ (Ha.out.into HB.out) hnla ROWa.out).mono ?_
    rintro e w4 ⟨g4, c4, rs4, rfl, hk, hv, hb⟩
    clear qba0 qbm0 qbw0
    have X4_4 := Lib.hid (hk.wide (lo' := w3.heap.size) (hi' := w4.heap.size) (by simp) (Nat.le_refl _))
    have V4 := Lib.hid hv
    clear hk hv
    have D4 := Lib.hid (hb)
    have s4 : w3.heap.size + 0 ≤ w4.heap.size := by have := hb.size; (try simp at this); omega
    have ba_4 := Lib.hid (ba_3.out.below D4.out (by omega))
    clear ba_3
    have bm_4 := Lib.hid (bm_3.out.below D4.out (by omega))
    clear bm_3
    have bw_4 := Lib.hid (bw_3.out.below D4.out (by omega))
    clear bw_3
    have Y3_4 := Lib.hid (Y3_3.out.below D4.out (by omega))
    clear Y3_3
    have HB4 := Lib.hid (HB.out.trans (D4.out.mono (by omega)))
    clear HB
    have HB := HB4
    clear HB4 hb
    clear z_ba
    have z_ba : w.heap.size < w4.heap.size := by omega
    clear z_bm
    have z_bm : (w.heap.size + 1) < w4.heap.size := by omega
    clear z_bw
    have z_bw : β3 < w4.heap.size := by omega
    obtain ⟨qba0⟩ := ba_4.out
    obtain ⟨qbm0⟩ := bm_4.out
    obtain ⟨qbw0⟩ := bw_4.out
    go_wp2_with fail
    refine (Fc.toT_any Ab cb rsb _ (Hb.out.into (HB.out.trans ((al1 _ _).mono (by omega)))) hnlb ROWb.out).mono ?_
    rintro e w5 ⟨g5, c5, rs5, rfl, hk, hv, hb⟩
    clear qba0 qbm0 qbw0
    have X5_5 := Lib.hid (hk.wide (lo' := w4.heap.size + 1) (hi' := w5.heap.size) (by simp) (Nat.le_refl _))
    have V5 := Lib.hid hv
    clear hk hv
    have D5 := Lib.hid (on1 _ hb)
    have s5 : w4.heap.size + 1 ≤ w5.heap.size := by have := hb.size; (try simp at this); omega
    have ba_5 := Lib.hid (ba_4.out.below D5.out (by omega))
    clear ba_4
    have bm_5 := Lib.hid (bm_4.out.below D5.out (by omega))
    clear bm_4
    have bw_5 := Lib.hid (bw_4.out.below D5.out (by omega))
    clear bw_4
    have bx_5 := Lib.hid ((Box1.new w4 28 (.slice (some ⟨g4, 0, none⟩) rs4.length c4)).below hb (by simp))
    have Y3_5 := Lib.hid (Y3_4.out.below D5.out (by omega))
    clear Y3_4
    have X4_5 := Lib.hid (X4_4.out.below D5.out (by omega))
    clear X4_4
    have HB5 := Lib.hid (HB.out.trans (D5.out.mono (by omega)))
    clear HB
    have HB := HB5
    clear HB5 hb
    clear z_ba
    have z_ba : w.heap.size < w5.heap.size := by omega
    clear z_bm
    have z_bm : (w.heap.size + 1) < w5.heap.size := by omega
    clear z_bw
    have z_bw : β3 < w5.heap.size := by omega
    have z_bx : w4.heap.size < w5.heap.size := by omega
    obtain ⟨qba0⟩ := ba_5.out
    obtain ⟨qbm0⟩ := bm_5.out
    obtain ⟨qbw0⟩ := bw_5.out
    obtain ⟨qbx0⟩ := bx_5.out
    go_wp2_with fail
    refine (HI.out _ _ _ _ _ _ _ ((X4_5.out.al (by omega) (al1 _ _)).rd.more (by (try simp) <;> omega)) V4.out ((X5_5.out.al (by omega) (al1 _ _)).rd.more (by (try simp) <;> omega)) V5.out (HB.out.trans ((al1 _ _).mono (by omega)))).mono ?_
    rintro e w6 ⟨R6, t6, rs6, rfl, hown, hv, hb⟩
    clear qba0 qbm0 qbw0 qbx0
    have Y6_6 := Lib.hid (hown.wide (lo' := w5.heap.size + 1) (hi' := w6.heap.size) (by simp) (Nat.le_refl _))
    have V6 := Lib.hid hv
    clear hown hv
    have D6 := Lib.hid (on1 _ hb)
    have s6 : w5.heap.size + 1 ≤ w6.heap.size := by have := hb.size; (try simp at this); omega
    have ba_6 := Lib.hid (ba_5.out.below D6.out (by omega))
    clear ba_5
    have bm_6 := Lib.hid (bm_5.out.below D6.out (by omega))
    clear bm_5
    have bw_6 := Lib.hid (bw_5.out.below D6.out (by omega))
    clear bw_5
    have bx_6 := Lib.hid (bx_5.out.below D6.out (by omega))
    clear bx_5
    have bn_6 := Lib.hid ((Box1.new w5 28 (.slice (some ⟨g5, 0, none⟩) rs5.length c5)).below hb (by simp))
    have Y3_6 := Lib.hid (Y3_5.out.below D6.out (by omega))
    clear Y3_5
    have X4_6 := Lib.hid (X4_5.out.below D6.out (by omega))
    clear X4_5
    have X5_6 := Lib.hid (X5_5.out.below D6.out (by omega))
    clear X5_5
    have HB6 := Lib.hid (HB.out.trans (D6.out.mono (by omega)))
    clear HB
    have HB := HB6
    clear HB6 hb
    clear z_ba
    have z_ba : w.heap.size < w6.heap.size := by omega
    clear z_bm
    have z_bm : (w.heap.size + 1) < w6.heap.size := by omega
    clear z_bw
    have z_bw : β3 < w6.heap.size := by omega
    clear z_bx
    have z_bx : w4.heap.size < w6.heap.size := by omega
    have z_bn : w5.heap.size < w6.heap.size := by omega
    obtain ⟨qba0⟩ := ba_6.out
    obtain ⟨qbm0⟩ := bm_6.out
    obtain ⟨qbw0⟩ := bw_6.out
    obtain ⟨qbx0⟩ := bx_6.out
    obtain ⟨qbn0⟩ := bn_6.out
    go_wp2_with fail
    refine (Fc.eqT_any _ _ _ _ rs6 rs3 (w6.heap.size) (w3.heap.size) _ (Y6_6.out.al (by omega) (al1 _ _)).rd (Y3_6.out.al (by omega) (al1 _ _)).rd (V6.out.trans V3.out.symm) (by (try simp) <;> omega) (by (try simp) <;> omega) (HZ.out.len V6.out) (HZ.out.row V6.out)).mono ?_
    rintro e w7 ⟨rfl, hb⟩
    clear qba0 qbm0 qbw0 qbx0 qbn0
    have D7 := Lib.hid (on1 _ hb)
    have s7 : w6.heap.size + 1 ≤ w7.heap.size := by have := hb.size; (try simp at this); omega
    have ba_7 := Lib.hid (ba_6.out.below D7.out (by omega))
    clear ba_6
    have bm_7 := Lib.hid (bm_6.out.below D7.out (by omega))
    clear bm_6
    have bw_7 := Lib.hid (bw_6.out.below D7.out (by omega))
    clear bw_6
    have bx_7 := Lib.hid (bx_6.out.below D7.out (by omega))
    clear bx_6
    have bn_7 := Lib.hid (bn_6.out.below D7.out (by omega))
    clear bn_6
    have bg_7 := Lib.hid ((Box1.new w6 28 (.slice R6 rs6.length t6)).below hb (by simp))
    have Y3_7 := Lib.hid (Y3_6.out.below D7.out (by omega))
    clear Y3_6
    have X4_7 := Lib.hid (X4_6.out.below D7.out (by omega))
    clear X4_6
    have X5_7 := Lib.hid (X5_6.out.below D7.out (by omega))
    clear X5_6
    have Y6_7 := Lib.hid (Y6_6.out.below D7.out (by omega))
    clear Y6_6
    have HB7 := Lib.hid (HB.out.trans (D7.out.mono (by omega)))
    clear HB
    have HB := HB7
    clear HB7 hb
    clear z_ba
    have z_ba : w.heap.size < w7.heap.size := by omega
    clear z_bm
    have z_bm : (w.heap.size + 1) < w7.heap.size := by omega
    clear z_bw
    have z_bw : β3 < w7.heap.size := by omega
    clear z_bx
    have z_bx : w4.heap.size < w7.heap.size := by omega
    clear z_bn
    have z_bn : w5.heap.size < w7.heap.size := by omega
    have z_bg : w6.heap.size < w7.heap.size := by omega
    as_aux_lemma =>
      obtain ⟨qba0⟩ := ba_7.out
      obtain ⟨qbm0⟩ := bm_7.out
      obtain ⟨qbw0⟩ := bw_7.out
      obtain ⟨qbx0⟩ := bx_7.out
      obtain ⟨qbn0⟩ := bn_7.out
      obtain ⟨qbg0⟩ := bg_7.out
      go_wp2_with fail
      go_region_held3 (fun W => (W.cell? ⟨w4.heap.size, 0, none⟩ = some (.slice (some ⟨g4, 0, none⟩) rs4.length c4)) ∧ (W.cell? ⟨w.heap.size, 0, none⟩ = some (.slice Aa rsa.length ca))) (go_keep)
        (first
          | (go_at_call 15; (with_reducible refine (Fc.toT_any Aa ca rsa _ (by exact Ha.out.into HB.out.drew) hnla ROWa.out).mono ?_); rintro e w8 ⟨g8, c8, rs8, rfl, hk6, hv6, hb6'⟩; have hb6 := undrew hb6'; have K6 := Lib.hid hk6; have B6 := Lib.hid hb6; have V6 := Lib.hid hv6; have z6 := hb6.size; have e0 := (hb6.cell (p := ⟨w4.heap.size, 0, none⟩) (by dsimp only; omega)).trans bx_7.out.c; have f0 := (hb6.cell (p := ⟨w.heap.size, 0, none⟩) (by dsimp only; omega)).trans ba_7.out.c; clear hk6 hv6 hb6 hb6')
          | (go_at_call 17; (with_reducible refine (Fc.eqT_any _ _ _ _ rs4 _ (w4.heap.size) _ _ (by exact X4_7.out.rd.below (B6.out.mono (by omega))) (by exact K6.out.rd) (V4.out.trans V6.out.symm) (by have := B6.out.size; omega) (Nat.le_refl _) (by have := Fc.vals_same V4.out; omega) (Fc.rows_same V4.out ROWa.out)).mono ?_); rintro e w9 ⟨rfl, hb7⟩; have m0 := (hb7.cell (p := ⟨w4.heap.size, 0, none⟩) (by dsimp only; omega)).trans e0; have y0 := (hb7.cell (p := ⟨w.heap.size, 0, none⟩) (by dsimp only; omega)).trans f0))
      clear e0 f0 m0 y0 K6 V6
      clear qba0 qbm0 qbw0 qbx0 qbn0 qbg0
      have hb6 := B6.out
      clear B6
      have D8 := Lib.hid (hb6)
      have s8 : w7.heap.size + 0 ≤ w8.heap.size := by have := hb6.size; (try simp at this); omega
      have ba_8 := Lib.hid (ba_7.out.below D8.out (by omega))
      clear ba_7
      have bm_8 := Lib.hid (bm_7.out.below D8.out (by omega))
      clear bm_7
      have bw_8 := Lib.hid (bw_7.out.below D8.out (by omega))
      clear bw_7
      have bx_8 := Lib.hid (bx_7.out.below D8.out (by omega))
      clear bx_7
      have bn_8 := Lib.hid (bn_7.out.below D8.out (by omega))
      clear bn_7
      have bg_8 := Lib.hid (bg_7.out.below D8.out (by omega))
      clear bg_7
      have Y3_8 := Lib.hid (Y3_7.out.below D8.out (by omega))
      clear Y3_7
      have X4_8 := Lib.hid (X4_7.out.below D8.out (by omega))
      clear X4_7
      have X5_8 := Lib.hid (X5_7.out.below D8.out (by omega))
      clear X5_7
      have Y6_8 := Lib.hid (Y6_7.out.below D8.out (by omega))
      clear Y6_7
      have HB8 := Lib.hid (HB.out.trans (D8.out.mono (by omega)))
      clear HB
      have HB := HB8
      clear HB8 hb6
      clear z_ba
      have z_ba : w.heap.size < w8.heap.size := by omega
      clear z_bm
      have z_bm : (w.heap.size + 1) < w8.heap.size := by omega
      clear z_bw
      have z_bw : β3 < w8.heap.size := by omega
      clear z_bx
      have z_bx : w4.heap.size < w8.heap.size := by omega
      clear z_bn
      have z_bn : w5.heap.size < w8.heap.size := by omega
      clear z_bg
      have z_bg : w6.heap.size < w8.heap.size := by omega
      have D9 := Lib.hid (hb7)
      have s9 : w8.heap.size + 0 ≤ w9.heap.size := by have := hb7.size; (try simp at this); omega
      have ba_9 := Lib.hid (ba_8.out.below D9.out (by omega))
      clear ba_8
      have bm_9 := Lib.hid (bm_8.out.below D9.out (by omega))
      clear bm_8
      have bw_9 := Lib.hid (bw_8.out.below D9.out (by omega))
      clear bw_8
      have bx_9 := Lib.hid (bx_8.out.below D9.out (by omega))
      clear bx_8
      have bn_9 := Lib.hid (bn_8.out.below D9.out (by omega))
      clear bn_8
      have bg_9 := Lib.hid (bg_8.out.below D9.out (by omega))
      clear bg_8
      have Y3_9 := Lib.hid (Y3_8.out.below D9.out (by omega))
      clear Y3_8
      have X4_9 := Lib.hid (X4_8.out.below D9.out (by omega))
      clear X4_8
      have X5_9 := Lib.hid (X5_8.out.below D9.out (by omega))
      clear X5_8
      have Y6_9 := Lib.hid (Y6_8.out.below D9.out (by omega))
      clear Y6_8
      have HB9 := Lib.hid (HB.out.trans (D9.out.mono (by omega)))
      clear HB
      have HB := HB9
      clear HB9 hb7
      clear z_ba
      have z_ba : w.heap.size < w9.heap.size := by omega
      clear z_bm
      have z_bm : (w.heap.size + 1) < w9.heap.size := by omega
      clear z_bw
      have z_bw : β3 < w9.heap.size := by omega
      clear z_bx
      have z_bx : w4.heap.size < w9.heap.size := by omega
      clear z_bn
      have z_bn : w5.heap.size < w9.heap.size := by omega
      clear z_bg
      have z_bg : w6.heap.size < w9.heap.size := by omega
      as_aux_lemma =>
        obtain ⟨qba0⟩ := ba_9.out
        obtain ⟨qbm0⟩ := bm_9.out
        obtain ⟨qbw0⟩ := bw_9.out
        obtain ⟨qbx0⟩ := bx_9.out
        obtain ⟨qbn0⟩ := bn_9.out
        obtain ⟨qbg0⟩ := bg_9.out
        go_wp2_with fail
        go_region_held3 (fun W => (W.cell? ⟨w5.heap.size, 0, none⟩ = some (.slice (some ⟨g5, 0, none⟩) rs5.length c5)) ∧ (W.cell? ⟨(w.heap.size + 1), 0, none⟩ = some (.slice Ab rsb.length cb))) (go_keep)
          (first
            | (go_at_call 15; (with_reducible refine (Fc.toT_any Ab cb rsb _ (by exact Hb.out.into HB.out.drew) hnlb ROWb.out).mono ?_); rintro e w10 ⟨g10, c10, rs10, rfl, hk6, hv6, hb6'⟩; have hb6 := undrew hb6'; have K6 := Lib.hid hk6; have B6 := Lib.hid hb6; have V6 := Lib.hid hv6; have z6 := hb6.size; have e0 := (hb6.cell (p := ⟨w5.heap.size, 0, none⟩) (by dsimp only; omega)).trans bn_9.out.c; have f0 := (hb6.cell (p := ⟨(w.heap.size + 1), 0, none⟩) (by dsimp only; omega)).trans bm_9.out.c; clear hk6 hv6 hb6 hb6')
            | (go_at_call 17; (with_reducible refine (Fc.eqT_any _ _ _ _ rs5 _ (w5.heap.size) _ _ (by exact X5_9.out.rd.below (B6.out.mono (by omega))) (by exact K6.out.rd) (V5.out.trans V6.out.symm) (by have := B6.out.size; omega) (Nat.le_refl _) (by have := Fc.vals_same V5.out; omega) (Fc.rows_same V5.out ROWb.out)).mono ?_); rintro e w11 ⟨rfl, hb7⟩; have m0 := (hb7.cell (p := ⟨w5.heap.size, 0, none⟩) (by dsimp only; omega)).trans e0; have y0 := (hb7.cell (p := ⟨(w.heap.size + 1), 0, none⟩) (by dsimp only; omega)).trans f0))
        clear e0 f0 m0 y0 K6 V6
        clear qba0 qbm0 qbw0 qbx0 qbn0 qbg0
        have hb6 := B6.out
        clear B6
        have D10 := Lib.hid (hb6)
        have s10 : w9.heap.size + 0 ≤ w10.heap.size := by have := hb6.size; (try simp at this); omega
        have ba_10 := Lib.hid (ba_9.out.below D10.out (by omega))
        clear ba_9
        have bm_10 := Lib.hid (bm_9.out.below D10.out (by omega))
        clear bm_9
        have bw_10 := Lib.hid (bw_9.out.below D10.out (by omega))
        clear bw_9
        have bx_10 := Lib.hid (bx_9.out.below D10.out (by omega))
        clear bx_9
        have bn_10 := Lib.hid (bn_9.out.below D10.out (by omega))
        clear bn_9
        have bg_10 := Lib.hid (bg_9.out.below D10.out (by omega))
        clear bg_9
        have Y3_10 := Lib.hid (Y3_9.out.below D10.out (by omega))
        clear Y3_9
        have X4_10 := Lib.hid (X4_9.out.below D10.out (by omega))
        clear X4_9
        have X5_10 := Lib.hid (X5_9.out.below D10.out (by omega))
        clear X5_9
        have Y6_10 := Lib.hid (Y6_9.out.below D10.out (by omega))
        clear Y6_9
        have HB10 := Lib.hid (HB.out.trans (D10.out.mono (by omega)))
        clear HB
        have HB := HB10
        clear HB10 hb6
        clear z_ba
        have z_ba : w.heap.size < w10.heap.size := by omega
        clear z_bm
        have z_bm : (w.heap.size + 1) < w10.heap.size := by omega
        clear z_bw
        have z_bw : β3 < w10.heap.size := by omega
        clear z_bx
        have z_bx : w4.heap.size < w10.heap.size := by omega
        clear z_bn
        have z_bn : w5.heap.size < w10.heap.size := by omega
        clear z_bg
        have z_bg : w6.heap.size < w10.heap.size := by omega
        have D11 := Lib.hid (hb7)
        have s11 : w10.heap.size + 0 ≤ w11.heap.size := by have := hb7.size; (try simp at this); omega
        have ba_11 := Lib.hid (ba_10.out.below D11.out (by omega))
        clear ba_10
        have bm_11 := Lib.hid (bm_10.out.below D11.out (by omega))
        clear bm_10
        have bw_11 := Lib.hid (bw_10.out.below D11.out (by omega))
        clear bw_10
        have bx_11 := Lib.hid (bx_10.out.below D11.out (by omega))
        clear bx_10
        have bn_11 := Lib.hid (bn_10.out.below D11.out (by omega))
        clear bn_10
        have bg_11 := Lib.hid (bg_10.out.below D11.out (by omega))
        clear bg_10
        have Y3_11 := Lib.hid (Y3_10.out.below D11.out (by omega))
        clear Y3_10
        have X4_11 := Lib.hid (X4_10.out.below D11.out (by omega))
        clear X4_10
        have X5_11 := Lib.hid (X5_10.out.below D11.out (by omega))
        clear X5_10
        have Y6_11 := Lib.hid (Y6_10.out.below D11.out (by omega))
        clear Y6_10
        have HB11 := Lib.hid (HB.out.trans (D11.out.mono (by omega)))
        clear HB
        have HB := HB11
        clear HB11 hb7
        clear z_ba
        have z_ba : w.heap.size < w11.heap.size := by omega
        clear z_bm
        have z_bm : (w.heap.size + 1) < w11.heap.size := by omega
        clear z_bw
        have z_bw : β3 < w11.heap.size := by omega
        clear z_bx
        have z_bx : w4.heap.size < w11.heap.size := by omega
        clear z_bn
        have z_bn : w5.heap.size < w11.heap.size := by omega
        clear z_bg
        have z_bg : w6.heap.size < w11.heap.size := by omega
        as_aux_lemma =>
          obtain ⟨qba0⟩ := ba_11.out
          obtain ⟨qbm0⟩ := bm_11.out
          obtain ⟨qbw0⟩ := bw_11.out
          obtain ⟨qbx0⟩ := bx_11.out
          obtain ⟨qbn0⟩ := bn_11.out
          obtain ⟨qbg0⟩ := bg_11.out
          go_wp2_with fail
          have tx := Fc.tot_vals V4.out
          have lx := Fc.vals_same V4.out
          have tt2 := TTa.out
          refine (Fc.markT_any (some ⟨g4, 0, none⟩) c4 _ rs4 (w3.heap.size) (w4.heap.size) _ X4_11.out (by omega) (by omega) (by omega) (by omega)).mono ?_
          rintro e w12 ⟨rfl, hown, hk⟩
          have TX := Lib.hid (show Fc.tot rs4 ≤ 2097152 from by omega)
          clear X4_11 hown lx tx tt2
          clear qba0 qbm0 qbw0 qbx0 qbn0 qbg0
          have D12 := Lib.hid (hk)
          have s12 : w11.heap.size ≤ w12.heap.size := hk.size
          have ba_12 := Lib.hid (ba_11.out.kept D12.out (by omega) (by omega))
          clear ba_11
          have bm_12 := Lib.hid (bm_11.out.kept D12.out (by omega) (by omega))
          clear bm_11
          have bw_12 := Lib.hid (bw_11.out.kept D12.out (by omega) (by omega))
          clear bw_11
          have bx_12 := Lib.hid (bx_11.out.kept D12.out (by omega) (by omega))
          clear bx_11
          have bn_12 := Lib.hid (bn_11.out.kept D12.out (by omega) (by omega))
          clear bn_11
          have bg_12 := Lib.hid (bg_11.out.kept D12.out (by omega) (by omega))
          clear bg_11
          have Y3_12 := Lib.hid (Y3_11.out.kept D12.out (by omega) (by omega))
          clear Y3_11
          have X5_12 := Lib.hid (X5_11.out.kept D12.out (by omega) (by omega))
          clear X5_11
          have Y6_12 := Lib.hid (Y6_11.out.kept D12.out (by omega) (by omega))
          clear Y6_11
          have HB12 := Lib.hid (HB.out.trans (D12.out.below (by omega) (by omega)))
          clear HB
          have HB := HB12
          clear HB12 hk
          clear z_ba
          have z_ba : w.heap.size < w12.heap.size := by omega
          clear z_bm
          have z_bm : (w.heap.size + 1) < w12.heap.size := by omega
          clear z_bw
          have z_bw : β3 < w12.heap.size := by omega
          clear z_bx
          have z_bx : w4.heap.size < w12.heap.size := by omega
          clear z_bn
          have z_bn : w5.heap.size < w12.heap.size := by omega
          clear z_bg
          have z_bg : w6.heap.size < w12.heap.size := by omega
          have tx7 : Fc.tot rs4 ≤ 2097152 := TX.out
          clear TX
          obtain ⟨qba0⟩ := ba_12.out
          obtain ⟨qbm0⟩ := bm_12.out
          obtain ⟨qbw0⟩ := bw_12.out
          obtain ⟨qbx0⟩ := bx_12.out
          obtain ⟨qbn0⟩ := bn_12.out
          obtain ⟨qbg0⟩ := bg_12.out
          go_wp2_with fail
          have tx := Fc.tot_vals V5.out
          have lx := Fc.vals_same V5.out
          have tt2 := TTb.out
          refine (Fc.markT_any (some ⟨g5, 0, none⟩) c5 _ rs5 (w4.heap.size + 1) (w5.heap.size) _ X5_12.out (by omega) (by omega) (by omega) (by omega)).mono ?_
          rintro e w13 ⟨rfl, hown, hk⟩
          have TX := Lib.hid (show Fc.tot rs5 ≤ 2097152 from by omega)
          clear X5_12 hown lx tx tt2
          clear qba0 qbm0 qbw0 qbx0 qbn0 qbg0
          have D13 := Lib.hid (hk)
          have s13 : w12.heap.size ≤ w13.heap.size := hk.size
          have ba_13 := Lib.hid (ba_12.out.kept D13.out (by omega) (by omega))
          clear ba_12
          have bm_13 := Lib.hid (bm_12.out.kept D13.out (by omega) (by omega))
          clear bm_12
          have bw_13 := Lib.hid (bw_12.out.kept D13.out (by omega) (by omega))
          clear bw_12
          have bx_13 := Lib.hid (bx_12.out.kept D13.out (by omega) (by omega))
          clear bx_12
          have bn_13 := Lib.hid (bn_12.out.kept D13.out (by omega) (by omega))
          clear bn_12
          have bg_13 := Lib.hid (bg_12.out.kept D13.out (by omega) (by omega))
          clear bg_12
          have Y3_13 := Lib.hid (Y3_12.out.kept D13.out (by omega) (by omega))
          clear Y3_12
          have Y6_13 := Lib.hid (Y6_12.out.kept D13.out (by omega) (by omega))
          clear Y6_12
          have HB13 := Lib.hid (HB.out.trans (D13.out.below (by omega) (by omega)))
          clear HB
          have HB := HB13
          clear HB13 hk
          clear z_ba
          have z_ba : w.heap.size < w13.heap.size := by omega
          clear z_bm
          have z_bm : (w.heap.size + 1) < w13.heap.size := by omega
          clear z_bw
          have z_bw : β3 < w13.heap.size := by omega
          clear z_bx
          have z_bx : w4.heap.size < w13.heap.size := by omega
          clear z_bn
          have z_bn : w5.heap.size < w13.heap.size := by omega
          clear z_bg
          have z_bg : w6.heap.size < w13.heap.size := by omega
          have tx8 : Fc.tot rs5 ≤ 2097152 := TX.out
          clear TX
          have tx1 : decide ((1 : Int) + (Fc.tot rs4 : Int) + (Fc.tot rs5 : Int) < 0) = false := by simp; omega
          clear tx7 tx8
          obtain ⟨qba0⟩ := ba_13.out
          obtain ⟨qbm0⟩ := bm_13.out
          obtain ⟨qbw0⟩ := bw_13.out
          obtain ⟨qbx0⟩ := bx_13.out
          obtain ⟨qbn0⟩ := bn_13.out
          obtain ⟨qbg0⟩ := bg_13.out
          go_wp2_with fail
          refine (Fc.eqT_any _ _ _ _ rs6 rs3 (w6.heap.size) (w3.heap.size) _ Y6_13.out.rd Y3_13.out.rd (V6.out.trans V3.out.symm) (by (try simp) <;> omega) (by (try simp) <;> omega) (HZ.out.len V6.out) (HZ.out.row V6.out)).mono ?_
          rintro e w14 ⟨rfl, hb⟩
          clear qba0 qbm0 qbw0 qbx0 qbn0 qbg0
          have D14 := Lib.hid (hb)
          have s14 : w13.heap.size + 0 ≤ w14.heap.size := by have := hb.size; (try simp at this); omega
          have ba_14 := Lib.hid (ba_13.out.below D14.out (by omega))
          clear ba_13
          have bm_14 := Lib.hid (bm_13.out.below D14.out (by omega))
          clear bm_13
          have bw_14 := Lib.hid (bw_13.out.below D14.out (by omega))
          clear bw_13
          have bx_14 := Lib.hid (bx_13.out.below D14.out (by omega))
          clear bx_13
          have bn_14 := Lib.hid (bn_13.out.below D14.out (by omega))
          clear bn_13
          have bg_14 := Lib.hid (bg_13.out.below D14.out (by omega))
          clear bg_13
          have Y3_14 := Lib.hid (Y3_13.out.below D14.out (by omega))
          clear Y3_13
          have Y6_14 := Lib.hid (Y6_13.out.below D14.out (by omega))
          clear Y6_13
          have HB14 := Lib.hid (HB.out.trans (D14.out.mono (by omega)))
          clear HB
          have HB := HB14
          clear HB14 hb
          clear z_ba
          have z_ba : w.heap.size < w14.heap.size := by omega
          clear z_bm
          have z_bm : (w.heap.size + 1) < w14.heap.size := by omega
          clear z_bw
          have z_bw : β3 < w14.heap.size := by omega
          clear z_bx
          have z_bx : w4.heap.size < w14.heap.size := by omega
          clear z_bn
          have z_bn : w5.heap.size < w14.heap.size := by omega
          clear z_bg
          have z_bg : w6.heap.size < w14.heap.size := by omega
          as_aux_lemma =>
            obtain ⟨qba0⟩ := ba_14.out
            obtain ⟨qbm0⟩ := bm_14.out
            obtain ⟨qbw0⟩ := bw_14.out
            obtain ⟨qbx0⟩ := bx_14.out
            obtain ⟨qbn0⟩ := bn_14.out
            obtain ⟨qbg0⟩ := bg_14.out
            go_wp2_with fail
            refine (Fc.markT_any R6 t6 1 rs6 (w5.heap.size + 1) (w6.heap.size) _ Y6_14.out (by omega) (HZ.out.tot V6.out) (by omega) (by omega)).mono ?_
            rintro e w15 ⟨rfl, hown, hk⟩
            have Y6_15 := Lib.hid hown
            clear Y6_14 hown
            clear qba0 qbm0 qbw0 qbx0 qbn0 qbg0
            have D15 := Lib.hid (hk)
            have s15 : w14.heap.size ≤ w15.heap.size := hk.size
            have ba_15 := Lib.hid (ba_14.out.kept D15.out (by omega) (by omega))
            clear ba_14
            have bm_15 := Lib.hid (bm_14.out.kept D15.out (by omega) (by omega))
            clear bm_14
            have bw_15 := Lib.hid (bw_14.out.kept D15.out (by omega) (by omega))
            clear bw_14
            have bx_15 := Lib.hid (bx_14.out.kept D15.out (by omega) (by omega))
            clear bx_14
            have bn_15 := Lib.hid (bn_14.out.kept D15.out (by omega) (by omega))
            clear bn_14
            have bg_15 := Lib.hid (bg_14.out.kept D15.out (by omega) (by omega))
            clear bg_14
            have Y3_15 := Lib.hid (Y3_14.out.kept D15.out (by omega) (by omega))
            clear Y3_14
            have HB15 := Lib.hid (HB.out.trans (D15.out.below (by omega) (by omega)))
            clear HB
            have HB := HB15
            clear HB15 hk
            clear z_ba
            have z_ba : w.heap.size < w15.heap.size := by omega
            clear z_bm
            have z_bm : (w.heap.size + 1) < w15.heap.size := by omega
            clear z_bw
            have z_bw : β3 < w15.heap.size := by omega
            clear z_bx
            have z_bx : w4.heap.size < w15.heap.size := by omega
            clear z_bn
            have z_bn : w5.heap.size < w15.heap.size := by omega
            clear z_bg
            have z_bg : w6.heap.size < w15.heap.size := by omega
            have tq : decide ((1 : Int) + (Fc.tot rs6 : Int) < 0) = false := by simp; omega
            obtain ⟨qba0⟩ := ba_15.out
            obtain ⟨qbm0⟩ := bm_15.out
            obtain ⟨qbw0⟩ := bw_15.out
            obtain ⟨qbx0⟩ := bx_15.out
            obtain ⟨qbn0⟩ := bn_15.out
            obtain ⟨qbg0⟩ := bg_15.out
            go_wp2_with fail
            refine (Fc.heldT_any R6 t6 1 rs6 (w6.heap.size) _ Y6_15.out.rd (by omega) (HZ.out.tot V6.out) (by omega) (by omega)).mono ?_
            rintro e w16 ⟨rfl, hb⟩
            clear qba0 qbm0 qbw0 qbx0 qbn0 qbg0
            have D16 := Lib.hid (hb)
            have s16 : w15.heap.size + 0 ≤ w16.heap.size := by have := hb.size; (try simp at this); omega
            have ba_16 := Lib.hid (ba_15.out.below D16.out (by omega))
            clear ba_15
            have bm_16 := Lib.hid (bm_15.out.below D16.out (by omega))
            clear bm_15
            have bw_16 := Lib.hid (bw_15.out.below D16.out (by omega))
            clear bw_15
            have bx_16 := Lib.hid (bx_15.out.below D16.out (by omega))
            clear bx_15
            have bn_16 := Lib.hid (bn_15.out.below D16.out (by omega))
            clear bn_15
            have bg_16 := Lib.hid (bg_15.out.below D16.out (by omega))
            clear bg_15
            have Y3_16 := Lib.hid (Y3_15.out.below D16.out (by omega))
            clear Y3_15
            have Y6_16 := Lib.hid (Y6_15.out.below D16.out (by omega))
            clear Y6_15
            have HB16 := Lib.hid (HB.out.trans (D16.out.mono (by omega)))
            clear HB
            have HB := HB16
            clear HB16 hb
            clear z_ba
            have z_ba : w.heap.size < w16.heap.size := by omega
            clear z_bm
            have z_bm : (w.heap.size + 1) < w16.heap.size := by omega
            clear z_bw
            have z_bw : β3 < w16.heap.size := by omega
            clear z_bx
            have z_bx : w4.heap.size < w16.heap.size := by omega
            clear z_bn
            have z_bn : w5.heap.size < w16.heap.size := by omega
            clear z_bg
            have z_bg : w6.heap.size < w16.heap.size := by omega
            as_aux_lemma =>
              obtain ⟨qba0⟩ := ba_16.out
              obtain ⟨qbm0⟩ := bm_16.out
              obtain ⟨qbw0⟩ := bw_16.out
              obtain ⟨qbx0⟩ := bx_16.out
              obtain ⟨qbn0⟩ := bn_16.out
              obtain ⟨qbg0⟩ := bg_16.out
              go_upto_region 31 with fail
              go_cut [15, 16] (fun p x W => CutT w16 tz (.int .i64 code) p x W)
              case first =>
                go_region_held3 (fun W => W.cell? ⟨w.heap.size, 0, none⟩ = some (.slice Aa rsa.length ca) ∧ W.cell? ⟨(w.heap.size + 1), 0, none⟩ = some (.slice Ab rsb.length cb)) (go_keep)
                  (first
                    | (go_at_call 15; (with_reducible refine (Fc.toT_any Aa ca rsa _ (by first | exact Ha.out.into HB.out.drew | exact Ha.out.into (HB.out.alloc (by omega) _).drew) hnla ROWa.out).mono ?_); rintro e w6 ⟨g6, c6, rs6, rfl, hk6, hv6, hb6⟩; (first | (have U6 : Hid (Below w16.heap.size w16 w6) := Lib.hid (undrew hb6); have z6 : w16.heap.size ≤ w6.heap.size := U6.out.size; (try have Zb := Lib.hid (Zb.out.below U6.out (by omega))); (try have Zf := Lib.hid (Zf.out.below U6.out (by omega)))) | (have U6 : Hid (Below w16.heap.size w16 w6) := Lib.hid (on1 _ (undrew hb6)); have z6 : w16.heap.size < w6.heap.size := (by have := (undrew hb6).size; simp at this; omega); have Zb := Lib.hid ((Box1.new w16 28 (.slice none 0 0)).below (undrew hb6) (by simp)); have Zf := Lib.hid ((Free.new w16 28 #[.slice none 0 0]).below (undrew hb6) (by simp)))); have K6 := Lib.hid hk6; have V6 := Lib.hid hv6; have e0 := (ba_16.out.below U6.out (by omega)).c; have e1 := (bm_16.out.below U6.out (by omega)).c; have y6 : w.heap.size < w6.heap.size := (by omega); have y6_ : (w.heap.size + 1) < w6.heap.size := (by omega); (try clear j0 jf); (try have j0 := Zb.out.c); (try have jf := Zf.out); (try unfold Free at jf); clear hk6 hv6 hb6)
                    | (go_at_call 15; (with_reducible refine (Fc.toT_any Ab cb rsb _ (by first | exact Hb.out.into (HB.out.trans (U6.out.mono (by omega))) | exact Hb.out.into ((HB.out.trans (U6.out.mono (by omega))).alloc (by omega) _)) hnlb ROWb.out).mono ?_); rintro e w7 ⟨g7, c7, rs7, rfl, hk7, hv7, hb7⟩; (first | (have U7 : Hid (Below w6.heap.size w6 w7) := Lib.hid hb7; have z7 : w6.heap.size ≤ w7.heap.size := U7.out.size; (try have Zb := Lib.hid (Zb.out.below U7.out (by omega))); (try have Zf := Lib.hid (Zf.out.below U7.out (by omega)))) | (have U7 : Hid (Below w6.heap.size w6 w7) := Lib.hid (on1 _ hb7); have z7 : w6.heap.size < w7.heap.size := (by have := hb7.size; simp at this; omega); have Zb := Lib.hid ((Box1.new w6 28 (.slice none 0 0)).below hb7 (by simp)); have Zf := Lib.hid ((Free.new w6 28 #[.slice none 0 0]).below hb7 (by simp)))); have K7 := Lib.hid hk7; have V7 := Lib.hid hv7; have f0 := ((ba_16.out.below U6.out (by omega)).below U7.out (by omega)).c; have f1 := ((bm_16.out.below U6.out (by omega)).below U7.out (by omega)).c; have y7 : w.heap.size < w7.heap.size := (by omega); have y7_ : (w.heap.size + 1) < w7.heap.size := (by omega); (try clear j0 jf); (try have j0 := Zb.out.c); (try have jf := Zf.out); (try unfold Free at jf); clear hk7 hv7 hb7)
                    | (go_at_call 30; (first | with_reducible refine (HI.out _ _ _ _ _ _ _ (by exact (((K6.out.rd).below U7.out).more U7.out.size)) V6.out (by exact K7.out.rd) V7.out (by exact (HB.out.trans (U6.out.mono (by omega))).trans (U7.out.mono (by omega)))).mono ?_ | with_reducible refine (HI.out _ _ _ _ _ _ _ (by exact (((K6.out.rd).below U7.out).more U7.out.size).into (al1 _ _)) V6.out (by exact K7.out.rd.into (al1 _ _)) V7.out (by exact ((HB.out.trans (U6.out.mono (by omega))).trans (U7.out.mono (by omega))).alloc (by omega) _)).mono ?_); rintro e w17 ⟨R17, t17, rs17, rfl, hown, hv8, hb8⟩; (first | (have U8 : Hid (Below w7.heap.size w7 w17) := Lib.hid hb8; have z8 : w7.heap.size ≤ w17.heap.size := U8.out.size; (try have Zb := Lib.hid (Zb.out.below U8.out (by omega))); (try have Zf := Lib.hid (Zf.out.below U8.out (by omega)))) | (have U8 : Hid (Below w7.heap.size w7 w17) := Lib.hid (on1 _ hb8); have z8 : w7.heap.size < w17.heap.size := (by have := hb8.size; simp at this; omega); have Zb := Lib.hid ((Box1.new w7 28 (.slice none 0 0)).below hb8 (by simp)); have Zf := Lib.hid ((Free.new w7 28 #[.slice none 0 0]).below hb8 (by simp)))); have O8 := Lib.hid hown; have W8 := Lib.hid hv8; have y8 : w.heap.size < w17.heap.size := (by omega); have y8_ : (w.heap.size + 1) < w17.heap.size := (by omega); have x8 : ¬ w17.heap.size = w.heap.size := (by omega); have x8_ : ¬ w17.heap.size = (w.heap.size + 1) := (by omega); have xa : ¬ w16.heap.size = w.heap.size := (by omega); have xb : ¬ w16.heap.size = (w.heap.size + 1) := (by omega); have xc : ¬ w6.heap.size = w.heap.size := (by omega); have xd : ¬ w6.heap.size = (w.heap.size + 1) := (by omega); have xe : ¬ w7.heap.size = w.heap.size := (by omega); have xf : ¬ w7.heap.size = (w.heap.size + 1) := (by omega); have m0 := (((ba_16.out.below U6.out (by omega)).below U7.out (by omega)).below U8.out (by omega)).c; have m1 := (((bm_16.out.below U6.out (by omega)).below U7.out (by omega)).below U8.out (by omega)).c; (try clear j0 jf); (try have j0 := Zb.out.c); (try have jf := Zf.out); (try unfold Free at jf); clear hown hv8 hb8))
                all_goals
                  have UH := Lib.hid ((U6.out.trans (U7.out.mono (by omega))).trans (U8.out.mono (by omega)))
                  clear e0 e1 f0 f1 m0 m1
                  go_wp2_with fail
                  go_meet
                  first
                    | exact CutT.new O8.out W8.out UH.out (by (try simp) <;> omega)
                    | exact CutT.old O8.out W8.out Zb.out UH.out (by omega) (by (try simp) <;> omega) (by omega)
              obtain ⟨β17, R17, t17, rs17, rfl, rfl, hbx, hlo, hhi, hown, hv, hb⟩ := hcut
              obtain ⟨w17, rfl⟩ : ∃ W : World, W = wc := ⟨_, rfl⟩
              clear qba0 qbm0 qbw0 qbx0 qbn0 qbg0
              have Y17_17 := Lib.hid hown
              have bh_17 := Lib.hid hbx
              have V17 := Lib.hid hv
              clear hown hbx hv
              have D17 := Lib.hid (hb)
              have s17 : w16.heap.size + 0 ≤ w17.heap.size := by have := hb.size; (try simp at this); omega
              have ba_17 := Lib.hid (ba_16.out.below D17.out (by omega))
              clear ba_16
              have bm_17 := Lib.hid (bm_16.out.below D17.out (by omega))
              clear bm_16
              have bw_17 := Lib.hid (bw_16.out.below D17.out (by omega))
              clear bw_16
              have bx_17 := Lib.hid (bx_16.out.below D17.out (by omega))
              clear bx_16
              have bn_17 := Lib.hid (bn_16.out.below D17.out (by omega))
              clear bn_16
              have bg_17 := Lib.hid (bg_16.out.below D17.out (by omega))
              clear bg_16
              have Y3_17 := Lib.hid (Y3_16.out.below D17.out (by omega))
              clear Y3_16
              have Y6_17 := Lib.hid (Y6_16.out.below D17.out (by omega))
              clear Y6_16
              have HB17 := Lib.hid (HB.out.trans (D17.out.mono (by omega)))
              clear HB
              have HB := HB17
              clear HB17 hb
              clear z_ba
              have z_ba : w.heap.size < w17.heap.size := by omega
              clear z_bm
              have z_bm : (w.heap.size + 1) < w17.heap.size := by omega
              clear z_bw
              have z_bw : β3 < w17.heap.size := by omega
              clear z_bx
              have z_bx : w4.heap.size < w17.heap.size := by omega
              clear z_bn
              have z_bn : w5.heap.size < w17.heap.size := by omega
              clear z_bg
              have z_bg : w6.heap.size < w17.heap.size := by omega
              have z_bh : β17 < w17.heap.size := hhi
              obtain ⟨qba0⟩ := ba_17.out
              obtain ⟨qbm0⟩ := bm_17.out
              obtain ⟨qbw0⟩ := bw_17.out
              obtain ⟨qbx0⟩ := bx_17.out
              obtain ⟨qbn0⟩ := bn_17.out
              obtain ⟨qbg0⟩ := bg_17.out
              obtain ⟨qbh0⟩ := bh_17.out
              go_wp2_with fail
              refine (Fc.eqT_any _ _ _ _ rs17 rs3 (w17.heap.size) (w3.heap.size) _ Y17_17.out.rd Y3_17.out.rd (V17.out.trans V3.out.symm) (by (try simp) <;> omega) (by (try simp) <;> omega) (HZ.out.len V17.out) (HZ.out.row V17.out)).mono ?_
              rintro e w18 ⟨rfl, hb⟩
              clear qba0 qbm0 qbw0 qbx0 qbn0 qbg0 qbh0
              have D18 := Lib.hid (hb)
              have s18 : w17.heap.size + 0 ≤ w18.heap.size := by have := hb.size; (try simp at this); omega
              have ba_18 := Lib.hid (ba_17.out.below D18.out (by omega))
              clear ba_17
              have bm_18 := Lib.hid (bm_17.out.below D18.out (by omega))
              clear bm_17
              have bw_18 := Lib.hid (bw_17.out.below D18.out (by omega))
              clear bw_17
              have bx_18 := Lib.hid (bx_17.out.below D18.out (by omega))
              clear bx_17
              have bn_18 := Lib.hid (bn_17.out.below D18.out (by omega))
              clear bn_17
              have bg_18 := Lib.hid (bg_17.out.below D18.out (by omega))
              clear bg_17
              have bh_18 := Lib.hid (bh_17.out.below D18.out (by omega))
              clear bh_17
              have Y3_18 := Lib.hid (Y3_17.out.below D18.out (by omega))
              clear Y3_17
              have Y6_18 := Lib.hid (Y6_17.out.below D18.out (by omega))
              clear Y6_17
              have Y17_18 := Lib.hid (Y17_17.out.below D18.out (by omega))
              clear Y17_17
              have HB18 := Lib.hid (HB.out.trans (D18.out.mono (by omega)))
              clear HB
              have HB := HB18
              clear HB18 hb
              clear z_ba
              have z_ba : w.heap.size < w18.heap.size := by omega
              clear z_bm
              have z_bm : (w.heap.size + 1) < w18.heap.size := by omega
              clear z_bw
              have z_bw : β3 < w18.heap.size := by omega
              clear z_bx
              have z_bx : w4.heap.size < w18.heap.size := by omega
              clear z_bn
              have z_bn : w5.heap.size < w18.heap.size := by omega
              clear z_bg
              have z_bg : w6.heap.size < w18.heap.size := by omega
              clear z_bh
              have z_bh : β17 < w18.heap.size := by omega
              as_aux_lemma =>
                obtain ⟨qba0⟩ := ba_18.out
                obtain ⟨qbm0⟩ := bm_18.out
                obtain ⟨qbw0⟩ := bw_18.out
                obtain ⟨qbx0⟩ := bx_18.out
                obtain ⟨qbn0⟩ := bn_18.out
                obtain ⟨qbg0⟩ := bg_18.out
                obtain ⟨qbh0⟩ := bh_18.out
                go_wp2_with fail
                refine (Fc.heldT_any R6 t6 1 rs6 (w6.heap.size) _ Y6_18.out.rd (by omega) (HZ.out.tot V6.out) (by omega) (by omega)).mono ?_
                rintro e w19 ⟨rfl, hb⟩
                clear qba0 qbm0 qbw0 qbx0 qbn0 qbg0 qbh0
                have D19 := Lib.hid (hb)
                have s19 : w18.heap.size + 0 ≤ w19.heap.size := by have := hb.size; (try simp at this); omega
                have ba_19 := Lib.hid (ba_18.out.below D19.out (by omega))
                clear ba_18
                have bm_19 := Lib.hid (bm_18.out.below D19.out (by omega))
                clear bm_18
                have bw_19 := Lib.hid (bw_18.out.below D19.out (by omega))
                clear bw_18
                have bx_19 := Lib.hid (bx_18.out.below D19.out (by omega))
                clear bx_18
                have bn_19 := Lib.hid (bn_18.out.below D19.out (by omega))
                clear bn_18
                have bg_19 := Lib.hid (bg_18.out.below D19.out (by omega))
                clear bg_18
                have bh_19 := Lib.hid (bh_18.out.below D19.out (by omega))
                clear bh_18
                have Y3_19 := Lib.hid (Y3_18.out.below D19.out (by omega))
                clear Y3_18
                have Y6_19 := Lib.hid (Y6_18.out.below D19.out (by omega))
                clear Y6_18
                have Y17_19 := Lib.hid (Y17_18.out.below D19.out (by omega))
                clear Y17_18
                have HB19 := Lib.hid (HB.out.trans (D19.out.mono (by omega)))
                clear HB
                have HB := HB19
                clear HB19 hb
                clear z_ba
                have z_ba : w.heap.size < w19.heap.size := by omega
                clear z_bm
                have z_bm : (w.heap.size + 1) < w19.heap.size := by omega
                clear z_bw
                have z_bw : β3 < w19.heap.size := by omega
                clear z_bx
                have z_bx : w4.heap.size < w19.heap.size := by omega
                clear z_bn
                have z_bn : w5.heap.size < w19.heap.size := by omega
                clear z_bg
                have z_bg : w6.heap.size < w19.heap.size := by omega
                clear z_bh
                have z_bh : β17 < w19.heap.size := by omega
                go_wp2
                go_ret
                exact ⟨rfl, HB.out⟩

end Go.Proofs.YtajbahfbldmckaaDoor

