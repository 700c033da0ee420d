/- Texts of one proof laid together. No condition but those that each theorem names. -/
import Derived.Test.YtajbahfbldmckaaDoorFcP
import Derived.Test.YtajbahfbldmckaaDoorFcD
import Derived.Deep.RegionHeld3
import Derived.Deep.AppendLies
import Derived.Test.YtajbahfbldmckaaDoorFcN
import Derived.OrdersHeld
import Derived.StillTail
import Derived.Test.YtajbahfbldmckaaDoorPfN
import Derived.Test.YtajbahfbldmckaaDoorFcR
import Derived.OrdersIn
import Derived.TacticsIn
import Derived.RegionIn
import Derived.BigRegionIn
import Derived.IntWalk
import Derived.Test.YtajbahfbldmckaaDoorFcL
import Derived.StillTailTactics
import Derived.Test.YtajbahfbldmckaaDoorFcH
import Derived.Test.YtajbahfbldmckaaDoorPfO
import Derived.Test.YtajbahfbldmckaaDoorLiftF
import Derived.Outline
import Derived.Deep.Cut
namespace Go.Proofs.YtajbahfbldmckaaDoor
open Go.RowKit
namespace Fc

theorem OwnS.pushed {w w' : World} {lo hi lo2 c g' cap : Nat} {A : Option Addr} {rs : List Rw} {r : Rw} (hown : OwnS w lo hi A c rs) (hr : r.In w lo2 w.heap.size) (h12 : hi ≤ lo2) (hlo2 : lo ≤ lo2) (hhi : hi ≤ w.heap.size)
    (h1 : w'.ownsRow lo 61 1 (.slice (some ⟨g', 0, none⟩) (rs.length + 1) cap) (rs.length + 1) (rs.map Rw.sv ++ [r.sv])) (hg : w.grownBy w' (Value.slice A rs.length c).ownBlock) (hat : (Value.slice A rs.length c).ownBlock = some g' ∨ g' = w.heap.size) (hlt : g' < w'.heap.size) :
    OwnS w' lo w'.heap.size (some ⟨g', 0, none⟩) cap (rs ++ [r]) ∧ Kept lo hi w w' := by
  have hob : ∀ k, (Value.slice A rs.length c).ownBlock = some k → lo ≤ k ∧ k < hi ∧ ∀ q ∈ rs, q.Off k := fun k hk => by
    cases A with
    | none => simp [Value.ownBlock] at hk
    | some p =>
      have h2 := hown.top p rfl
      have h3 := fun q hq => hown.off q hq p rfl
      have h4 := (World.ownsRow.lt hown.row k hk).1
      simp [Value.ownBlock] at hk
      subst hk
      exact ⟨h4, h2, h3⟩
  have hk : Kept lo hi w w' := Wd.kept_grown hg fun k hk => ⟨(hob k hk).1, (hob k hk).2.1⟩
  have hrw : r.In w' lo w'.heap.size := (hr.grown hg fun k hk => hr.off (.inl (by have := (hob k hk).2.1; omega))).wide hlo2 hg.size
  refine ⟨⟨?_, (fun a ha => by cases ha; exact hlt), fun q hq => ?_, fun q hq a ha => ?_, ?_⟩, hk⟩
  · rw [List.length_append, List.map_append]
    exact h1
  · rcases List.mem_append.1 hq with hq | hq
    · exact ((hown.mine q hq).grown hg fun k hk => (hob k hk).2.2 q hq).wide (Nat.le_refl _) (Nat.le_trans hhi hg.size)
    · simp at hq; subst hq
      exact hrw
  · cases ha
    dsimp only
    rcases hat with hat | hat
    · rcases List.mem_append.1 hq with hq | hq
      · exact (hob _ hat).2.2 q hq
      · simp at hq; subst hq
        exact hr.off (.inl (by have := (hob _ hat).2.1; omega))
    · rcases List.mem_append.1 hq with hq | hq
      · exact (hown.mine q hq).off (.inr (by omega))
      · simp at hq; subst hq
        exact hr.off (.inr (by omega))
  · rw [List.pairwise_append]
    exact ⟨hown.apart, List.pairwise_singleton _ _, fun q hq q' hq' => by simp at hq'; subst hq'; exact Apart.of_in (hown.mine q hq) hr (.inl h12)⟩

/-- A row is appended at a step of a region that draws its order. -/
theorem step_push_row {w : World} {ops : Array Oper} {o : Oper} {a : Act} {K : Act → World → Prop} {Q : Exit → Act → World → Prop} {E : Prop} (hgd : o.guard = none) (s x : Operand) (ho : o.op = .call { callee := .builtin .append, args := #[s, x], argTypes := #[26, 26] })
    (lo hi lo2 c n g : Nat) (A : Option Addr) (rs : List Rw) (r : Rw) (hs : a.eval s = .slice A n c) (hn : rs.length = n) (hown : OwnS w lo hi A c rs) (hx : a.eval x = .slice (some ⟨g, 0, none⟩) 1 1) (hc : w.cell? ⟨g, 0, none⟩ = some r.sv) (hr : r.In w lo2 w.heap.size) (h12 : hi ≤ lo2) (hlo2 : lo ≤ lo2) (hlo : lo ≤ w.heap.size) (hhi : hi ≤ w.heap.size) (hlen : n ≤ 1048576)
    (h : ∀ A' c' w', OwnS w' lo w'.heap.size A' c' (rs ++ [r]) → Kept lo hi w w' → K (a.put o.dst (.slice A' (n + 1) c')) w') : if Region.wanted o (yielded ops a.tmps) = true then Oper.wp Tryd.prog o a w K Q else E := by
  obtain ⟨ti, hi0, hz0, hz1, hz2⟩ := info_parts infoS
  subst hn
  refine step_append_lies w hgd s x 26 ho lo 61 ti _ 1 24 Tryd.underlying26 hi0 hz0 hz1 hz2 rfl (by decide) (.slice A rs.length c) rs.length (rs.map Rw.sv) hs hown.row ⟨g, 0, none⟩ 1 1 [r.sv] hx rfl
    (by intro j u hj; cases j with | zero => (simp at hj; subst hj; simpa [Addr.add] using hc) | succ j => simp at hj) (by intro u hu; simp at hu; subst hu; rfl) (by omega) (by unfold maxLen; omega) (by omega) hlo _ rfl ?_
  intro g' cap w' h1 hg hat hlt
  obtain ⟨q1, q2⟩ := hown.pushed hr h12 hlo2 hhi h1 hg hat hlt
  exact h _ _ _ q1 q2


/-- A row is appended at a step of a region that draws its order; what lies apart stays apart. -/
theorem step_push_row3 {w : World} {ops : Array Oper} {o : Oper} {a : Act} {K : Act → World → Prop} {Q : Exit → Act → World → Prop} {E : Prop} (hgd : o.guard = none) (s x : Operand) (ho : o.op = .call { callee := .builtin .append, args := #[s, x], argTypes := #[26, 26] })
    (lo hi lo2 c n g : Nat) (A : Option Addr) (rs : List Rw) (r : Rw) (hs : a.eval s = .slice A n c) (hn : rs.length = n) (hown : OwnS w lo hi A c rs) (hx : a.eval x = .slice (some ⟨g, 0, none⟩) 1 1) (hc : w.cell? ⟨g, 0, none⟩ = some r.sv) (hr : r.In w lo2 w.heap.size) (h12 : hi ≤ lo2) (hlo2 : lo ≤ lo2) (hlo : lo ≤ w.heap.size) (hhi : hi ≤ w.heap.size) (hlen : n ≤ 1048576)
    (F : Nat → Prop) (hF : ∀ b0, F b0 → b0 < lo2 ∧ b0 < w.heap.size ∧ (∀ a, A = some a → a.block ≠ b0) ∧ ∀ q ∈ rs, q.Off b0)
    (h : ∀ A' c' w', OwnS w' lo w'.heap.size A' c' (rs ++ [r]) → Kept lo hi w w' → (∀ b0, F b0 → w'.heap[b0]? = w.heap[b0]? ∧ (∀ a, A' = some a → a.block ≠ b0) ∧ ∀ q ∈ rs ++ [r], q.Off b0) → K (a.put o.dst (.slice A' (n + 1) c')) w') : if Region.wanted o (yielded ops a.tmps) = true then Oper.wp Tryd.prog o a w K Q else E := by
  obtain ⟨ti, hi0, hz0, hz1, hz2⟩ := info_parts infoS
  subst hn
  refine step_append_lies w hgd s x 26 ho lo 61 ti _ 1 24 Tryd.underlying26 hi0 hz0 hz1 hz2 rfl (by decide) (.slice A rs.length c) rs.length (rs.map Rw.sv) hs hown.row ⟨g, 0, none⟩ 1 1 [r.sv] hx rfl
    (by intro j u hj; cases j with | zero => (simp at hj; subst hj; simpa [Addr.add] using hc) | succ j => simp at hj) (by intro u hu; simp at hu; subst hu; rfl) (by omega) (by unfold maxLen; omega) (by omega) hlo _ rfl ?_
  intro g' cap w' h1 hg hat hlt
  obtain ⟨q1, q2⟩ := hown.pushed hr h12 hlo2 hhi h1 hg hat hlt
  refine h _ _ _ q1 q2 (fun b0 h3 => ?_)
  obtain ⟨f1, f2, f3, f4⟩ := hF b0 h3
  have hnb : ∀ k, (Value.slice A rs.length c).ownBlock = some k → k ≠ b0 := fun k hk => by
    cases A with
    | none => simp [Value.ownBlock] at hk
    | some p =>
      have h6 := f3 p rfl
      simp [Value.ownBlock] at hk
      subst hk
      exact h6
  refine ⟨hg.block b0 f2 (fun e => hnb b0 e.symm rfl), fun a' ha' => ?_, fun q hq => ?_⟩
  · cases ha'
    dsimp only
    rcases hat with hat | hat
    · exact hnb _ hat
    · omega
  · rcases List.mem_append.1 hq with hq | hq
    · exact f4 q hq
    · simp at hq; subst hq
      exact hr.off (.inl f1)

/-- A tetrahedron with four boundary faces. -/
def fr : List Int := [-1, 0, -1, 0, -1, 0, -1, 0]
theorem sv_fr (g : Nat) : Rw.sv ⟨some ⟨g, 0, none⟩, 4, fr⟩ = .slice (some ⟨g, 0, none⟩) 4 4 := by simp [Rw.sv, fr]
/-- Blocks that a list and its rows keep off. -/
def Apt (F : Nat → Prop) (A : Option Addr) (rs : List Rw) : Prop := ∀ b0, F b0 → (∀ a, A = some a → a.block ≠ b0) ∧ ∀ q ∈ rs, q.Off b0
/-- The builder lies in block bb, its rows behind it. -/
structure Bld (w : World) (bb mb : Nat) (A : Option Addr) (c : Nat) (rs : List Rw) : Prop where
  cell : w.cell? ⟨bb, 0, none⟩ = some (.slice A rs.length c)
  map : w.cell? ⟨bb, 1, none⟩ = some (.map (some mb))
  free : w.frozen? ⟨bb, 0, none⟩ = false
  own : OwnS w (bb + 1) w.heap.size A c rs
theorem Bld.lt {w : World} {bb mb c : Nat} {A : Option Addr} {rs : List Rw} (h : Bld w bb mb A c rs) : bb < w.heap.size := World.block_lt_of_cell? w ⟨bb, 0, none⟩ h.cell
theorem Bld.below {w w' : World} {bb mb c : Nat} {A : Option Addr} {rs : List Rw} (h : Bld w bb mb A c rs) (hb : Below w.heap.size w w') : Bld w' bb mb A c rs :=
  ⟨(hb.cell (p := ⟨bb, 0, none⟩) h.lt).trans h.cell, (hb.cell (p := ⟨bb, 1, none⟩) h.lt).trans h.map, (hb.frozen (p := ⟨bb, 0, none⟩) h.lt).trans h.free, (h.own.below hb (Nat.le_refl _)).wide (Nat.le_refl _) hb.size⟩

theorem free_in (w : World) (o : Obj) : Rw.In ⟨some ⟨w.heap.size, 0, none⟩, 4, fr⟩ ((w.alloc (Obj.cells #[.int .i64 (-1), .int .i64 0, .int .i64 (-1), .int .i64 0, .int .i64 (-1), .int .i64 0, .int .i64 (-1), .int .i64 0] 72)).alloc o) w.heap.size (w.heap.size + 1) := by
  have h : BlkF ((w.alloc (Obj.cells #[.int .i64 (-1), .int .i64 0, .int .i64 (-1), .int .i64 0, .int .i64 (-1), .int .i64 0, .int .i64 (-1), .int .i64 0] 72)).alloc o) w.heap.size fr := by
    have := BlkF.new w fr
    simp only [fr, List.map_cons, List.map_nil] at this
    exact this.alloc _
  exact ⟨⟨by simp [fr], by simp [fr]⟩, by unfold maxLen; dsimp only; omega, h.mine (Nat.le_refl _) (Nat.lt_succ_self _) rfl⟩

end Fc
end Go.Proofs.YtajbahfbldmckaaDoor

namespace Go.Proofs.YtajbahfbldmckaaDoor
open Go.RowKit
namespace Fc

/-- What a call hands back: a triangulation in memory of its own. -/
def ResT (w : World) (zss : List (List Int)) (e : Ending) (w' : World) : Prop :=
  ∃ A c rs, e = .returned (.agg #[.slice A rs.length c]) ∧ OwnS w' w.heap.size w'.heap.size A c rs ∧ vals rs = zss ∧ Below w.heap.size w w'

theorem setCell_frozen (w : World) (p q : Addr) (u : Value) : (w.setCell p u).frozen? q = w.frozen? q := by simp [go_sem]
theorem faces_row {w : World} {lo g n cap : Nat} {zs : List Int} (h : w.ownsRow lo 72 2 (.slice (some ⟨g, 0, none⟩) n cap) n (zs.map (Value.int .i64))) : Rw.In ⟨some ⟨g, 0, none⟩, cap, zs⟩ w lo w.heap.size := by
  obtain ⟨h1, h2⟩ := h
  rw [List.length_map] at h1
  rcases h2 with ⟨e, _⟩ | ⟨g', cap', cur, e, hb, hg, hn, hm, hs, hc⟩
  · cases e
  · cases e
    have hlt : g < w.heap.size := by
      rcases Nat.lt_or_ge g w.heap.size with h' | h'
      · exact h'
      · rw [Array.getElem?_eq_none h'] at hg; cases hg
    refine ⟨⟨by dsimp only; omega, by dsimp only; omega⟩, hm, rfl, fun _ => ⟨g, 0, rfl, hb, hlt, fun j hj => ⟨?_, by simp [World.frozen?, hg]⟩⟩⟩
    dsimp only at hj
    rw [Nat.zero_add, cell_of_row w g j _ _ (0, 0) hg]
    have e1 : (cur.toList.take (n * 2))[j]? = some (.int .i64 (zs.getD j 0)) := by rw [hc]; simp [List.getElem?_eq_getElem hj]
    rw [List.getElem?_take_of_lt (by omega)] at e1
    simpa using e1

theorem ints_newsF {w : World} {B n : Nat} {ad : Addr} {zs : List Int} (h : Ints w B (some ad) n zs) : ∀ j u, (zs.map (Value.int .i64))[j]? = some u → w.cell? (ad.add j) = some u := by
  intro j u hu
  have hj : j < zs.length := by
    have := (List.getElem?_eq_some_iff.1 hu).1
    simpa using this
  have hl := h.1
  obtain ⟨b, off, e, _, h4⟩ := h.2 (by omega)
  cases e
  have h5 := h4 j (by omega)
  have e5 : (⟨b, off, none⟩ : Addr).add j = ⟨b, off + j, none⟩ := by unfold Addr.add; split <;> simp_all
  rw [e5, h5, ← hu, List.getElem?_map, List.getElem?_eq_getElem hj]
  simp [List.getElem?_eq_getElem hj]
theorem Own.of_row {w : World} {lo n : Nat} {v : Value} {zs : List Int} (h : w.ownsRow lo 2 1 v n (zs.map (Value.int .i64))) (hv : v ≠ .slice none 0 0) : ∃ g cap, v = .slice (some ⟨g, 0, none⟩) n cap ∧ n ≤ cap ∧ cap ≤ maxLen ∧ Own w lo w.heap.size (some ⟨g, 0, none⟩) n cap zs := by
  have h' := h
  rcases h.2 with ⟨e, _⟩ | ⟨g, cap, cur, rfl, hb, hg, hn, hm, _, _⟩
  · exact absurd e hv
  · have hlt : g < w.heap.size := by
      rcases Nat.lt_or_ge g w.heap.size with h1 | h1
      · exact h1
      · rw [Array.getElem?_eq_none h1] at hg; cases hg
    exact ⟨g, cap, rfl, hn, hm, h', fun a ha => by cases ha; exact hlt⟩

/-- The faces of a row are appended to an empty slice, at a step of a region that draws its order. -/
theorem step_copy_row {w : World} {ops : Array Oper} {o : Oper} {a : Act} {K : Act → World → Prop} {Q : Exit → Act → World → Prop} {E : Prop} (hgd : o.guard = none) (s x : Operand) (ho : o.op = .call { callee := .builtin .append, args := #[s, x], argTypes := #[61, 61] })
    (lo B g0 n c : Nat) (A : Option Addr) (zs : List Int) (hs : a.eval s = .slice (some ⟨g0, 0, none⟩) 0 0) (hg0 : w.heap[g0]? = some (.cells #[] 72 (0, 0))) (hlg : lo ≤ g0) (hx : a.eval x = .slice A n c) (hI : Ints w B A (n * 2) zs) (hn0 : 0 < n) (hn : n ≤ 1048576) (hlo : lo ≤ w.heap.size)
    (h : ∀ g cap w', Rw.In ⟨some ⟨g, 0, none⟩, cap, zs⟩ w' lo w'.heap.size → w.grownBy w' (some g0) → K (a.put o.dst (.slice (some ⟨g, 0, none⟩) n cap)) w') : if Region.wanted o (yielded ops a.tmps) = true then Oper.wp Tryd.prog o a w K Q else E := by
  obtain ⟨ti, hi0, hz0, hz1, hz2⟩ := info_parts infoF
  have hl := hI.1
  obtain ⟨b, off, rfl, _, h4⟩ := hI.2 (by omega)
  have hl2 : (zs.map (Value.int .i64)).length = n * 2 := by rw [List.length_map, hl]
  refine step_append_lies w hgd s x 61 ho lo 72 ti _ 2 16 Tryd.underlying61 hi0 hz0 hz1 hz2 rfl (by decide) (.slice (some ⟨g0, 0, none⟩) 0 0) 0 [] hs ⟨rfl, .inr ⟨g0, 0, #[], rfl, hlg, hg0, Nat.le_refl _, by unfold maxLen; omega, rfl, rfl⟩⟩ ⟨b, off, none⟩ n c (zs.map (Value.int .i64)) hx hl2
    (ints_newsF hI) (by simp [Value.oneCell']) hn0 (by unfold maxLen; omega) (by omega) hlo _ rfl ?_
  intro g cap w' h1 hg _ _
  rw [Nat.zero_add, List.nil_append] at h1
  rw [Nat.zero_add]
  exact h g cap w' (faces_row h1) hg

set_option maxRecDepth 100000 in
set_option maxHeartbeats 8000000 in
theorem own_spec (A : Option Addr) (n c : Nat) (T : List (List Int)) (w : World) (h : RdT w w.heap.size A n T) (hn : n ≤ 8) (h4 : Tr.Four T) :
    Calls Tryd.prog 45 #[.agg #[.slice A n c]] w (ResT w T) := by
  have LN := Lib.hid h.len
  have HT := Lib.hid h
  have H4 := Lib.hid h4
  clear h h4
  obtain ⟨U, hU⟩ : ∃ U, U = ((w.alloc (Obj.cells #[.slice A n c] 28)).alloc (Obj.cells #[.slice none 0 0] 28)).alloc (Obj.cells #[.slice none 0 0] 28) := ⟨_, rfl⟩
  have hB : Below w.heap.size w U := by rw [hU]; exact (al2 w _ _).trans ((al1 _ _).mono (by simp; omega))
  have z : U.heap.size = w.heap.size + 3 := by rw [hU]; simp
  have k0 : U.cell? ⟨w.heap.size, 0, none⟩ = some (.slice A n c) := by rw [hU]; simp [go_sem]
  have k1 : U.cell? ⟨w.heap.size + 1, 0, none⟩ = some (.slice none 0 0) := by rw [hU]; simp [go_sem]
  have k2 : U.cell? ⟨w.heap.size + 2, 0, none⟩ = some (.slice none 0 0) := by rw [hU]; simp [go_sem]
  have f1 : U.frozen? ⟨w.heap.size + 1, 0, none⟩ = false := by rw [hU]; simp [go_sem]
  have f2 : U.frozen? ⟨w.heap.size + 2, 0, none⟩ = false := by rw [hU]; simp [go_sem]
  have DU := Lib.hid hB
  clear hB
  go_enter Tryd.func45, Tryd.ntmps45
  go_wp2
  rw [← hU]
  clear hU
  go_loopw [4] (fun i W => ∃ (a : Nat) (A' : Option Addr) (c' : Nat) (rs : List Rw), a ≤ n ∧ i = .int .i64 a ∧ (W.cell? ⟨w.heap.size + 2, 0, none⟩ = some (.slice A' rs.length c') ∧ W.frozen? ⟨w.heap.size + 2, 0, none⟩ = false) ∧ OwnS W (w.heap.size + 3) W.heap.size A' c' rs ∧ vals rs = T.take a ∧ Below (w.heap.size + 2) U W) (fun i _ => n - (intOf i).toNat)
  case atStart => exact ⟨0, none, 0, [], Nat.zero_le _, rfl, ⟨k2, f2⟩, OwnS.nil _ _ _, rfl, Below.refl _ _⟩
  case round =>
    obtain ⟨a, A', c', rs, ha, rfl, ⟨hb2, hf2⟩, hO, hV, hbel⟩ := hrel
    have OW := Lib.hid hO
    have VL := Lib.hid hV
    have BW := Lib.hid hbel
    have kw := (hbel.cell (p := ⟨w.heap.size, 0, none⟩) (by dsimp only; omega)).trans k0
    have zW : U.heap.size ≤ wr.heap.size := hbel.size
    have i0 : (0 : Int) ≤ (a : Int) := by omega
    have rl : rs.length ≤ 8 := by
      have h1 := congrArg List.length hV
      rw [vals_len, List.length_take] at h1
      omega
    by_cases hlt : a < n
    case neg =>
      obtain rfl : a = n := by omega
      have i1 : ¬ (a : Int) < (a : Int) := by omega
      have kr := (hbel.cell (p := ⟨w.heap.size + 1, 0, none⟩) (by dsimp only; omega)).trans k1
      have fr1 := (hbel.frozen (p := ⟨w.heap.size + 1, 0, none⟩) (by dsimp only; omega)).trans f1
      clear hO hV hbel
      go_wp2
      refine bodyPost_ret (v := .agg #[.slice A' rs.length c']) (by simp [results, Tryd.results45, kr, go_sem]) rfl ?_
      exact ⟨A', c', rs, rfl, (OW.out.far (p := ⟨w.heap.size + 1, 0, none⟩) (.inl (by dsimp only; omega)) _).wide (by omega) (by simp [World.setCell]), by rw [VL.out, List.take_of_length_le (by rw [LN.out]; exact Nat.le_refl _)], (DU.out.trans (BW.out.mono (by omega))).setCell (by dsimp only; omega) _⟩
    have i1 : (a : Int) < (n : Int) := by omega
    clear hO hV hbel
    have RT := Lib.hid (HT.out.below (DU.out.trans (BW.out.mono (by omega))))
    have h8 := H4.out a (by rw [LN.out]; exact hlt)
    obtain ⟨b, off, Aj, cj, m, rfl, hb, hcr, h1, h2, h3, hi⟩ := RT.out.row a hlt
    obtain rfl : m = 4 := by omega
    obtain ⟨zs, hzs⟩ : ∃ zs, T.getD a [] = zs := ⟨_, rfl⟩
    rw [hzs] at hi h8
    have HI := Lib.hid hi
    have NX := Lib.hid (show T.take (a + 1) = T.take a ++ [zs] from by rw [← hzs, List.take_add_one, List.getD_eq_getElem?_getD, List.getElem?_eq_getElem (by rw [LN.out]; exact hlt)]; rfl)
    have SV := Lib.hid (fun (g7 cap7 : Nat) => show Rw.sv ⟨some ⟨g7, 0, none⟩, cap7, zs⟩ = .slice (some ⟨g7, 0, none⟩) 4 cap7 from by simp [Rw.sv, h8])
    clear hi hzs h3
    have l0 : w.heap.size < wr.heap.size := by omega
    have l1 : w.heap.size + 2 < wr.heap.size := by omega
    have l2 : w.heap.size + 1 + 1 < wr.heap.size := by omega
    have l3 : b < wr.heap.size := by omega
    go_wp2_with fail
    go_region_law (first
      | (refine step_copy_row (by rfl) _ _ (by rfl) wr.heap.size w.heap.size wr.heap.size 4 cj Aj zs (by rfl) (by exact heap_alloc_new wr _) (Nat.le_refl _) (by rfl) (by exact HI.out.below ((al1 wr _).drew.mono (by omega))) (by omega) (by omega) (by simp) ?_; intro g7 cap7 w7 h5 h6; have R7 := Lib.hid h5; have D7 := Lib.hid (((al1 wr (Obj.cells #[] 72)).drew).grown h6 (by simp) (fun k hk => by cases hk; exact Nat.le_refl _)); have s7 := D7.out.size; have e7 := (D7.out.cell (p := ⟨w.heap.size + 2, 0, none⟩) (by dsimp only; omega)).trans hb2; have m1 : w.heap.size + 2 < w7.heap.size := (by omega); have m2 : w.heap.size + 1 + 1 < w7.heap.size := (by omega); have f7 := (D7.out.frozen (p := ⟨w.heap.size + 2, 0, none⟩) (by dsimp only; omega)).trans hf2; clear h5 h6)
      | (refine step_push_row (by rfl) _ _ (by rfl) (w.heap.size + 3) wr.heap.size wr.heap.size c' rs.length w7.heap.size A' rs ⟨some ⟨g7, 0, none⟩, cap7, zs⟩ (by rfl) rfl (by exact OW.out.below (D7.out.trans ((al1 w7 _).mono s7)) (Nat.le_refl _)) (by rfl) (by rw [SV.out]; exact Wd.alloc_first _ _ _ _ rfl) (by exact (R7.out.below (al1 w7 _) (Nat.le_refl _)).wide (Nat.le_refl _) (by simp)) (Nat.le_refl _) (by omega) (by simp; omega) (by simp; omega) (by omega) ?_; intro A8 c8 w8 h5 h6; have O8 := Lib.hid h5; have K8 := Lib.hid h6; have s8 := h6.size; simp only [World.size_alloc] at s8; have e8 := (World.cell?_of_block (a := ⟨w.heap.size + 2, 0, none⟩) (h6.block (w.heap.size + 2) (by simp; omega) (by omega))).trans (((al1 w7 _).cell (p := ⟨w.heap.size + 2, 0, none⟩) (by dsimp only; omega)).trans e7); have f8 := (World.frozen?_of_block (a := ⟨w.heap.size + 2, 0, none⟩) (h6.block (w.heap.size + 2) (by simp; omega) (by omega))).trans (((al1 w7 _).frozen (p := ⟨w.heap.size + 2, 0, none⟩) (by dsimp only; omega)).trans f7); clear h5 h6))
    all_goals
      have B8 := Lib.hid (show Below (w.heap.size + 2) U w8 from (BW.out.trans (D7.out.mono (by omega))).trans (((al1 w7 _).mono (by omega)).trans (K8.out.below (by omega) (by simp; omega))))
      clear e7 f7 kw hb2 hf2 hcr
      go_wp2
      go_roundw
      case rel =>
        refine ⟨a + 1, A8, c8, rs ++ [⟨some ⟨g7, 0, none⟩, cap7, zs⟩], by omega, by go_num, ⟨by rw [List.length_append]; exact World.cell?_setCell_same' _ _ _ (by rw [e8]; rfl), (setCell_frozen _ _ _ _).trans f8⟩, (O8.out.far (p := ⟨w.heap.size + 2, 0, none⟩) (.inl (by dsimp only; omega)) _).wide (Nat.le_refl _) (by simp [World.setCell]), by rw [NX.out, ← VL.out, vals, List.map_append]; rfl, B8.out.setCell (Nat.le_refl _) _⟩
      case measure => simp [intOf]; omega

end Fc
end Go.Proofs.YtajbahfbldmckaaDoor

namespace Go.Proofs.YtajbahfbldmckaaDoor
open Go.RowKit
/-- What AddTetrahedron hands back. -/
def Tr.addT (T : List (List Int)) : List (List Int) := if Tr.Is T ∧ T.length ≠ 8 then T ++ [Fc.fr] else []
def Tr.addC (T : List (List Int)) : Int := if Tr.Is T then (if T.length = 8 then 3 else 0) else 1
namespace Fc

/-- A store into a block that neither the list nor its rows lie in. -/
theorem OwnS.far_off {w : World} {lo hi c : Nat} {A : Option Addr} {rs : List Rw} (h : OwnS w lo hi A c rs) {p : Addr} (ho : ∀ a, A = some a → a.block ≠ p.block) (hr : ∀ q ∈ rs, q.Off p.block) (u : Value) : OwnS (w.setCell p u) lo hi A c rs := by
  refine ⟨⟨h.row.1, ?_⟩, h.top, fun q hq => (h.mine q hq).set_ p (hr q hq) u, h.off, h.apart⟩
  rcases h.row.2 with h0 | ⟨g, cap, cur, hv, hb, hg, r⟩
  · exact .inl h0
  · refine .inr ⟨g, cap, cur, hv, hb, ?_, r⟩
    injection hv with h1 h2 h3
    rw [Below.heap_setCell w _ _ g ?_]
    · exact hg
    · intro e
      exact ho _ h1 (by first | exact e | exact e.symm)

/-- A row is appended at a step of a region that draws its order; what lies between stays apart. -/
theorem step_push_row2 {w : World} {ops : Array Oper} {o : Oper} {a : Act} {K : Act → World → Prop} {Q : Exit → Act → World → Prop} {E : Prop} (hgd : o.guard = none) (s x : Operand) (ho : o.op = .call { callee := .builtin .append, args := #[s, x], argTypes := #[26, 26] })
    (lo hi lo2 c n g : Nat) (A : Option Addr) (rs : List Rw) (r : Rw) (hs : a.eval s = .slice A n c) (hn : rs.length = n) (hown : OwnS w lo hi A c rs) (hx : a.eval x = .slice (some ⟨g, 0, none⟩) 1 1) (hc : w.cell? ⟨g, 0, none⟩ = some r.sv) (hr : r.In w lo2 w.heap.size) (h12 : hi ≤ lo2) (hlo2 : lo ≤ lo2) (hlo : lo ≤ w.heap.size) (hhi : hi ≤ w.heap.size) (hlen : n ≤ 1048576)
    (h : ∀ A' c' w', OwnS w' lo w'.heap.size A' c' (rs ++ [r]) → Kept lo hi w w' → (∀ b0, hi ≤ b0 → b0 < lo2 → b0 < w.heap.size → (∀ a, A' = some a → a.block ≠ b0) ∧ ∀ q ∈ rs ++ [r], q.Off b0) → K (a.put o.dst (.slice A' (n + 1) c')) w') : if Region.wanted o (yielded ops a.tmps) = true then Oper.wp Tryd.prog o a w K Q else E := by
  obtain ⟨ti, hi0, hz0, hz1, hz2⟩ := info_parts infoS
  subst hn
  refine step_append_lies w hgd s x 26 ho lo 61 ti _ 1 24 Tryd.underlying26 hi0 hz0 hz1 hz2 rfl (by decide) (.slice A rs.length c) rs.length (rs.map Rw.sv) hs hown.row ⟨g, 0, none⟩ 1 1 [r.sv] hx rfl
    (by intro j u hj; cases j with | zero => (simp at hj; subst hj; simpa [Addr.add] using hc) | succ j => simp at hj) (by intro u hu; simp at hu; subst hu; rfl) (by omega) (by unfold maxLen; omega) (by omega) hlo _ rfl ?_
  intro g' cap w' h1 hg hat hlt
  obtain ⟨q1, q2⟩ := hown.pushed hr h12 hlo2 hhi h1 hg hat hlt
  refine h _ _ _ q1 q2 (fun b0 h3 h4 h5 => ⟨fun a' ha' => ?_, fun q hq => ?_⟩)
  · cases ha'
    dsimp only
    rcases hat with hat | hat
    · cases A with
      | none => simp [Value.ownBlock] at hat
      | some p =>
        have h6 := hown.top p rfl
        simp [Value.ownBlock] at hat
        omega
    · omega
  · rcases List.mem_append.1 hq with hq | hq
    · exact (hown.mine q hq).off (.inr h3)
    · simp at hq; subst hq
      exact hr.off (.inl h4)

/-- What a call hands back: a triangulation in memory of its own, and a code. -/
def ResTC (w : World) (zss : List (List Int)) (k : Int) (e : Ending) (w' : World) : Prop :=
  ∃ A c rs, e = .returned (.tuple #[.agg #[.slice A rs.length c], .int .i64 k]) ∧ OwnS w' w.heap.size w'.heap.size A c rs ∧ vals rs = zss ∧ Below w.heap.size w w'

theorem free_spec (w : World) : Calls Tryd.prog 46 #[] w fun e w' => e = .returned (.slice (some ⟨w.heap.size, 0, none⟩) 4 4) ∧ BlkF w' w.heap.size fr ∧ Below w.heap.size w w' := by
  go_enter Tryd.func46, Tryd.ntmps46
  go_wp2
  go_ret
  exact ⟨rfl, BlkF.new w fr, al1 _ _⟩

set_option maxRecDepth 100000 in
set_option maxHeartbeats 8000000 in
theorem addTet_spec (A : Option Addr) (n c : Nat) (T : List (List Int)) (w : World) (h : RdT w w.heap.size A n T) (hn : n ≤ 1048576) :
    Calls Tryd.prog 14 #[.agg #[.slice A n c]] w (ResTC w (Tr.addT T) (Tr.addC T)) := by
  have LN := Lib.hid h.len
  have HT := Lib.hid h
  have TI := Lib.hid (fun (W : World) (hb : Below w.heap.size w W) => isTri_specT A n c T W (h.into hb) hn)
  clear h
  obtain ⟨U, hU⟩ : ∃ U, U = (w.alloc (Obj.cells #[.slice A n c] 28)).alloc (Obj.cells #[.slice none 0 0] 28) := ⟨_, rfl⟩
  have hB : Below w.heap.size w U := by rw [hU]; exact al2 w _ _
  have z : U.heap.size = w.heap.size + 2 := by rw [hU]; simp
  have k0 : U.cell? ⟨w.heap.size, 0, none⟩ = some (.slice A n c) := by rw [hU]; simp [go_sem]
  have k1 : U.cell? ⟨w.heap.size + 1, 0, none⟩ = some (.slice none 0 0) := by rw [hU]; simp [go_sem]
  have f1 : U.frozen? ⟨w.heap.size + 1, 0, none⟩ = false := by rw [hU]; simp [go_sem]
  have DU := Lib.hid hB
  clear hB
  go_enter Tryd.func14, Tryd.ntmps14
  go_upto_region 1 with fail
  rw [← hU]
  clear hU
  go_wp2_with fail
  refine (TI.out U DU.out).mono ?_
  rintro e w1 ⟨rfl, hb⟩
  have k0 := (hb.cell (p := ⟨w.heap.size, 0, none⟩) (by dsimp only; omega)).trans k0
  have k1 := (hb.cell (p := ⟨w.heap.size + 1, 0, none⟩) (by dsimp only; omega)).trans k1
  have f1 := (hb.frozen (p := ⟨w.heap.size + 1, 0, none⟩) (by dsimp only; omega)).trans f1
  have z1 : U.heap.size ≤ w1.heap.size := hb.size
  have D1 := Lib.hid (DU.out.trans (hb.mono (by omega)))
  clear hb TI DU
  by_cases hok : Tr.Is T
  case neg =>
    rw [decide_eq_false hok]
    have R := Lib.hid (show Tr.addT T = [] ∧ Tr.addC T = 1 from by unfold Tr.addT Tr.addC; rw [if_neg (fun e => hok e.1), if_neg hok]; exact ⟨rfl, rfl⟩)
    clear hok
    go_wp2
    refine bodyPost_ret (v := .tuple #[.agg #[.slice none 0 0], .int .i64 1]) (by simp [results, Tryd.results14, k1, go_sem]) rfl ?_
    rw [R.out.1, R.out.2]
    exact ⟨none, 0, [], rfl, OwnS.nil _ _ _, rfl, D1.out.setCell (by dsimp only; omega) _⟩
  rw [decide_eq_true hok]
  have h8 : n ≤ 8 := by rw [← LN.out]; exact hok.1
  have H4 := Lib.hid hok.2.1
  go_wp2_with fail
  refine (tets_spec A n c _).mono ?_
  rintro e w2 ⟨rfl, hb⟩
  have k0 := (hb.cell (p := ⟨w.heap.size, 0, none⟩) (by dsimp only; omega)).trans k0
  have k1 := (hb.cell (p := ⟨w.heap.size + 1, 0, none⟩) (by dsimp only; omega)).trans k1
  have f1 := (hb.frozen (p := ⟨w.heap.size + 1, 0, none⟩) (by dsimp only; omega)).trans f1
  have z2 : w1.heap.size ≤ w2.heap.size := hb.size
  have D2 := Lib.hid (D1.out.trans (hb.mono (by omega)))
  clear hb D1
  by_cases he : n = 8
  · have R := Lib.hid (show Tr.addT T = [] ∧ Tr.addC T = 3 from by unfold Tr.addT Tr.addC; rw [if_neg (fun e => e.2 (by rw [LN.out]; exact he)), if_pos hok, if_pos (by rw [LN.out]; exact he)]; exact ⟨rfl, rfl⟩)
    subst he
    clear hok
    go_wp2
    refine bodyPost_ret (v := .tuple #[.agg #[.slice none 0 0], .int .i64 3]) (by simp [results, Tryd.results14, k1, go_sem]) rfl ?_
    rw [R.out.1, R.out.2]
    exact ⟨none, 0, [], rfl, OwnS.nil _ _ _, rfl, D2.out.setCell (by dsimp only; omega) _⟩
  have R := Lib.hid (show Tr.addT T = T ++ [fr] ∧ Tr.addC T = 0 from by unfold Tr.addT Tr.addC; rw [if_pos ⟨hok, fun e => he (by rw [← LN.out]; exact e)⟩, if_pos hok, if_neg (fun e => he (by rw [← LN.out]; exact e))]; exact ⟨rfl, rfl⟩)
  have i1 : ¬ (n : Int) = 8 := by omega
  have b1 : ((n : Int) == 8) = false := by simpa using i1
  clear hok
  go_wp2_with fail
  refine (own_spec A n c T w2 (HT.out.into D2.out) h8 H4.out).mono ?_
  rintro e w3 ⟨A', c', rs, rfl, hO, hV, hb⟩
  have k1 := (hb.cell (p := ⟨w.heap.size + 1, 0, none⟩) (by dsimp only; omega)).trans k1
  have f1 := (hb.frozen (p := ⟨w.heap.size + 1, 0, none⟩) (by dsimp only; omega)).trans f1
  have z3 : w2.heap.size ≤ w3.heap.size := hb.size
  have D3 := Lib.hid (D2.out.trans (hb.mono (by omega)))
  have O3 := Lib.hid hO
  have V3 := Lib.hid hV
  have hl : rs.length ≤ 8 := by rw [← Fc.vals_len, hV, LN.out]; exact h8
  clear hb hO hV D2
  go_upto_region 6 with fail
  obtain ⟨V, hVW⟩ : ∃ V, V = w3.alloc (Obj.cells #[.slice A' rs.length c'] 28) := ⟨_, rfl⟩
  obtain ⟨zV1, zV2⟩ : V.heap.size ≤ w3.heap.size + 1 ∧ w3.heap.size + 1 ≤ V.heap.size := by rw [hVW]; simp
  have e0 : V.cell? ⟨w3.heap.size, 0, none⟩ = some (.slice A' rs.length c') := by rw [hVW]; simp [go_sem]
  have fv : V.frozen? ⟨w3.heap.size, 0, none⟩ = false := by rw [hVW]; simp [go_sem]
  have hBV : Below w3.heap.size w3 V := by rw [hVW]; exact al1 _ _
  have k1 := (hBV.cell (p := ⟨w.heap.size + 1, 0, none⟩) (by dsimp only; omega)).trans k1
  have f1 := (hBV.frozen (p := ⟨w.heap.size + 1, 0, none⟩) (by dsimp only; omega)).trans f1
  have OV := Lib.hid (O3.out.below hBV (Nat.le_refl _))
  have DV := Lib.hid (D3.out.trans (hBV.mono (by omega)))
  have ne : ¬ w.heap.size + 1 = w3.heap.size := by omega
  have lt : w3.heap.size < V.heap.size := by omega
  have lt1 : w.heap.size + 1 < V.heap.size := by omega
  rw [← hVW]
  clear hVW hBV
  go_region_law (first
    | (go_simp; go_at_call 46; (refine (free_spec _).mono ?_); rintro e w5 ⟨rfl, hF, hb5'⟩; have hb5 := undrew hb5'; have B5 := Lib.hid hb5; have F5 := Lib.hid hF; have z5 := hb5.size; have e5 := (hb5.cell (p := ⟨w3.heap.size, 0, none⟩) (by dsimp only; omega)).trans e0; have f5 := (hb5.frozen (p := ⟨w3.heap.size, 0, none⟩) (by dsimp only; omega)).trans fv; have l5 : w3.heap.size < w5.heap.size := (by omega); have y5 := hF.lt; clear hF hb5 hb5')
    | (refine step_push_row2 (by rfl) _ _ (by rfl) w2.heap.size w3.heap.size V.heap.size c' rs.length w5.heap.size A' rs ⟨some ⟨V.heap.size, 0, none⟩, 4, fr⟩ (by rfl) rfl (by exact OV.out.below (B5.out.trans ((al1 w5 _).mono z5)) (by omega)) (by rfl) (by rw [sv_fr]; exact Wd.alloc_first _ _ _ _ rfl) (by exact ⟨⟨by simp [fr], by simp [fr]⟩, by unfold maxLen; dsimp only; omega, (F5.out.alloc _).mine (Nat.le_refl _) (by simp; exact Nat.lt_succ_of_lt y5) rfl⟩) (by omega) (by omega) (by simp; omega) (by simp; omega) (by omega) ?_; intro A8 c8 w8 h5 h6 h7; have X8 := Lib.hid (h7 w3.heap.size (Nat.le_refl _) (by omega) (by simp; omega)); have O8 := Lib.hid h5; have K8 := Lib.hid h6; have s8 := h6.size; simp only [World.size_alloc] at s8; have e8 := (World.cell?_of_block (a := ⟨w3.heap.size, 0, none⟩) (h6.block w3.heap.size (by simp; omega) (by omega))).trans (((al1 w5 _).cell (p := ⟨w3.heap.size, 0, none⟩) (by dsimp only; omega)).trans e5); have f8 := (World.frozen?_of_block (a := ⟨w3.heap.size, 0, none⟩) (h6.block w3.heap.size (by simp; omega) (by omega))).trans (((al1 w5 _).frozen (p := ⟨w3.heap.size, 0, none⟩) (by dsimp only; omega)).trans f5); clear h5 h6 h7))
  all_goals
    have D8 := Lib.hid (show Below w.heap.size w w8 from ((DV.out.trans (B5.out.mono (by omega))).trans ((al1 w5 _).mono (by omega))).trans (K8.out.below (by omega) (by simp; omega)))
    have k8 := (World.cell?_of_block (a := ⟨w.heap.size + 1, 0, none⟩) (K8.out.block (w.heap.size + 1) (by simp; omega) (by omega))).trans (((al1 w5 _).cell (p := ⟨w.heap.size + 1, 0, none⟩) (by dsimp only; omega)).trans ((B5.out.cell (p := ⟨w.heap.size + 1, 0, none⟩) (by dsimp only; omega)).trans k1))
    have f9 := (World.frozen?_of_block (a := ⟨w.heap.size + 1, 0, none⟩) (K8.out.block (w.heap.size + 1) (by simp; omega) (by omega))).trans (((al1 w5 _).frozen (p := ⟨w.heap.size + 1, 0, none⟩) (by dsimp only; omega)).trans ((B5.out.frozen (p := ⟨w.heap.size + 1, 0, none⟩) (by dsimp only; omega)).trans f1))
    clear k0 k1 f1 e0 fv e5 f5 lt lt1
    go_wp2
    refine bodyPost_ret (v := .tuple #[.agg #[.slice A8 (rs.length + 1) c8], .int .i64 0]) (by simp [results, Tryd.results14, k8, go_sem]) rfl ?_
    rw [R.out.1, R.out.2]
    refine ⟨A8, c8, rs ++ [⟨some ⟨V.heap.size, 0, none⟩, 4, fr⟩], by simp, ((O8.out.far_off (p := ⟨w3.heap.size, 0, none⟩) X8.out.1 X8.out.2 _).far (p := ⟨w.heap.size + 1, 0, none⟩) (.inl (by dsimp only; omega)) _).wide (by omega) (by simp [World.setCell]), by rw [vals, List.map_append, ← V3.out]; rfl, (D8.out.setCell (by dsimp only; omega) _).setCell (by dsimp only; omega) _⟩

end Fc
end Go.Proofs.YtajbahfbldmckaaDoor

namespace Go.Proofs.YtajbahfbldmckaaDoor
open Go

section
variable {P : Program} {ops : Array Oper} {Q : Exit → Act → World → Prop} {md : Region.Mode} {S : World → Prop} {N : List Nat}

/-- Whether some load of N might come behind number j. -/
def asksS (md : Region.Mode) (ops : Array Oper) (N : List Nat) (j : Nat) : Bool := N.any fun k => !Region.waitsFor md ops j k
/-- Whatever order is drawn; behind each operation that a load may follow the world meets S. -/
def wpN (P : Program) (md : Region.Mode) (ops : Array Oper) (Q : Exit → Act → World → Prop) (S : World → Prop) (N : List Nat) : Nat → Array Bool → Act → World → Prop
  | 0, l, a, w => Region.ready md ops l = [] ∧ Q .normal a w
  | f + 1, l, a, w => (Region.ready md ops l = [] → Q .normal a w) ∧ ∀ j ∈ Region.ready md ops l, wpOp P ops Q j (fun a' w' => (asksS md ops N j = true → S w') ∧ wpN P md ops Q S N f (l.setIfInBounds j true) a' w') a w

theorem wpAny_of_N : ∀ (f : Nat) (l : Array Bool) (a : Act) (w : World), wpN P md ops Q S N f l a w → wpAny P md ops Q f l a w := by
  intro f
  induction f with
  | zero => exact fun _ _ _ h => h
  | succ f ih => exact fun l a w h => ⟨h.1, fun j hj => wpOp_mono (fun a' w' hk => ih _ a' w' hk.2) (h.2 j hj)⟩

theorem asks_of_ready {i j : Nat} {l : Array Bool} (hN : i ∈ N) (hi : i ∈ Region.ready md ops l) (hj : j ∈ Region.ready md ops l) : asksS md ops N j = true := by
  refine List.any_eq_true.2 ⟨i, hN, ?_⟩
  cases hw : Region.waitsFor md ops j i with
  | false => rfl
  | true =>
    obtain ⟨oj, hoj, e, he, hb, hon⟩ := Region.waitsFor_spec hw
    obtain ⟨_, oj', hoj', hall⟩ := mem_ready.1 hj
    obtain rfl : oj = oj' := Option.some.inj (hoj.symm.trans hoj')
    have h1 := hall e he hb
    rw [hon, getD_both (mem_ready.1 hi).1] at h1
    cases h1

/-- A load of N is taken first. -/
theorem wpN_first {i : Nat} {oi : Oper} {v : Value} (hi : ops[i]? = some oi) (hN : i ∈ N) (hsel : ∀ (j : Nat) (o : Oper) cs b, ops[j]? = some o → o.op ≠ .select cs b)
    (hQ : ∀ c a w, Q (.panic c) (a.put oi.dst v) w → Q (.panic c) a w) (f : Nat) :
    ∀ (l : Array Bool) (a : Act) (w : World), (∀ j oj, ops[j]? = some oj → j ≠ i → l.getD j true = false → (∀ e ∈ oj.after, Region.binds md e = true → e.on ≠ i) → oi.apart ops oj = true) →
      i ∈ Region.ready md ops l → YieldsIf P ops S oi v a → S w → wpN P md ops Q S N f (l.setIfInBounds i true) (a.put oi.dst v) w → wpN P md ops Q S N (f + 1) l a w := by
  induction f with
  | zero =>
    intro l a w _ hr hy hS H
    refine ⟨fun h => absurd hr (by rw [h]; exact List.not_mem_nil), fun j hj => ?_⟩
    by_cases e : j = i
    · rw [e]
      exact hy.wpOp hi hS ⟨fun _ => hS, H⟩
    · have h2 := ready_mono hj e
      rw [H.1] at h2
      exact absurd h2 List.not_mem_nil
  | succ f ih =>
    intro l a w hf hr hy hS H
    refine ⟨fun h => absurd hr (by rw [h]; exact List.not_mem_nil), fun j hj => ?_⟩
    by_cases e : j = i
    · rw [e]
      exact hy.wpOp hi hS ⟨fun _ => hS, H⟩
    have hask := asks_of_ready hN hr hj
    obtain ⟨hlj, oj, hoj, hall⟩ := mem_ready.1 hj
    have hfree : ∀ x ∈ oj.after, Region.binds md x = true → x.on ≠ i := fun x hx hb hon => by
      have h1 := hall x hx hb
      rw [hon, getD_both (mem_ready.1 hr).1] at h1
      cases h1
    refine wpOp_mono (fun a' w' hk => ?_) (wpOp_putIf hoj (hf j oj hoj e hlj hfree) (fun cs b => hsel i oi cs b hi) (fun cs b => hsel j oj cs b hoj) hQ hy (H.2 j (ready_mono hj e)))
    refine ⟨fun _ => hk.2.1 hask, ih _ a' w' (fun k ok hk1 hk2 hk3 hk4 => hf k ok hk1 hk2 ?_ hk4) (ready_mono hr (Ne.symm e)) hk.1 (hk.2.1 hask) ?_⟩
    · by_cases e2 : j = k
      · rw [← e2]; exact hlj
      · rw [getD_set_ne true e2] at hk3; exact hk3
    · rw [Array.setIfInBounds_comm _ _ e]
      exact hk.2.2
theorem wpN_take {i : Nat} {oi : Oper} {v : Value} {f : Nat} {l : Array Bool} {a : Act} {w : World} (hi : ops[i]? = some oi) (hN : N.contains i = true) (hs : Region.noSelect ops = true) (hf : Region.free md ops l i = true) (hr : (Region.ready md ops l).contains i = true)
    (hQ : ∀ c a w, Q (.panic c) (a.put oi.dst v) w → Q (.panic c) a w) (hy : YieldsIf P ops S oi v a) (hS : S w) (h : wpN P md ops Q S N f (l.setIfInBounds i true) (a.put oi.dst v) w) : wpN P md ops Q S N (f + 1) l a w :=
  wpN_first hi (by simpa using hN) (Region.noSelect_spec hs) hQ f l a w (Region.free_spec hi hf) (by simpa using hr) hy hS h
/-- One operation alone may come up. -/
theorem wpN_one {j : Nat} {o : Oper} {f : Nat} {l : Array Bool} {a : Act} {w : World} (hr : Region.ready md ops l = [j]) (ho : ops[j]? = some o)
    (h : ∀ K : Act → World → Prop, (∀ a' w', (asksS md ops N j = true → S w') → wpN P md ops Q S N f (l.setIfInBounds j true) a' w' → K a' w') → if Region.wanted o (yielded ops a.tmps) = true then Oper.wp P o a w K Q else K (a.put o.dst undef) w) : wpN P md ops Q S N (f + 1) l a w := by
  refine ⟨(fun h0 => by rw [hr] at h0; cases h0), fun k hk => ?_⟩
  rw [hr] at hk
  obtain rfl : k = j := by simpa using hk
  have h1 := h (fun a' w' => (asksS md ops N k = true → S w') ∧ wpN P md ops Q S N f (l.setIfInBounds k true) a' w') (fun a' w' h2 h3 => ⟨h2, h3⟩)
  unfold wpOp
  simp only [ho]
  split
  · rename_i hw; rw [if_pos hw] at h1; exact .inl h1
  · rename_i hw; rw [if_neg hw] at h1; exact h1
/-- All have come up. -/
theorem wpN_done {f : Nat} {l : Array Bool} {a : Act} {w : World} (hr : Region.ready md ops l = []) (h : Q .normal a w) : wpN P md ops Q S N f l a w := by
  cases f with
  | zero => exact ⟨hr, h⟩
  | succ f => exact ⟨fun _ => h, (fun k hk => by rw [hr] at hk; cases hk)⟩
/-- The beginning, in a program under 'wide'. -/
theorem wp_region_N (S : World → Prop) (N : List Nat) {id : Nat} {a : Act} {w : World} (hm : P.follows .mixedOrders = true) (h : wpN P .any ops Q S N ops.size (Array.replicate ops.size false) a w.drew) : (Code.region id ops true).wp P Q a w :=
  wp_region_any hm (wpAny_of_N _ _ _ _ h)
end

end Go.Proofs.YtajbahfbldmckaaDoor

namespace Go.Proofs.YtajbahfbldmckaaDoor
open Go.RowKit
namespace Fc

set_option maxRecDepth 100000 in
set_option maxHeartbeats 8000000 in
theorem addTets_impl (bb mb k : Nat) (A : Option Addr) (c : Nat) (rs : List Rw) (w : World) (h : Bld w bb mb A c rs) (hv : Vs w) (hb1 : 3 < bb) (hn : rs.length + k ≤ 1048576) (F : Nat → Prop) (hF : ∀ b0, F b0 → b0 < w.heap.size ∧ b0 ≠ bb) (hFA : Apt F A rs) :
    Calls Tryd.prog 50 #[.pointer (some ⟨bb, 0, none⟩), .int .i64 k] w fun e w' => e = .returned (.tuple #[]) ∧ (∃ A' c' rs', Bld w' bb mb A' c' rs' ∧ vals rs' = vals rs ++ List.replicate k fr ∧ Apt F A' rs' ∧ ∀ b0, F b0 → w'.heap[b0]? = w.heap[b0]?) ∧ Below bb w w' := by
  have hlt := h.lt
  have START := Lib.hid h
  have HV := Lib.hid hv
  have FF := Lib.hid hF
  have FA := Lib.hid hFA
  clear h hv hF hFA
  go_enter Tryd.func50, Tryd.ntmps50
  go_wp2
  go_loopw [5] (fun i W => ∃ (j : Nat) (A' : Option Addr) (c' : Nat) (rs' : List Rw), j ≤ k ∧ i = .int .i64 j ∧ Bld W bb mb A' c' rs' ∧ vals rs' = vals rs ++ List.replicate j fr ∧ (Apt F A' rs' ∧ ∀ b0, F b0 → W.heap[b0]? = w.heap[b0]?) ∧ Below bb w W) (fun i _ => k - (intOf i).toNat)
  case atStart => exact ⟨0, A, c, rs, Nat.zero_le _, rfl, START.out, by simp, ⟨FA.out, fun _ _ => rfl⟩, Below.refl _ _⟩
  case round =>
    obtain ⟨j, A', c', rs', hj, rfl, hB, hV, ⟨hap, hsm⟩, hbel⟩ := hrel
    have AP := Lib.hid hap
    have SM := Lib.hid hsm
    have BD := Lib.hid hB
    have VL := Lib.hid hV
    have BW := Lib.hid hbel
    have j0 : (0 : Int) ≤ (j : Int) := by omega
    have hls : rs'.length ≤ 1048576 := by
      have := congrArg List.length hV
      rw [vals_len] at this
      simp [vals_len] at this
      omega
    clear hB hV hbel hap hsm
    by_cases hlj : j < k
    case neg =>
      obtain rfl : j = k := by omega
      have i1 : ¬ (j : Int) < (j : Int) := by omega
      go_wp2
      refine bodyPost_end (results_none rfl _ _ _) rfl ?_
      exact ⟨rfl, ⟨A', c', rs', BD.out, VL.out, AP.out, SM.out⟩, BW.out⟩
    have i1 : (j : Int) < (k : Int) := by omega
    have g0 := BD.out.cell
    have g1 := BD.out.free
    have gm := BD.out.map
    have zl := BD.out.lt
    obtain ⟨v0, v1⟩ := (HV.out.below BW.out hb1).2
    have vz := HV.out.pos.2
    have zb := BW.out.size
    have NX := Lib.hid (show vals rs ++ List.replicate (j + 1) fr = (vals rs ++ List.replicate j fr) ++ [fr] from by rw [List.replicate_succ', List.append_assoc])
    go_wp2_with fail
    refine wp_region_N (fun W => W.cell? ⟨bb, 0, none⟩ = some (.slice A' rs'.length c') ∧ W.cell? ⟨0, 0, none⟩ = some (.int .i64 (-1)) ∧ W.cell? ⟨0, 1, none⟩ = some (.int .i64 0)) [0, 1, 2, 3, 4, 5, 6, 7, 8] (by kernel_rfl) ?_
    have hS : (fun W : World => W.cell? ⟨bb, 0, none⟩ = some (.slice A' rs'.length c') ∧ W.cell? ⟨0, 0, none⟩ = some (.int .i64 (-1)) ∧ W.cell? ⟨0, 1, none⟩ = some (.int .i64 0)) wr.drew := ⟨g0, v0, v1⟩
    refine wpN_take (i := 0) (oi := { dst := some 7, op := .move (.tmp 0), type := _, pos := _, after := _, guard := _ }) (v := ?_) rfl (by kernel_rfl) (by kernel_rfl) (by kernel_rfl) (by kernel_rfl) (fun _ _ _ h => h) (Or.inl ⟨by rfl, ?_⟩) hS ?_
    rotate_left
    · intro W hW
      obtain ⟨q0, q1, q2⟩ := hW
      go_simp
      try with_reducible rfl
    simp only [Act.put, List.setIfInBounds_toArray, List.set_cons_zero, List.set_cons_succ]
    refine wpN_take (i := 1) (oi := { dst := some 8, op := .move (.tmp 0), type := _, pos := _, after := _, guard := _ }) (v := ?_) rfl (by kernel_rfl) (by kernel_rfl) (by kernel_rfl) (by kernel_rfl) (fun _ _ _ h => h) (Or.inl ⟨by rfl, ?_⟩) hS ?_
    rotate_left
    · intro W hW
      obtain ⟨q0, q1, q2⟩ := hW
      go_simp
      try with_reducible rfl
    simp only [Act.put, List.setIfInBounds_toArray, List.set_cons_zero, List.set_cons_succ]
    refine wpN_take (i := 2) (oi := { dst := some 9, op := .nilCheck (.tmp 8), type := _, pos := _, after := _, guard := _ }) (v := ?_) rfl (by kernel_rfl) (by kernel_rfl) (by kernel_rfl) (by kernel_rfl) (fun _ _ _ h => h) (Or.inl ⟨by rfl, ?_⟩) hS ?_
    rotate_left
    · intro W hW
      obtain ⟨q0, q1, q2⟩ := hW
      go_simp
      try with_reducible rfl
    simp only [Act.put, List.setIfInBounds_toArray, List.set_cons_zero, List.set_cons_succ]
    refine wpN_take (i := 3) (oi := { dst := some 10, op := .fieldAddr _ (.tmp 9) 0, type := _, pos := _, after := _, guard := _ }) (v := ?_) rfl (by kernel_rfl) (by kernel_rfl) (by kernel_rfl) (by kernel_rfl) (fun _ _ _ h => h) (Or.inl ⟨by rfl, ?_⟩) hS ?_
    rotate_left
    · intro W hW
      obtain ⟨q0, q1, q2⟩ := hW
      go_simp
      try with_reducible rfl
    simp only [Act.put, List.setIfInBounds_toArray, List.set_cons_zero, List.set_cons_succ]
    refine wpN_take (i := 4) (oi := { dst := some 11, op := .load _ (.tmp 10), type := _, pos := _, after := _, guard := _ }) (v := ?_) rfl (by kernel_rfl) (by kernel_rfl) (by kernel_rfl) (by kernel_rfl) (fun _ _ _ h => h) (Or.inl ⟨by rfl, ?_⟩) hS ?_
    rotate_left
    · intro W hW
      obtain ⟨q0, q1, q2⟩ := hW
      go_simp
      try with_reducible rfl
    simp only [Act.put, List.setIfInBounds_toArray, List.set_cons_zero, List.set_cons_succ]
    refine wpN_take (i := 5) (oi := { dst := some 12, op := .load _ (.global 0), type := _, pos := _, after := _, guard := _ }) (v := ?_) rfl (by kernel_rfl) (by kernel_rfl) (by kernel_rfl) (by kernel_rfl) (fun _ _ _ h => h) (Or.inl ⟨by rfl, ?_⟩) hS ?_
    rotate_left
    · intro W hW
      obtain ⟨q0, q1, q2⟩ := hW
      go_simp
      try with_reducible rfl
    simp only [Act.put, List.setIfInBounds_toArray, List.set_cons_zero, List.set_cons_succ]
    refine wpN_take (i := 6) (oi := { dst := some 13, op := .load _ (.global 0), type := _, pos := _, after := _, guard := _ }) (v := ?_) rfl (by kernel_rfl) (by kernel_rfl) (by kernel_rfl) (by kernel_rfl) (fun _ _ _ h => h) (Or.inl ⟨by rfl, ?_⟩) hS ?_
    rotate_left
    · intro W hW
      obtain ⟨q0, q1, q2⟩ := hW
      go_simp
      try with_reducible rfl
    simp only [Act.put, List.setIfInBounds_toArray, List.set_cons_zero, List.set_cons_succ]
    refine wpN_take (i := 7) (oi := { dst := some 14, op := .load _ (.global 0), type := _, pos := _, after := _, guard := _ }) (v := ?_) rfl (by kernel_rfl) (by kernel_rfl) (by kernel_rfl) (by kernel_rfl) (fun _ _ _ h => h) (Or.inl ⟨by rfl, ?_⟩) hS ?_
    rotate_left
    · intro W hW
      obtain ⟨q0, q1, q2⟩ := hW
      go_simp
      try with_reducible rfl
    simp only [Act.put, List.setIfInBounds_toArray, List.set_cons_zero, List.set_cons_succ]
    refine wpN_take (i := 8) (oi := { dst := some 15, op := .load _ (.global 0), type := _, pos := _, after := _, guard := _ }) (v := ?_) rfl (by kernel_rfl) (by kernel_rfl) (by kernel_rfl) (by kernel_rfl) (fun _ _ _ h => h) (Or.inl ⟨by rfl, ?_⟩) hS ?_
    rotate_left
    · intro W hW
      obtain ⟨q0, q1, q2⟩ := hW
      go_simp
      try with_reducible rfl
    simp only [Act.put, List.setIfInBounds_toArray, List.set_cons_zero, List.set_cons_succ]
    refine wpN_one (j := 9) (o := { dst := some 16, op := _, type := _, pos := _, after := _, guard := _ }) (by kernel_rfl) rfl ?_
    intro K hK
    go_simp
    refine hK _ _ (fun _ => ⟨((al1 wr _).drew.cell (p := ⟨bb, 0, none⟩) (by dsimp only; omega)).trans g0, ((al1 wr _).drew.cell (p := ⟨0, 0, none⟩) (by dsimp only; omega)).trans v0, ((al1 wr _).drew.cell (p := ⟨0, 1, none⟩) (by dsimp only; omega)).trans v1⟩) ?_
    clear hK K
    try simp only [Act.put, List.setIfInBounds_toArray, List.set_cons_zero, List.set_cons_succ]
    refine wpN_one (j := 10) (o := { dst := some 17, op := _, type := _, pos := _, after := _, guard := _ }) (by kernel_rfl) rfl ?_
    intro K hK
    go_simp
    refine hK _ _ (fun _ => ⟨((al2 wr _ _).drew.cell (p := ⟨bb, 0, none⟩) (by dsimp only; omega)).trans g0, ((al2 wr _ _).drew.cell (p := ⟨0, 0, none⟩) (by dsimp only; omega)).trans v0, ((al2 wr _ _).drew.cell (p := ⟨0, 1, none⟩) (by dsimp only; omega)).trans v1⟩) ?_
    clear hK K
    try simp only [Act.put, List.setIfInBounds_toArray, List.set_cons_zero, List.set_cons_succ]
    refine wpN_one (j := 11) (o := { dst := some 18, op := _, type := _, pos := _, after := _, guard := _ }) (by kernel_rfl) rfl ?_
    intro K hK
    refine step_push_row3 (by rfl) _ _ (by rfl) (bb + 1) wr.heap.size wr.heap.size c' rs'.length (wr.heap.size + 1) A' rs' ⟨some ⟨wr.heap.size, 0, none⟩, 4, fr⟩ (by rfl) rfl (by exact BD.out.own.below ((al2 wr _ _).drew) (Nat.le_refl _)) (by rfl) (by rw [sv_fr]; exact (show ((wr.alloc (Obj.cells #[.int .i64 (-1), .int .i64 0, .int .i64 (-1), .int .i64 0, .int .i64 (-1), .int .i64 0, .int .i64 (-1), .int .i64 0] 72)).alloc (Obj.cells #[.slice (some ⟨wr.heap.size, 0, none⟩) 4 4] 61)).cell? _ = _ from Wd.alloc_first (wr.alloc _) (wr.heap.size + 1) _ _ (by simp))) (by exact Rw.In.wide (Rw.In.keep (w' := ((wr.alloc (Obj.cells #[.int .i64 (-1), .int .i64 0, .int .i64 (-1), .int .i64 0, .int .i64 (-1), .int .i64 0, .int .i64 (-1), .int .i64 0] 72)).alloc (Obj.cells #[.slice (some ⟨wr.heap.size, 0, none⟩) 4 4] 61)).drew) (free_in wr (Obj.cells #[.slice (some ⟨wr.heap.size, 0, none⟩) 4 4] 61)) (fun _ _ _ => rfl)) (Nat.le_refl _) (show wr.heap.size + 1 ≤ ((wr.alloc (Obj.cells #[.int .i64 (-1), .int .i64 0, .int .i64 (-1), .int .i64 0, .int .i64 (-1), .int .i64 0, .int .i64 (-1), .int .i64 0] 72)).alloc (Obj.cells #[.slice (some ⟨wr.heap.size, 0, none⟩) 4 4] 61)).heap.size from by simp)) (Nat.le_refl _) (by omega) (by simp; omega) (by simp; omega) (by omega) F (fun b0 hb0 => ⟨by have := (FF.out b0 hb0).1; omega, by have := (FF.out b0 hb0).1; simp; omega, (AP.out b0 hb0).1, (AP.out b0 hb0).2⟩) ?_
    intro A8 c8 w8 h5 h6 h7
    have X8 := Lib.hid (show ∀ b0, F b0 → w8.heap[b0]? = w.heap[b0]? from fun b0 hb0 => (h7 b0 hb0).1.trans (((al2 wr _ _).drew.block b0 (by have := (FF.out b0 hb0).1; omega)).trans (SM.out b0 hb0)))
    have P8 := Lib.hid (show Apt F A8 (rs' ++ [⟨some ⟨wr.heap.size, 0, none⟩, 4, fr⟩]) from fun b0 hb0 => (h7 b0 hb0).2)
    have O8 := Lib.hid h5
    have s8 := h6.size
    have e8 := (World.cell?_of_block (a := ⟨bb, 0, none⟩) (h6.block bb (by first | (simp; done) | (simp; omega)) (by omega))).trans (((al2 wr _ _).drew.cell (p := ⟨bb, 0, none⟩) (by dsimp only; omega)).trans g0)
    have m8 := (World.cell?_of_block (a := ⟨bb, 1, none⟩) (h6.block bb (by first | (simp; done) | (simp; omega)) (by omega))).trans (((al2 wr _ _).drew.cell (p := ⟨bb, 1, none⟩) (by dsimp only; omega)).trans gm)
    have q0 := (World.cell?_of_block (a := ⟨0, 0, none⟩) (h6.block 0 (by first | (simp; done) | (simp; omega)) (by omega))).trans (((al2 wr _ _).drew.cell (p := ⟨0, 0, none⟩) (by dsimp only; omega)).trans v0)
    have q1 := (World.cell?_of_block (a := ⟨0, 1, none⟩) (h6.block 0 (by first | (simp; done) | (simp; omega)) (by omega))).trans (((al2 wr _ _).drew.cell (p := ⟨0, 1, none⟩) (by dsimp only; omega)).trans v1)
    have f8 := (World.frozen?_of_block (a := ⟨bb, 0, none⟩) (h6.block bb (by simp; omega) (by omega))).trans (((al2 wr _ _).drew.frozen (p := ⟨bb, 0, none⟩) (by dsimp only; omega)).trans g1)
    have B8 := Lib.hid (BW.out.trans (((al2 wr _ _).drew.mono (by omega)).trans (h6.below (by omega) (by simp; omega))))
    refine hK _ _ (fun _ => ⟨e8, q0, q1⟩) ?_
    clear hK K h5 h6 h7
    try simp only [Act.put, List.setIfInBounds_toArray, List.set_cons_zero, List.set_cons_succ]
    refine wpN_one (j := 12) (o := { dst := some 19, op := _, type := _, pos := _, after := _, guard := _ }) (by kernel_rfl) rfl ?_
    intro K hK
    go_simp
    refine hK _ _ (fun h => absurd h (Bool.eq_false_iff.1 (by kernel_rfl))) ?_
    clear hK K
    try simp only [Act.put, List.setIfInBounds_toArray, List.set_cons_zero, List.set_cons_succ]
    refine wpN_one (j := 13) (o := { dst := some 20, op := _, type := _, pos := _, after := _, guard := _ }) (by kernel_rfl) rfl ?_
    intro K hK
    go_simp
    refine hK _ _ (fun h => absurd h (Bool.eq_false_iff.1 (by kernel_rfl))) ?_
    clear hK K
    try simp only [Act.put, List.setIfInBounds_toArray, List.set_cons_zero, List.set_cons_succ]
    refine wpN_one (j := 14) (o := { dst := none, op := _, type := _, pos := _, after := _, guard := _ }) (by kernel_rfl) rfl ?_
    intro K hK
    go_simp
    refine hK _ _ (fun h => absurd h (Bool.eq_false_iff.1 (by kernel_rfl))) ?_
    clear hK K
    refine wpN_done (by kernel_rfl) ?_
    go_wp2
    go_roundw
    case rel => exact ⟨j + 1, A8, c8, rs' ++ [⟨some ⟨wr.heap.size, 0, none⟩, 4, fr⟩], by omega, by go_num, ⟨by rw [List.length_append]; exact World.cell?_setCell_same' _ _ _ (by rw [e8]; rfl), by simpa [go_sem] using m8, by simpa [go_sem] using f8, (O8.out.far (p := ⟨bb, 0, none⟩) (.inl (Nat.lt_succ_self _)) _).wide (Nat.le_refl _) (by simp [World.setCell])⟩, by rw [NX.out, ← VL.out, vals, List.map_append]; rfl, ⟨P8.out, fun b0 hb0 => (Below.heap_setCell _ _ _ b0 (by dsimp only; exact (FF.out b0 hb0).2)).trans (X8.out b0 hb0)⟩, B8.out.setCell (Nat.le_refl _) _⟩
    case measure => simp [intOf]; omega

end Fc
end Go.Proofs.YtajbahfbldmckaaDoor

namespace Go.Proofs.YtajbahfbldmckaaDoor
open Go.RowKit
namespace Fc

/-- A builder in memory of its own. -/
def NewB (w : World) (zss : List (List Int)) (e : Ending) (w' : World) : Prop :=
  ∃ bb mb A c rs, e = .returned (.pointer (some ⟨bb, 0, none⟩)) ∧ (w.heap.size ≤ mb ∧ mb < bb) ∧ Bld w' bb mb A c rs ∧ vals rs = zss ∧ MapAt w' mb ∧ Below w.heap.size w w'

set_option maxRecDepth 100000 in
set_option maxHeartbeats 4000000 in
theorem newBuilder_impl (k : Nat) (w : World) (hv : Vs w) (hk : k ≤ 1048576) :
    Calls Tryd.prog 75 #[.int .i64 k] w (NewB w (List.replicate k fr)) := by
  have h0 := hv.pos
  have HV := Lib.hid hv
  clear hv
  go_enter Tryd.func75, Tryd.ntmps75
  go_wp2_with fail
  refine (indices_impl w HV.out.1).mono ?_
  rintro e w1 ⟨rfl, hm, hb⟩
  have D1 := Lib.hid hb
  have z1 : w.heap.size < w1.heap.size := World.ownsMap.lt hm
  have HV1 := Lib.hid (HV.out.below hb h0.1)
  obtain ⟨V, hV⟩ : ∃ V, V = w1.alloc (Obj.cells #[.slice none 0 0, .map (some w.heap.size)] 127) := ⟨_, rfl⟩
  have BV := Lib.hid (show Below w1.heap.size w1 V from by rw [hV]; exact al1 _ _)
  have BB := Lib.hid (show Bld V w1.heap.size w.heap.size none 0 [] from ⟨by rw [hV]; simp [go_sem], by rw [hV]; simp [go_sem], by rw [hV]; simp [go_sem], OwnS.nil _ _ _⟩)
  have M1 := Lib.hid (owns_below hm BV.out z1)
  clear hm hb
  go_wp2_with fail
  rw [← hV]
  clear hV
  refine (addTets_impl w1.heap.size w.heap.size k none 0 [] V BB.out (HV1.out.below BV.out (by omega)) (by omega) (by simpa using hk) (fun _ => False) (fun _ h => h.elim) (fun _ h => h.elim)).mono ?_
  rintro e w2 ⟨rfl, ⟨A', c', rs', hB2, hv2, _, _⟩, hb2⟩
  have B2 := Lib.hid hB2
  have V2 := Lib.hid (show vals rs' = List.replicate k fr from by rw [hv2]; rfl)
  have M2 := Lib.hid (owns_below M1.out hb2 z1)
  have D2 := Lib.hid ((D1.out.trans (BV.out.mono (by omega))).trans (hb2.mono (by omega)))
  clear hB2 hv2 hb2
  go_wp2
  go_ret
  exact ⟨w1.heap.size, w.heap.size, A', c', rs', rfl, ⟨Nat.le_refl _, z1⟩, B2.out, V2.out, M2.out, D2.out⟩

end Fc
end Go.Proofs.YtajbahfbldmckaaDoor

namespace Go.Proofs.YtajbahfbldmckaaDoor
open Go.RowKit
namespace Tr

/-- A face is copied into a table, the indices of tetrahedra increased by s. -/
def upd (s : Int) (T : List (List Int)) (n0 : Nat) (Z : List (List Int)) (a f : Nat) : List (List Int) :=
  if tt T a f < 0 then Z else Z.set (n0 + a) (((Z.getD (n0 + a) []).set (f * 2) (tt T a f + s)).set (f * 2 + 1) (pp T a f))
/-- The table behind the faces that have come. -/
def cpy (s : Int) (T : List (List Int)) (n0 : Nat) {n : Nat} (Z : List (List Int)) (pre : List (Fc.Ix n)) : List (List Int) := pre.foldl (fun Z x => upd s T n0 Z (x.1 / 4) (x.1 % 4)) Z
theorem cpy_nil (s : Int) (T : List (List Int)) (n0 : Nat) {n : Nat} (Z : List (List Int)) : cpy s T n0 Z ([] : List (Fc.Ix n)) = Z := rfl
theorem cpy_snoc (s : Int) (T : List (List Int)) (n0 : Nat) {n : Nat} (Z : List (List Int)) (pre : List (Fc.Ix n)) (x : Fc.Ix n) : cpy s T n0 Z (pre ++ [x]) = upd s T n0 (cpy s T n0 Z pre) (x.1 / 4) (x.1 % 4) := by simp [cpy, List.foldl_append]
/-- The shape of a table: its rows behind the n0-th have eight numbers. -/
def Shp (n0 n : Nat) (Z : List (List Int)) : Prop := Z.length = n0 + n ∧ ∀ a, a < n → (Z.getD (n0 + a) []).length = 8
theorem getD_set_list (Z : List (List Int)) (i j : Nat) (r : List Int) : (Z.set i r).getD j [] = if i = j ∧ i < Z.length then r else Z.getD j [] := by
  rw [List.getD_eq_getElem?_getD, List.getD_eq_getElem?_getD, List.getElem?_set]
  by_cases h : i = j
  · subst h
    by_cases h2 : i < Z.length
    · simp [h2]
    · simp [h2]
  · simp [h]
theorem Shp.upd {s : Int} {T : List (List Int)} {n0 n : Nat} {Z : List (List Int)} (h : Shp n0 n Z) (a f : Nat) : Shp n0 n (upd s T n0 Z a f) := by
  unfold Tr.upd
  split
  · exact h
  · refine ⟨by rw [List.length_set]; exact h.1, fun b hb => ?_⟩
    rw [getD_set_list]
    split
    · rename_i e
      rw [List.length_set, List.length_set, e.1]
      exact h.2 b hb
    · exact h.2 b hb
theorem Shp.cpy {s : Int} {T : List (List Int)} {n0 n m : Nat} {Z : List (List Int)} (h : Shp n0 n Z) (pre : List (Fc.Ix m)) : Shp n0 n (cpy s T n0 Z pre) := by
  induction pre generalizing Z with
  | nil => exact h
  | cons x pre ih => exact ih (h.upd _ _)
/-- A row of which m faces have been copied. -/
def ptR (s : Int) (T : List (List Int)) (a m : Nat) : List Int := (List.range 8).map fun j => if j < m * 2 ∧ ¬ tt T a (j / 2) < 0 then (if j % 2 = 0 then tt T a (j / 2) + s else pp T a (j / 2)) else Fc.fr.getD j 0
theorem ptR_len (s : Int) (T : List (List Int)) (a m : Nat) : (ptR s T a m).length = 8 := by simp [ptR]
theorem ptR_zero (s : Int) (T : List (List Int)) (a : Nat) : ptR s T a 0 = Fc.fr := by
  unfold ptR
  simp only [Nat.zero_mul, Nat.not_lt_zero, false_and, if_false]
  rfl
theorem ptR_neg {s : Int} {T : List (List Int)} {a f : Nat} (h : tt T a f < 0) : ptR s T a (f + 1) = ptR s T a f := by
  unfold ptR
  refine List.map_congr_left fun j _ => ?_
  by_cases e : j / 2 = f
  · rw [e]; simp [h]
  · have : j < (f + 1) * 2 ↔ j < f * 2 := by omega
    simp only [this]
theorem ptR_pos {s : Int} {T : List (List Int)} {a f : Nat} (h : ¬ tt T a f < 0) : ptR s T a (f + 1) = ((ptR s T a f).set (f * 2) (tt T a f + s)).set (f * 2 + 1) (pp T a f) := by
  refine List.ext_getElem (by simp [ptR]) fun j h1 h2 => ?_
  rw [ptR_len] at h1
  rw [List.getElem_set, List.getElem_set]
  by_cases e1 : f * 2 + 1 = j
  · rw [if_pos e1]
    have e2 : j / 2 = f := by omega
    have e3 : j % 2 = 1 := by omega
    simp [ptR, e2, h, e3]
    omega
  · rw [if_neg e1]
    by_cases e4 : f * 2 = j
    · rw [if_pos e4]
      have e2 : j / 2 = f := by omega
      have e3 : j % 2 = 0 := by omega
      simp [ptR, e2, h, e3]
      omega
    · rw [if_neg e4]
      have e5 : j < (f + 1) * 2 ↔ j < f * 2 := by omega
      simp [ptR, e5]
/-- The table of which k faces have been copied, behind Z0. -/
def ptT (s : Int) (T Z0 : List (List Int)) (n k : Nat) : List (List Int) := Z0 ++ (List.range n).map fun a => ptR s T a (min 4 (k - a * 4))
theorem ptT_at (s : Int) (T Z0 : List (List Int)) (n k a : Nat) (ha : a < n) : (ptT s T Z0 n k).getD (Z0.length + a) [] = ptR s T a (min 4 (k - a * 4)) := by
  unfold ptT
  rw [List.getD_eq_getElem?_getD, List.getElem?_append_right (by omega)]
  simp [ha]
theorem ptT_zero (s : Int) (T Z0 : List (List Int)) (n : Nat) : ptT s T Z0 n 0 = Z0 ++ List.replicate n Fc.fr := by
  unfold ptT
  congr 1
  refine List.ext_getElem (by simp) fun j h1 h2 => ?_
  simp [ptR_zero]
theorem ptT_step (s : Int) (T Z0 : List (List Int)) (n a f : Nat) (ha : a < n) (hf : f < 4) : upd s T Z0.length (ptT s T Z0 n (a * 4 + f)) a f = ptT s T Z0 n (a * 4 + f + 1) := by
  have hm : min 4 (a * 4 + f - a * 4) = f := by omega
  have hm1 : min 4 (a * 4 + f + 1 - a * 4) = f + 1 := by omega
  have hoth : ∀ b, b ≠ a → min 4 (a * 4 + f + 1 - b * 4) = min 4 (a * 4 + f - b * 4) := fun b hb => by omega
  unfold upd
  split
  · rename_i h
    unfold ptT
    congr 1
    refine List.map_congr_left fun b _ => ?_
    by_cases e : b = a
    · subst e; rw [hm, hm1, ptR_neg h]
    · rw [hoth b e]
  · rename_i h
    rw [ptT_at _ _ _ _ _ _ ha, hm, ← ptR_pos h]
    unfold ptT
    rw [List.set_append_right _ _ (by omega)]
    congr 1
    refine List.ext_getElem (by simp) fun j h1 h2 => ?_
    rw [List.getElem_set]
    by_cases e : Z0.length + a - Z0.length = j
    · rw [if_pos e]
      have e2 : j = a := by omega
      subst e2
      simp [hm1]
    · rw [if_neg e]
      simp [hoth j (by omega)]
theorem cpy_up (s : Int) (T Z0 : List (List Int)) (n k : Nat) (hk : k ≤ n * 4) : cpy s T Z0.length (Z0 ++ List.replicate n Fc.fr) (Fc.up n k) = ptT s T Z0 n k := by
  induction k with
  | zero => rw [ptT_zero]; rfl
  | succ k ih =>
    rw [Fc.up_succ (by omega), cpy_snoc, ih (by omega)]
    have h1 := ptT_step s T Z0 n (k / 4) (k % 4) (by omega) (by omega)
    rw [show k / 4 * 4 + k % 4 = k from by omega] at h1
    exact h1
/-- A triangulation, the indices of its tetrahedra increased by s. -/
def shT (s : Int) (T : List (List Int)) : List (List Int) := (List.range T.length).map fun a => ptR s T a 4
theorem cpy_all (s : Int) (T Z0 : List (List Int)) : cpy s T Z0.length (Z0 ++ List.replicate T.length Fc.fr) (Fc.up T.length (T.length * 4)) = Z0 ++ shT s T := by
  rw [cpy_up _ _ _ _ _ (Nat.le_refl _)]
  unfold ptT shT
  congr 1
  refine List.map_congr_left fun a ha => ?_
  have := List.mem_range.1 ha
  rw [show min 4 (T.length * 4 - a * 4) = 4 from by omega]
/-- Not increased, it is the triangulation. -/
theorem shT_zero {T : List (List Int)} (h : Is T) : shT 0 T = T := by
  refine List.ext_getElem (by simp [shT]) fun a h1 h2 => ?_
  have h8 : (T.getD a []).length = 8 := h.2.1 a h2
  have hg : T.getD a [] = T[a] := by rw [List.getD_eq_getElem?_getD, List.getElem?_eq_getElem h2]; rfl
  simp only [shT, List.getElem_map, List.getElem_range]
  refine List.ext_getElem (by rw [ptR_len, ← hg, h8]) fun j h3 h4 => ?_
  rw [ptR_len] at h3
  have hv : T[a][j] = (T.getD a []).getD j 0 := by rw [hg, List.getD_eq_getElem?_getD, List.getElem?_eq_getElem h4]; rfl
  rw [hv]
  have hf : j / 2 < 4 := by omega
  have e0 : tt T a (j / 2) = (T.getD a []).getD (j / 2 * 2) 0 := rfl
  have e1 : pp T a (j / 2) = (T.getD a []).getD (j / 2 * 2 + 1) 0 := rfl
  by_cases hn : tt T a (j / 2) < 0
  · have hb := (h.bd_iff h2 hf).2 hn
    have hx : (ptR 0 T a 4)[j]'(by rw [ptR_len]; exact h3) = Fc.fr.getD j 0 := by simp [ptR]; intro _ h9; omega
    rw [hx]
    by_cases hj : j % 2 = 0
    · rw [show j = j / 2 * 2 from by omega, ← e0, hb.1]
      obtain h | h | h | h : j / 2 = 0 ∨ j / 2 = 1 ∨ j / 2 = 2 ∨ j / 2 = 3 := by omega
      all_goals rw [h]; rfl
    · rw [show j = j / 2 * 2 + 1 from by omega, ← e1, hb.2]
      obtain h | h | h | h : j / 2 = 0 ∨ j / 2 = 1 ∨ j / 2 = 2 ∨ j / 2 = 3 := by omega
      all_goals rw [h]; rfl
  · by_cases hj : j % 2 = 0
    · have hx : (ptR 0 T a 4)[j]'(by rw [ptR_len]; exact h3) = tt T a (j / 2) := by simp [ptR, hn, hj, h3]
      rw [hx, e0, show j / 2 * 2 = j from by omega]
    · have hx : (ptR 0 T a 4)[j]'(by rw [ptR_len]; exact h3) = pp T a (j / 2) := by simp [ptR, hn, hj, h3]
      rw [hx, e1, show j / 2 * 2 + 1 = j from by omega]
end Tr
end Go.Proofs.YtajbahfbldmckaaDoor

namespace Go.Proofs.YtajbahfbldmckaaDoor
open Go.RowKit Go.Shelf
namespace Fc

theorem OwnS.setFace {w : World} {lo hi c : Nat} {A : Option Addr} {rs : List Rw} (h : OwnS w lo hi A c rs) (hhi : hi ≤ w.heap.size) {j f : Nat} (hj : j < rs.length) (h8 : (rs.getD j nilRw).zs.length = 8) (hf : f < 4) :
    ∃ g gr o cr, (rs.getD j nilRw).A = some ⟨gr, o, none⟩ ∧ A = some ⟨g, 0, none⟩ ∧ (lo ≤ g ∧ g < hi) ∧ w.cell? ⟨g, j, none⟩ = some (.slice (some ⟨gr, o, none⟩) 4 cr) ∧ (lo ≤ gr ∧ gr < hi) ∧ gr ≠ g ∧ (4 ≤ cr ∧ cr ≤ maxLen) ∧
      ((∃ u, w.cell? ⟨gr, o + f * 2, none⟩ = some (.int .i64 u)) ∧ (∃ u, w.cell? ⟨gr, o + f * 2 + 1, none⟩ = some (.int .i64 u)) ∧ w.frozen? ⟨gr, o + f * 2, none⟩ = false ∧ w.frozen? ⟨gr, o + f * 2 + 1, none⟩ = false) ∧
      ∀ t p : Int, OwnS ((w.setCell ⟨gr, o + f * 2, none⟩ (.int .i64 t)).setCell ⟨gr, o + f * 2 + 1, none⟩ (.int .i64 p)) lo hi A c (rs.set j ⟨some ⟨gr, o, none⟩, cr, ((rs.getD j nilRw).zs.set (f * 2) t).set (f * 2 + 1) p⟩) := by
  obtain ⟨g, hA, hg1, hg2, hcell⟩ := h.at_ (by omega)
  obtain ⟨hc, _⟩ := hcell j hj
  obtain ⟨r, hr⟩ : ∃ r, rs.getD j nilRw = r := ⟨_, rfl⟩
  have hmem : r ∈ rs := by rw [← hr]; exact getD_mem hj
  have hin := h.mine r hmem
  rw [hr] at hc h8 ⊢
  obtain ⟨gr, o, eA, b1, b2, b3⟩ := hin.mine.2 (by omega)
  have hoff := h.off r hmem _ hA _ eA (by omega)
  dsimp only at hoff
  have hsv : r.sv = .slice (some ⟨gr, o, none⟩) 4 r.c := by unfold Rw.sv; rw [eA, h8]
  have k0 := b3 (f * 2) (by omega)
  have k1 := b3 (f * 2 + 1) (by omega)
  rw [← Nat.add_assoc] at k1
  refine ⟨g, gr, o, r.c, eA, hA, ⟨hg1, hg2⟩, by rw [hc, hsv], ⟨b1, b2⟩, hoff, ⟨by have := hin.le.1; omega, hin.cap⟩, ⟨⟨_, k0.1⟩, ⟨_, k1.1⟩, k0.2, k1.2⟩, fun t p => ?_⟩
  have hnew : (((r.zs.set (f * 2) t).set (f * 2 + 1) p)).length = r.zs.length := by rw [List.length_set, List.length_set]
  have := h.turn (w' := (w.setCell ⟨gr, o + f * 2, none⟩ (.int .i64 t)).setCell ⟨gr, o + f * 2 + 1, none⟩ (.int .i64 p)) hhi hj hr hnew ?_ ?_
  · rw [eA] at this; exact this
  · refine ⟨rfl, fun _ => ⟨gr, o, eA, b1, b2, fun k hk => ?_⟩⟩
    rw [hnew] at hk
    have kk := b3 k hk
    refine ⟨?_, by rw [World.frozen?_setCell, World.frozen?_setCell]; exact kk.2⟩
    by_cases e1 : k = f * 2 + 1
    · subst e1
      rw [← Nat.add_assoc, World.cell?_setCell_same' _ _ _ (by rw [World.cell?_setCell_other _ _ _ _ (by simp), k1.1]; rfl)]
      congr 2
      rw [List.getD_eq_getElem?_getD, List.getElem?_set]
      simp
      rw [if_pos (by omega)]
      rfl
    · rw [World.cell?_setCell_other _ _ _ _ (by first | (simp; done) | (simp; omega))]
      by_cases e2 : k = f * 2
      · subst e2
        rw [World.cell?_setCell_same' _ _ _ (by rw [k0.1]; rfl)]
        congr 2
        rw [List.getD_eq_getElem?_getD, List.getElem?_set, List.getElem?_set]
        simp
        rw [if_pos (by omega)]
        rfl
      · rw [World.cell?_setCell_other _ _ _ _ (by first | (simp; done) | (simp; omega)), kk.1]
        congr 2
        rw [List.getD_eq_getElem?_getD, List.getD_eq_getElem?_getD, List.getElem?_set, List.getElem?_set, if_neg (by omega), if_neg (by omega)]
  · intro k _ ho
    have hne := ho _ eA (by omega)
    dsimp only at hne
    exact (Below.heap_setCell _ _ _ k (by dsimp only; omega)).trans (Below.heap_setCell _ _ _ k (by dsimp only; omega))

theorem OwnS.grownC {w w' : World} {lo hi c : Nat} {A : Option Addr} {rs : List Rw} {row : Option Nat} (h : OwnS w lo hi A c rs) (hg : w.grownBy w' row) (hr : ∀ k, row = some k → ∃ o : Obj, w.heap[k]? = some o ∧ o.isCells = false) : OwnS w' lo hi A c rs := by
  refine ⟨⟨h.row.1, ?_⟩, h.top, fun r hr' => ?_, h.off, h.apart⟩
  · rcases h.row.2 with h0 | ⟨g, cap, cur, hv, hb, hgg, q⟩
    · exact .inl h0
    · refine .inr ⟨g, cap, cur, hv, hb, ?_, q⟩
      rw [hg.block g (Array.getElem?_eq_some_iff.1 hgg).1 (fun e => by
        obtain ⟨o, ho, hc⟩ := hr g e.symm
        rw [hgg] at ho
        cases ho
        cases hc)]
      exact hgg
  · have hm := h.mine r hr'
    exact ⟨hm.le, hm.cap, hm.mine.1, fun h0 => by
      obtain ⟨g, off, e, h1, h2, h3⟩ := hm.mine.2 h0
      exact ⟨g, off, e, h1, h2, fun j hj => ⟨cell_kept (h3 j hj).1 hg hr, (frozen_kept (h3 j hj).1 hg hr).trans (h3 j hj).2⟩⟩⟩
/-- A builder is left as it is by what a loop over a function does besides. -/
theorem Bld.grownC {w w' : World} {bb mb c : Nat} {A : Option Addr} {rs : List Rw} {row : Option Nat} (h : Bld w bb mb A c rs) (hg : w.grownBy w' row) (hr : ∀ k, row = some k → ∃ o : Obj, w.heap[k]? = some o ∧ o.isCells = false) : Bld w' bb mb A c rs :=
  ⟨cell_kept h.cell hg hr, cell_kept h.map hg hr, (frozen_kept h.cell hg hr).trans h.free, (h.own.grownC hg hr).wide (Nat.le_refl _) hg.size⟩

end Fc
end Go.Proofs.YtajbahfbldmckaaDoor

namespace Go.Proofs.YtajbahfbldmckaaDoor
open Go

section
variable {F : Fence} {n : Nat} {P : Program} {ops : Array Oper} {Q : Exit → Act → World → Prop} {md : Region.Mode} {S : World → Prop} {N : List Nat}

/-- The operation ends, with a value or without. -/
def EndsIn (P : Program) (o : Oper) (a : Act) (w : World) (K : Act → World → Prop) : Prop :=
  (∃ v w', (execOp a.eval o).run P w = .ok (.value v) w' ∧ K (a.put o.dst v) w') ∨ ∃ w', (execOp a.eval o).run P w = .ok .skip w' ∧ K (a.put o.dst undef) w'
theorem EndsIn.mono {o : Oper} {a : Act} {w : World} {K K' : Act → World → Prop} (h : EndsIn P o a w K) (hk : ∀ a w, K a w → K' a w) : EndsIn P o a w K' := by
  rcases h with ⟨v, w', h1, h2⟩ | ⟨w', h1, h2⟩
  · exact .inl ⟨v, w', h1, hk _ _ h2⟩
  · exact .inr ⟨w', h1, hk _ _ h2⟩
/-- No call, no defer, no select, no guard. -/
def plainB (ops : Array Oper) : Bool := ops.all fun o => o.guard.isNone && match o.op with | .call _ => false | .defer _ => false | .select _ _ => false | _ => true
def wpM (P : Program) (md : Region.Mode) (ops : Array Oper) (Q : Exit → Act → World → Prop) (S : World → Prop) (N : List Nat) : Nat → Array Bool → Act → World → Prop
  | 0, l, a, w => Region.ready md ops l = [] ∧ Q .normal a w
  | f + 1, l, a, w => (Region.ready md ops l = [] → Q .normal a w) ∧ ∀ j ∈ Region.ready md ops l, ∃ o, ops[j]? = some o ∧ EndsIn P o a w (fun a' w' => (asksS md ops N j = true → S w') ∧ wpM P md ops Q S N f (l.setIfInBounds j true) a' w')

theorem plain_at (hp : plainB ops = true) {j : Nat} {o : Oper} (ho : ops[j]? = some o) : o.guard = none ∧ (∀ c, o.op ≠ .call c) ∧ (∀ c, o.op ≠ .defer c) ∧ ∀ cs b, o.op ≠ .select cs b := by
  unfold plainB at hp
  have h := Array.all_eq_true'.1 hp o (Array.mem_of_getElem? ho)
  simp only [Bool.and_eq_true, Option.isNone_iff_eq_none] at h
  obtain ⟨h1, h2⟩ := h
  exact ⟨h1, fun c e => by rw [e] at h2; simp at h2, fun c e => by rw [e] at h2; simp at h2, fun cs b e => by rw [e] at h2; simp at h2⟩

theorem wpAnyIn_of_M (hp : plainB ops = true) : ∀ (f : Nat) (l : Array Bool) (a : Act) (w : World), wpM P md ops Q S N f l a w → wpAnyIn F n P md ops Q f l a w := by
  intro f
  induction f with
  | zero => exact fun _ _ _ h => h
  | succ f ih =>
    refine fun l a w h => ⟨h.1, fun j hj => ?_⟩
    obtain ⟨o, ho, he⟩ := h.2 j hj
    obtain ⟨hg, hc, hd, _⟩ := plain_at hp ho
    have hab : ∀ g, o.about P w a.eval = some g → F.fn g := fun g hgg => by
      unfold Oper.about at hgg
      split at hgg
      · rename_i c e; exact absurd e (hc c)
      · cases hgg
    unfold wpOpIn
    simp only [ho]
    rw [if_pos (by simp [Region.wanted, hg])]
    refine ⟨hab, ?_⟩
    rw [Oper.semAt_eq _ _ _ hd]
    rcases he with ⟨v, w', h1, h2⟩ | ⟨w', h1, h2⟩
    · rw [h1]; exact ih _ _ _ h2.2
    · rw [h1]; exact ih _ _ _ h2.2

/-- A load of N is taken first. -/
theorem wpM_first {i : Nat} {oi : Oper} {v : Value} (hp : plainB ops = true) (hi : ops[i]? = some oi) (hN : i ∈ N) (f : Nat) :
    ∀ (l : Array Bool) (a : Act) (w : World), (∀ j oj, ops[j]? = some oj → j ≠ i → l.getD j true = false → (∀ e ∈ oj.after, Region.binds md e = true → e.on ≠ i) → oi.apart ops oj = true) →
      i ∈ Region.ready md ops l → (∀ w, S w → (execOp a.eval oi).run P w = .ok (.value v) w) → S w → wpM P md ops Q S N f (l.setIfInBounds i true) (a.put oi.dst v) w → wpM P md ops Q S N (f + 1) l a w := by
  have hsi := (plain_at hp hi).2.2.2
  induction f with
  | zero =>
    intro l a w _ hr hy hS H
    refine ⟨fun h => absurd hr (by rw [h]; exact List.not_mem_nil), fun j hj => ?_⟩
    by_cases e : j = i
    · rw [e]
      exact ⟨oi, hi, .inl ⟨v, w, hy w hS, fun _ => hS, H⟩⟩
    · have h2 := ready_mono hj e
      rw [H.1] at h2
      exact absurd h2 List.not_mem_nil
  | succ f ih =>
    intro l a w hf hr hy hS H
    refine ⟨fun h => absurd hr (by rw [h]; exact List.not_mem_nil), fun j hj => ?_⟩
    by_cases e : j = i
    · rw [e]
      exact ⟨oi, hi, .inl ⟨v, w, hy w hS, fun _ => hS, H⟩⟩
    have hask := asks_of_ready hN hr hj
    obtain ⟨hlj, oj', hoj', hall⟩ := mem_ready.1 hj
    have hfree : ∀ x ∈ oj'.after, Region.binds md x = true → x.on ≠ i := fun x hx hb hon => by
      have h1 := hall x hx hb
      rw [hon, getD_both (mem_ready.1 hr).1] at h1
      cases h1
    obtain ⟨oj, hoj, he⟩ := H.2 j (ready_mono hj e)
    obtain rfl : oj = oj' := Option.some.inj (hoj.symm.trans hoj')
    have hsj := (plain_at hp hoj).2.2.2
    obtain ⟨a1, a2, a3⟩ := Oper.apart_spec (hf j oj hoj e hlj hfree)
    have next : ∀ u w', ((asksS md ops N j = true → S w') ∧ wpM P md ops Q S N f ((l.setIfInBounds i true).setIfInBounds j true) ((a.put oi.dst v).put oj.dst u) w') → (asksS md ops N j = true → S w') ∧ wpM P md ops Q S N (f + 1) (l.setIfInBounds j true) (a.put oj.dst u) w' := fun u w' hk => by
      refine ⟨fun _ => hk.1 hask, ih _ _ w' (fun k ok hk1 hk2 hk3 hk4 => hf k ok hk1 hk2 ?_ hk4) (ready_mono hr (Ne.symm e)) (fun w2 hs2 => by rw [execOp_put oi hsi a oj.dst u a3]; exact hy w2 hs2) (hk.1 hask) ?_⟩
      · by_cases e2 : j = k
        · rw [← e2]; exact hlj
        · rw [getD_set_ne true e2] at hk3; exact hk3
      · rw [Array.setIfInBounds_comm _ _ e, ← Act.put_comm a v u a2]
        exact hk.2
    refine ⟨oj, hoj, ?_⟩
    unfold EndsIn at he ⊢
    rw [execOp_put oj hsj a oi.dst v a1] at he
    rcases he with ⟨u, w', h1, h2⟩ | ⟨w', h1, h2⟩
    · exact .inl ⟨u, w', h1, next u w' h2⟩
    · exact .inr ⟨w', h1, next undef w' h2⟩
theorem wpM_take {i : Nat} {oi : Oper} {v : Value} {f : Nat} {l : Array Bool} {a : Act} {w : World} (hp : plainB ops = true) (hi : ops[i]? = some oi) (hN : N.contains i = true) (hf : Region.free md ops l i = true) (hr : (Region.ready md ops l).contains i = true)
    (hy : ∀ w, S w → (execOp a.eval oi).run P w = .ok (.value v) w) (hS : S w) (h : wpM P md ops Q S N f (l.setIfInBounds i true) (a.put oi.dst v) w) : wpM P md ops Q S N (f + 1) l a w :=
  wpM_first hp hi (by simpa using hN) f l a w (Region.free_spec hi hf) (by simpa using hr) hy hS h
/-- One operation alone may come up. -/
theorem wpM_one {j : Nat} {o : Oper} {f : Nat} {l : Array Bool} {a : Act} {w : World} (hr : Region.ready md ops l = [j]) (ho : ops[j]? = some o)
    (h : EndsIn P o a w (fun a' w' => (asksS md ops N j = true → S w') ∧ wpM P md ops Q S N f (l.setIfInBounds j true) a' w')) : wpM P md ops Q S N (f + 1) l a w := by
  refine ⟨(fun h0 => by rw [hr] at h0; cases h0), fun k hk => ?_⟩
  rw [hr] at hk
  obtain rfl : k = j := by simpa using hk
  exact ⟨o, ho, h⟩
theorem wpM_done {f : Nat} {l : Array Bool} {a : Act} {w : World} (hr : Region.ready md ops l = []) (h : Q .normal a w) : wpM P md ops Q S N f l a w := by
  cases f with
  | zero => exact ⟨hr, h⟩
  | succ f => exact ⟨fun _ => h, (fun k hk => by rw [hr] at hk; cases hk)⟩
/-- The beginning, in a program under 'wide'. -/
theorem wpIn_region_M (S : World → Prop) (N : List Nat) {id : Nat} {a : Act} {w : World} (hm : P.follows .mixedOrders = true) (hp : plainB ops = true) (h : wpM P .any ops Q S N ops.size (Array.replicate ops.size false) a w.drew) : (Code.region id ops true).wpIn F n P Q a w :=
  wpIn_region_any hm (wpAnyIn_of_M hp _ _ _ _ h)
end

end Go.Proofs.YtajbahfbldmckaaDoor

namespace Go.Proofs.YtajbahfbldmckaaDoor
open Go.RowKit Go.Shelf
namespace Fc
attribute [local go_sem] Oper.semAt_some
theorem leave2 {F : Fence} {n : Nat} {P : Program} {fn : Func} {R : Ending → World → Prop} {tmps : Array Value} {w : World} {v : Value} {D : Nat} (hK : w.heap[D]? = some (.deferred (some [])))
    (h1 : (results fn tmps).run P (w.putObj D (.deferred none)) = .ok v (w.putObj D (.deferred none))) (h2 : R (.returned v) (w.putObj D (.deferred none))) :
    bodyPostM F n P fn R .normal { tmps := tmps, defers := [{ target := .collected D, args := #[] }] } w := ⟨by simp, .inl ⟨_, _, rfl, run_takeDeferred hK, v, h1, h2⟩⟩

set_option maxRecDepth 100000 in
set_option maxHeartbeats 8000000 in
theorem addTri_impl (bb mb n c : Nat) (A : Option Addr) (T : List (List Int)) (A0 : Option Addr) (c0 : Nat) (rs0 : List Rw) (w : World) (h : RdT w bb A n T) (hB : Bld w bb mb A0 c0 rs0) (hv : Vs w) (hb1 : 3 < bb) (hT : Tr.Is T) (hsum : rs0.length + n ≤ 1048576) :
    Calls Tryd.prog 70 #[.pointer (some ⟨bb, 0, none⟩), .agg #[.slice A n c]] w fun e w' => e = .returned (.tuple #[]) ∧ (∃ A' c' rs', Bld w' bb mb A' c' rs' ∧ vals rs' = vals rs0 ++ Tr.shT rs0.length T) ∧ Below bb w w' := by
  have hlt := hB.lt
  have HT := Lib.hid h
  have VG0 := Lib.hid hv.2
  have LN := Lib.hid h.len
  have IS := Lib.hid hT
  have h8 : n ≤ 8 := by rw [← LN.out]; exact hT.1
  have H4 := Lib.hid hT.2.1
  refine (callsIn_wide (n := 5)).1 ?_
  refine callsIn_of_wp_marks Tryd.func70 rfl trivial ?_ rfl
  simp only [Tryd.ntmps70, List.size_toArray, List.length_cons, List.length_nil, Nat.reduceAdd, Nat.reduceSub, Array.replicate_succ, Array.replicate_zero, List.push_toArray, List.append_toArray, List.nil_append, List.cons_append]
  obtain ⟨U, hU⟩ : ∃ U, U = ((w.alloc (Obj.cells #[.pointer (some ⟨bb, 0, none⟩)] 64)).alloc (Obj.cells #[.slice A n c] 28)).alloc (Obj.cells #[.int .i64 rs0.length] 2) := ⟨_, rfl⟩
  have hBU : Below w.heap.size w U := by rw [hU]; exact al3 _ _ _ _
  have z : w.heap.size + 2 < U.heap.size := by rw [hU]; simp
  have k0 : U.cell? ⟨w.heap.size, 0, none⟩ = some (.pointer (some ⟨bb, 0, none⟩)) := by rw [hU]; simp [go_sem]
  have k1 : U.cell? ⟨w.heap.size + 1, 0, none⟩ = some (.slice A n c) := by rw [hU]; simp [go_sem]
  have k2 : U.cell? ⟨w.heap.size + 2, 0, none⟩ = some (.int .i64 rs0.length) := by rw [hU]; simp [go_sem]
  have RT := Lib.hid (HT.out.below (hBU.mono (by omega)))
  have BU := Lib.hid (hB.below hBU)
  have DU := Lib.hid (hBU.mono (Nat.le_of_lt hlt))
  have VU := Lib.hid (hv.below hBU (by omega))
  have AP := Lib.hid (show Apt (fun b0 => w.heap.size ≤ b0 ∧ b0 < w.heap.size + 3) A0 rs0 from fun b0 hb0 => ⟨fun a ha => by have := hB.own.top a ha; omega, fun q hq => (hB.own.mine q hq).off (.inr hb0.1)⟩)
  have g0 := hB.cell
  have l0 : bb < w.heap.size := hlt
  clear h hv hT hBU hB
  gi_wp2
  rw [← hU]
  clear hU
  refine ⟨trivial, ?_⟩
  refine (callsIn_wide.2 (addTets_impl bb mb n A0 c0 rs0 U BU.out VU.out hb1 hsum (fun b0 => w.heap.size ≤ b0 ∧ b0 < w.heap.size + 3) (fun b0 hb0 => ⟨by omega, by omega⟩) AP.out)).mono ?_
  rintro e X ⟨rfl, ⟨A1, c1, rs1, hB1, hv1, hap1, hsm1⟩, hbX⟩
  have F0 : w.heap.size ≤ w.heap.size ∧ w.heap.size < w.heap.size + 3 := by omega
  have F1 : w.heap.size ≤ w.heap.size + 1 ∧ w.heap.size + 1 < w.heap.size + 3 := by omega
  have F2 : w.heap.size ≤ w.heap.size + 2 ∧ w.heap.size + 2 < w.heap.size + 3 := by omega
  have k0 := (World.cell?_of_block (a := ⟨w.heap.size, 0, none⟩) (hsm1 _ F0)).trans k0
  have k1 := (World.cell?_of_block (a := ⟨w.heap.size + 1, 0, none⟩) (hsm1 _ F1)).trans k1
  have k2 := (World.cell?_of_block (a := ⟨w.heap.size + 2, 0, none⟩) (hsm1 _ F2)).trans k2
  have zX : U.heap.size ≤ X.heap.size := hbX.size
  have RX := Lib.hid (RT.out.below hbX)
  have DX := Lib.hid (DU.out.trans hbX)
  have BX := Lib.hid hB1
  have VX := Lib.hid hv1
  have VV := Lib.hid (VU.out.below hbX hb1)
  have PX := Lib.hid hap1
  clear hB1 hv1 hap1 hsm1 hbX F0 F1 F2 RT DU BU VU AP
  obtain ⟨V, hV⟩ : ∃ V, V = X.alloc (Obj.cells #[.slice A n c] 28) := ⟨_, rfl⟩
  have zV : X.heap.size < V.heap.size := by rw [hV]; simp
  have hBX : Below X.heap.size X V := by rw [hV]; exact al1 _ _
  have DV := Lib.hid (DX.out.trans (hBX.mono (by omega)))
  have KB := Lib.hid (show V.cell? ⟨X.heap.size, 0, none⟩ = some (.slice A n c) from by rw [hV]; simp [go_sem])
  have A0_ := Lib.hid (show V.cell? ⟨w.heap.size, 0, none⟩ = some (.pointer (some ⟨bb, 0, none⟩)) from (hBX.cell (p := ⟨w.heap.size, 0, none⟩) (by dsimp only; omega)).trans k0)
  have A2_ := Lib.hid (show V.cell? ⟨w.heap.size + 2, 0, none⟩ = some (.int .i64 rs0.length) from (hBX.cell (p := ⟨w.heap.size + 2, 0, none⟩) (by dsimp only; omega)).trans k2)
  have BV := Lib.hid (BX.out.below hBX)
  have RV := Lib.hid (RX.out.below (hBX.mono (by omega)))
  gi_wp2_with (refine ⟨trivial, ?_⟩; gi_at_call 76; refine (Fc.facesOf_in Fence.wide _ trivial rfl _ _ _ _).mono ?_; rintro e w' ⟨rfl, rfl⟩)
  rw [← hV]
  clear hV hBX RX BX DX
  refine Fc.rangeC (by omega) X.heap.size bb c A T H4.out (by omega) zV (by omega) rfl rfl KB.out RV.out
    (fun pre W => ((W.cell? ⟨w.heap.size, 0, none⟩ = some (.pointer (some ⟨bb, 0, none⟩)) ∧ W.cell? ⟨w.heap.size + 2, 0, none⟩ = some (.int .i64 rs0.length)) ∧ ∃ A' c' rs, Bld W bb mb A' c' rs ∧ Apt (fun b0 => w.heap.size ≤ b0 ∧ b0 < w.heap.size + 3) A' rs ∧ vals rs = Tr.cpy rs0.length T rs0.length (vals rs0 ++ List.replicate n fr) pre) ∧ Below bb w W)
    (OwnFrom.and (fun s Y Z row hs hg hr => by
      obtain ⟨⟨h1, h2⟩, A', c', rs, h3, h4, h5⟩ := hs
      have hr' : ∀ r, row = some r → ∃ o : Obj, Y.heap[r]? = some o ∧ o.isCells = false := fun r e => (hr r e).2
      exact ⟨⟨cell_kept h1 hg hr', cell_kept h2 hg hr'⟩, A', c', rs, h3.grownC hg hr', h4, h5⟩) (ownFrom_below (by omega) (by omega)))
    ⟨⟨⟨A0_.out, A2_.out⟩, A1, c1, rs1, BV.out, PX.out, VX.out⟩, DV.out⟩
    (fun x Bx W => (W.cell? ⟨Bx, 0, none⟩ = some (.int .i64 ((x.1 : Int) / 4)) ∧ W.cell? ⟨Bx, 1, none⟩ = some (.int .i64 ((x.1 : Int) % 4))) ∧ W.cell? ⟨Bx + 1, 0, none⟩ = some (.int .i64 (Tr.tt T (x.1 / 4) (x.1 % 4))) ∧ W.cell? ⟨Bx + 1, 1, none⟩ = some (.int .i64 (Tr.pp T (x.1 / 4) (x.1 % 4))))
    (fun x Bx => Own.from (fun s X Y row hs hg hr => ⟨⟨cell_kept hs.1.1 hg hr, cell_kept hs.1.2 hg hr⟩, cell_kept hs.2.1 hg hr, cell_kept hs.2.2 hg hr⟩) _) ?acts ?assign ?body ?done
  case assign =>
    rintro l pre x W K ⟨⟨⟨b0, b2⟩, A', c', rs, hO, hAp, hVl⟩, hB⟩ hK
    dsimp only [Fc.encF]
    have zW : bb ≤ W.heap.size := Nat.le_trans (Nat.le_of_lt hlt) hB.size
    gi_wp2
    obtain ⟨Y, hY⟩ : ∃ Y, Y = (W.alloc (Obj.cells #[.int .i64 ((x.1 : Int) / 4), .int .i64 ((x.1 : Int) % 4)] 76)).alloc (Obj.cells #[.int .i64 (Tr.tt T (x.1 / 4) (x.1 % 4)), .int .i64 (Tr.pp T (x.1 / 4) (x.1 % 4))] 72) := ⟨_, rfl⟩
    have m0 : Y.cell? ⟨W.heap.size, 0, none⟩ = some (.int .i64 ((x.1 : Int) / 4)) := by rw [hY]; simp [go_sem]
    have m1 : Y.cell? ⟨W.heap.size, 1, none⟩ = some (.int .i64 ((x.1 : Int) % 4)) := by rw [hY]; simp [go_sem]
    have n0 : Y.cell? ⟨W.heap.size + 1, 0, none⟩ = some (.int .i64 (Tr.tt T (x.1 / 4) (x.1 % 4))) := by rw [hY]; simp [go_sem]
    have n1 : Y.cell? ⟨W.heap.size + 1, 1, none⟩ = some (.int .i64 (Tr.pp T (x.1 / 4) (x.1 % 4))) := by rw [hY]; simp [go_sem]
    have hAA : Below W.heap.size W Y := by rw [hY]; exact al2 _ _ _
    have hA : Below bb W Y := hAA.mono zW
    have hF : KeepsFrom V.heap.size W Y := by rw [hY]; exact ((KeepsOthers.alloc W _).trans (KeepsOthers.alloc _ _)).from _
    have hI : Y.cell? ⟨w.heap.size, 0, none⟩ = some (.pointer (some ⟨bb, 0, none⟩)) := by rw [hY]; exact Fc.cell_al _ (Fc.cell_al _ b0)
    have hI2 : Y.cell? ⟨w.heap.size + 2, 0, none⟩ = some (.int .i64 rs0.length) := by rw [hY]; exact Fc.cell_al _ (Fc.cell_al _ b2)
    have hOY : Bld Y bb mb A' c' rs := hO.below hAA
    rw [← hY]
    clear hY
    revert m0 m1 n0 n1
    generalize W.heap.size = Bx
    intro m0 m1 n0 n1
    exact hK Bx _ hF hA ⟨⟨⟨hI, hI2⟩, A', c', rs, hOY, hAp, hVl⟩, hB.trans hA⟩ ⟨⟨m0, m1⟩, n0, n1⟩
  case body =>
    rintro l pre x Bx W hl ⟨r, hr⟩ ⟨⟨⟨b0, b2⟩, A', c', rs, hO, hAp, hVl⟩, hB⟩ ⟨⟨m0, m1⟩, q0, q1⟩ hlen
    have xlt := x.2
    obtain ⟨a, hae⟩ : ∃ a, x.1 / 4 = a := ⟨_, rfl⟩
    obtain ⟨f, hfe⟩ : ∃ f, x.1 % 4 = f := ⟨_, rfl⟩
    have ha : a < n := by omega
    have hf : f < 4 := by omega
    have ia : ((x.1 : Int) / 4) = (a : Int) := by omega
    have jf : ((x.1 : Int) % 4) = (f : Int) := by omega
    rw [ia] at m0
    rw [jf] at m1
    rw [hae, hfe] at q0 q1
    have SN := Lib.hid (show Tr.cpy rs0.length T rs0.length (vals rs0 ++ List.replicate n fr) (pre ++ [x]) = Tr.upd rs0.length T rs0.length (Tr.cpy rs0.length T rs0.length (vals rs0 ++ List.replicate n fr) pre) a f from by rw [Tr.cpy_snoc, hae, hfe])
    have SH := Lib.hid (show Tr.Shp rs0.length n (Tr.cpy rs0.length T rs0.length (vals rs0 ++ List.replicate n fr) pre) from Tr.Shp.cpy ⟨by rw [List.length_append, Go.Proofs.YtajbahfbldmckaaDoor.Fc.vals_len, List.length_replicate], fun b hb => by
      rw [List.getD_eq_getElem?_getD, List.getElem?_append_right (by rw [Go.Proofs.YtajbahfbldmckaaDoor.Fc.vals_len]; omega), Go.Proofs.YtajbahfbldmckaaDoor.Fc.vals_len, show rs0.length + b - rs0.length = b from by omega, List.getElem?_replicate, if_pos hb]; rfl⟩ pre)
    have zW : bb < W.heap.size := hO.lt
    have zW1 : w.heap.size + 2 < W.heap.size := World.block_lt_of_cell? W _ b2
    have zB : Bx + 1 < W.heap.size := World.block_lt_of_cell? W _ q0
    obtain ⟨v0, v1⟩ := VG0.out.below hB (by omega)
    have OW := Lib.hid hO
    have AW := Lib.hid hAp
    have VL := Lib.hid hVl
    have HBW := Lib.hid hB
    have DB := IS.out.bd_iff (a := a) (f := f) (by rw [LN.out]; exact ha) hf
    clear ia jf hae hfe xlt hO hVl hr hB hAp
    by_cases hneg : Tr.tt T a f < 0
    · obtain ⟨h1, h2⟩ := DB.2 hneg
      have NX := Lib.hid (show ∀ Z, Tr.upd rs0.length T rs0.length Z a f = Z from fun Z => by unfold Tr.upd; rw [if_pos hneg])
      rw [h1] at q0
      rw [h2] at q1
      clear h1 h2 hneg DB
      gi_wp2
      exact ⟨KeepsFrom.refl _ _, Below.refl _ _, ⟨⟨b0, b2⟩, A', c', rs, OW.out, AW.out, by rw [SN.out, NX.out]; exact VL.out⟩, HBW.out⟩
    · obtain ⟨tv, htv⟩ : ∃ tv, Tr.tt T a f = tv := ⟨_, rfl⟩
      obtain ⟨pv, hpv⟩ : ∃ pv, Tr.pp T a f = pv := ⟨_, rfl⟩
      have TB := Lib.hid (show tv < n from by
        rcases (IS.out.2.2 a (by rw [LN.out]; exact ha) f hf).ok with e | ⟨⟨_, t1⟩, _⟩
        · have := e.1; omega
        · rw [htv, LN.out] at t1; exact t1)
      have NX := Lib.hid (show ∀ Z, Tr.upd rs0.length T rs0.length Z a f = Z.set (rs0.length + a) (((Z.getD (rs0.length + a) []).set (f * 2) (tv + rs0.length)).set (f * 2 + 1) pv) from fun Z => by unfold Tr.upd; rw [if_neg hneg, htv, hpv])
      have hlen2 : rs.length = rs0.length + n := by
        have h1 := congrArg List.length VL.out
        rw [Go.Proofs.YtajbahfbldmckaaDoor.Fc.vals_len] at h1
        exact h1.trans SH.out.1
      have L2 := Lib.hid hlen2
      have hz8 : (rs.getD (rs0.length + a) nilRw).zs.length = 8 := by rw [← vals_getD, VL.out]; exact SH.out.2 a ha
      obtain ⟨g, gr, o, cr, eA, rfl, hg, hcr, hgr, hne, hcap, ⟨⟨u0, hu0⟩, ⟨u1, hu1⟩, hf0, hf1⟩, hset⟩ := OW.out.own.setFace (Nat.le_refl _) (j := rs0.length + a) (f := f) (by omega) hz8 hf
      have SET := Lib.hid hset
      have NE := Lib.hid (show ∀ b0, w.heap.size ≤ b0 ∧ b0 < w.heap.size + 3 → gr ≠ b0 from fun b0 hb0 => (AW.out b0 hb0).2 _ (getD_mem (by omega)) _ eA (by omega))
      have GZ := Lib.hid (show (vals rs).getD (rs0.length + a) [] = (rs.getD (rs0.length + a) nilRw).zs from vals_getD rs _)
      have o0 := OW.out.cell
      rw [htv] at q0 hneg
      rw [hpv] at q1
      have b8 : (tv == -1) = false := by simp; omega
      have nb : ¬ tv = -1 := by omega
      have w3 : (0 : Int) ≤ (a : Int) + (rs0.length : Int) := by omega
      have w4 : (a : Int) + (rs0.length : Int) < (rs.length : Int) := by omega
      have w6 : (0 : Int) ≤ (f : Int) := by omega
      have w7 : (f : Int) < 4 := by omega
      have w2 : ((a : Int) + (rs0.length : Int)).toNat = rs0.length + a := by omega
      have w1 : IntKind.i64.wrap ((a : Int) + (rs0.length : Int)) = (a : Int) + (rs0.length : Int) := IntWalk.i64_in _ (by omega)
      have w5 : IntKind.i64.wrap (tv + (rs0.length : Int)) = tv + (rs0.length : Int) := IntWalk.i64_in _ (by have := TB.out; omega)
      clear hset hz8 hlen2 htv hpv DB
      gi_wp2
      refine wpIn_region_M (fun Y : World => (Y.cell? ⟨w.heap.size, 0, none⟩ = some (.pointer (some ⟨bb, 0, none⟩)) ∧ Y.cell? ⟨w.heap.size + 2, 0, none⟩ = some (.int .i64 rs0.length)) ∧ Y.cell? ⟨bb, 0, none⟩ = some (.slice (some ⟨g, 0, none⟩) rs.length c') ∧ Y.cell? ⟨g, rs0.length + a, none⟩ = some (.slice (some ⟨gr, o, none⟩) 4 cr) ∧ (Y.cell? ⟨Bx, 0, none⟩ = some (.int .i64 a) ∧ Y.cell? ⟨Bx, 1, none⟩ = some (.int .i64 f)) ∧ Y.cell? ⟨Bx + 1, 0, none⟩ = some (.int .i64 tv) ∧ Y.cell? ⟨Bx + 1, 1, none⟩ = some (.int .i64 pv)) [0, 1, 2, 3, 4, 5, 6, 7, 8, 9, 10, 11, 12, 13, 14, 15, 16, 17, 18, 19] (by kernel_rfl) (by kernel_rfl) ?_
      have hS : (fun Y : World => (Y.cell? ⟨w.heap.size, 0, none⟩ = some (.pointer (some ⟨bb, 0, none⟩)) ∧ Y.cell? ⟨w.heap.size + 2, 0, none⟩ = some (.int .i64 rs0.length)) ∧ Y.cell? ⟨bb, 0, none⟩ = some (.slice (some ⟨g, 0, none⟩) rs.length c') ∧ Y.cell? ⟨g, rs0.length + a, none⟩ = some (.slice (some ⟨gr, o, none⟩) 4 cr) ∧ (Y.cell? ⟨Bx, 0, none⟩ = some (.int .i64 a) ∧ Y.cell? ⟨Bx, 1, none⟩ = some (.int .i64 f)) ∧ Y.cell? ⟨Bx + 1, 0, none⟩ = some (.int .i64 tv) ∧ Y.cell? ⟨Bx + 1, 1, none⟩ = some (.int .i64 pv)) W.drew := ⟨⟨b0, b2⟩, o0, hcr, ⟨m0, m1⟩, q0, q1⟩
      refine wpM_take (i := 0) (oi := { dst := some 24, op := .load _ (.tmp 2), type := _, pos := _, after := _, guard := _ }) (v := ?_) (by kernel_rfl) rfl (by kernel_rfl) (by kernel_rfl) (by kernel_rfl) ?_ hS ?_
      rotate_left
      · intro Y hY
        obtain ⟨⟨y0, y1⟩, y2, y3, ⟨y4, y5⟩, y6, y7⟩ := hY
        go_simp
        try with_reducible rfl
      try simp only [Act.put, List.setIfInBounds_toArray, List.set_cons_zero, List.set_cons_succ]
      refine wpM_take (i := 1) (oi := { dst := some 25, op := .nilCheck (.tmp 24), type := _, pos := _, after := _, guard := _ }) (v := ?_) (by kernel_rfl) rfl (by kernel_rfl) (by kernel_rfl) (by kernel_rfl) ?_ hS ?_
      rotate_left
      · intro Y hY
        obtain ⟨⟨y0, y1⟩, y2, y3, ⟨y4, y5⟩, y6, y7⟩ := hY
        go_simp
        try with_reducible rfl
      try simp only [Act.put, List.setIfInBounds_toArray, List.set_cons_zero, List.set_cons_succ]
      refine wpM_take (i := 2) (oi := { dst := some 26, op := .fieldAddr _ (.tmp 25) 0, type := _, pos := _, after := _, guard := _ }) (v := ?_) (by kernel_rfl) rfl (by kernel_rfl) (by kernel_rfl) (by kernel_rfl) ?_ hS ?_
      rotate_left
      · intro Y hY
        obtain ⟨⟨y0, y1⟩, y2, y3, ⟨y4, y5⟩, y6, y7⟩ := hY
        go_simp
        try with_reducible rfl
      try simp only [Act.put, List.setIfInBounds_toArray, List.set_cons_zero, List.set_cons_succ]
      refine wpM_take (i := 3) (oi := { dst := some 27, op := .load _ (.tmp 26), type := _, pos := _, after := _, guard := _ }) (v := ?_) (by kernel_rfl) rfl (by kernel_rfl) (by kernel_rfl) (by kernel_rfl) ?_ hS ?_
      rotate_left
      · intro Y hY
        obtain ⟨⟨y0, y1⟩, y2, y3, ⟨y4, y5⟩, y6, y7⟩ := hY
        go_simp
        try with_reducible rfl
      try simp only [Act.put, List.setIfInBounds_toArray, List.set_cons_zero, List.set_cons_succ]
      refine wpM_take (i := 4) (oi := { dst := some 28, op := .fieldAddr _ (.tmp 5) 0, type := _, pos := _, after := _, guard := _ }) (v := ?_) (by kernel_rfl) rfl (by kernel_rfl) (by kernel_rfl) (by kernel_rfl) ?_ hS ?_
      rotate_left
      · intro Y hY
        obtain ⟨⟨y0, y1⟩, y2, y3, ⟨y4, y5⟩, y6, y7⟩ := hY
        go_simp
        try with_reducible rfl
      try simp only [Act.put, List.setIfInBounds_toArray, List.set_cons_zero, List.set_cons_succ]
      refine wpM_take (i := 5) (oi := { dst := some 29, op := .load _ (.tmp 28), type := _, pos := _, after := _, guard := _ }) (v := ?_) (by kernel_rfl) rfl (by kernel_rfl) (by kernel_rfl) (by kernel_rfl) ?_ hS ?_
      rotate_left
      · intro Y hY
        obtain ⟨⟨y0, y1⟩, y2, y3, ⟨y4, y5⟩, y6, y7⟩ := hY
        go_simp
        try with_reducible rfl
      try simp only [Act.put, List.setIfInBounds_toArray, List.set_cons_zero, List.set_cons_succ]
      refine wpM_take (i := 6) (oi := { dst := some 30, op := .load _ (.tmp 4), type := _, pos := _, after := _, guard := _ }) (v := ?_) (by kernel_rfl) rfl (by kernel_rfl) (by kernel_rfl) (by kernel_rfl) ?_ hS ?_
      rotate_left
      · intro Y hY
        obtain ⟨⟨y0, y1⟩, y2, y3, ⟨y4, y5⟩, y6, y7⟩ := hY
        go_simp
        try with_reducible rfl
      try simp only [Act.put, List.setIfInBounds_toArray, List.set_cons_zero, List.set_cons_succ]
      refine wpM_take (i := 7) (oi := { dst := some 31, op := .binOp .add _ (.tmp 29) (.tmp 30) _, type := _, pos := _, after := _, guard := _ }) (v := ?_) (by kernel_rfl) rfl (by kernel_rfl) (by kernel_rfl) (by kernel_rfl) ?_ hS ?_
      rotate_left
      · intro Y hY
        obtain ⟨⟨y0, y1⟩, y2, y3, ⟨y4, y5⟩, y6, y7⟩ := hY
        go_simp
        try with_reducible rfl
      try simp only [Act.put, List.setIfInBounds_toArray, List.set_cons_zero, List.set_cons_succ]
      refine wpM_take (i := 8) (oi := { dst := some 32, op := .indexAddr _ (.tmp 27) (.tmp 31), type := _, pos := _, after := _, guard := _ }) (v := ?_) (by kernel_rfl) rfl (by kernel_rfl) (by kernel_rfl) (by kernel_rfl) ?_ hS ?_
      rotate_left
      · intro Y hY
        obtain ⟨⟨y0, y1⟩, y2, y3, ⟨y4, y5⟩, y6, y7⟩ := hY
        go_simp
        try with_reducible rfl
      try simp only [Act.put, List.setIfInBounds_toArray, List.set_cons_zero, List.set_cons_succ]
      refine wpM_take (i := 9) (oi := { dst := some 33, op := .load _ (.tmp 32), type := _, pos := _, after := _, guard := _ }) (v := ?_) (by kernel_rfl) rfl (by kernel_rfl) (by kernel_rfl) (by kernel_rfl) ?_ hS ?_
      rotate_left
      · intro Y hY
        obtain ⟨⟨y0, y1⟩, y2, y3, ⟨y4, y5⟩, y6, y7⟩ := hY
        go_simp
        try with_reducible rfl
      try simp only [Act.put, List.setIfInBounds_toArray, List.set_cons_zero, List.set_cons_succ]
      refine wpM_take (i := 10) (oi := { dst := some 34, op := .fieldAddr _ (.tmp 5) 1, type := _, pos := _, after := _, guard := _ }) (v := ?_) (by kernel_rfl) rfl (by kernel_rfl) (by kernel_rfl) (by kernel_rfl) ?_ hS ?_
      rotate_left
      · intro Y hY
        obtain ⟨⟨y0, y1⟩, y2, y3, ⟨y4, y5⟩, y6, y7⟩ := hY
        go_simp
        try with_reducible rfl
      try simp only [Act.put, List.setIfInBounds_toArray, List.set_cons_zero, List.set_cons_succ]
      refine wpM_take (i := 11) (oi := { dst := some 35, op := .load _ (.tmp 34), type := _, pos := _, after := _, guard := _ }) (v := ?_) (by kernel_rfl) rfl (by kernel_rfl) (by kernel_rfl) (by kernel_rfl) ?_ hS ?_
      rotate_left
      · intro Y hY
        obtain ⟨⟨y0, y1⟩, y2, y3, ⟨y4, y5⟩, y6, y7⟩ := hY
        go_simp
        try with_reducible rfl
      try simp only [Act.put, List.setIfInBounds_toArray, List.set_cons_zero, List.set_cons_succ]
      refine wpM_take (i := 12) (oi := { dst := some 36, op := .fieldAddr _ (.tmp 6) 0, type := _, pos := _, after := _, guard := _ }) (v := ?_) (by kernel_rfl) rfl (by kernel_rfl) (by kernel_rfl) (by kernel_rfl) ?_ hS ?_
      rotate_left
      · intro Y hY
        obtain ⟨⟨y0, y1⟩, y2, y3, ⟨y4, y5⟩, y6, y7⟩ := hY
        go_simp
        try with_reducible rfl
      try simp only [Act.put, List.setIfInBounds_toArray, List.set_cons_zero, List.set_cons_succ]
      refine wpM_take (i := 13) (oi := { dst := some 37, op := .load _ (.tmp 36), type := _, pos := _, after := _, guard := _ }) (v := ?_) (by kernel_rfl) rfl (by kernel_rfl) (by kernel_rfl) (by kernel_rfl) ?_ hS ?_
      rotate_left
      · intro Y hY
        obtain ⟨⟨y0, y1⟩, y2, y3, ⟨y4, y5⟩, y6, y7⟩ := hY
        go_simp
        try with_reducible rfl
      try simp only [Act.put, List.setIfInBounds_toArray, List.set_cons_zero, List.set_cons_succ]
      refine wpM_take (i := 14) (oi := { dst := some 38, op := .load _ (.tmp 4), type := _, pos := _, after := _, guard := _ }) (v := ?_) (by kernel_rfl) rfl (by kernel_rfl) (by kernel_rfl) (by kernel_rfl) ?_ hS ?_
      rotate_left
      · intro Y hY
        obtain ⟨⟨y0, y1⟩, y2, y3, ⟨y4, y5⟩, y6, y7⟩ := hY
        go_simp
        try with_reducible rfl
      try simp only [Act.put, List.setIfInBounds_toArray, List.set_cons_zero, List.set_cons_succ]
      refine wpM_take (i := 15) (oi := { dst := some 39, op := .binOp .add _ (.tmp 37) (.tmp 38) _, type := _, pos := _, after := _, guard := _ }) (v := ?_) (by kernel_rfl) rfl (by kernel_rfl) (by kernel_rfl) (by kernel_rfl) ?_ hS ?_
      rotate_left
      · intro Y hY
        obtain ⟨⟨y0, y1⟩, y2, y3, ⟨y4, y5⟩, y6, y7⟩ := hY
        go_simp
        try with_reducible rfl
      try simp only [Act.put, List.setIfInBounds_toArray, List.set_cons_zero, List.set_cons_succ]
      refine wpM_take (i := 16) (oi := { dst := some 40, op := .fieldAddr _ (.tmp 6) 1, type := _, pos := _, after := _, guard := _ }) (v := ?_) (by kernel_rfl) rfl (by kernel_rfl) (by kernel_rfl) (by kernel_rfl) ?_ hS ?_
      rotate_left
      · intro Y hY
        obtain ⟨⟨y0, y1⟩, y2, y3, ⟨y4, y5⟩, y6, y7⟩ := hY
        go_simp
        try with_reducible rfl
      try simp only [Act.put, List.setIfInBounds_toArray, List.set_cons_zero, List.set_cons_succ]
      refine wpM_take (i := 17) (oi := { dst := some 41, op := .load _ (.tmp 40), type := _, pos := _, after := _, guard := _ }) (v := ?_) (by kernel_rfl) rfl (by kernel_rfl) (by kernel_rfl) (by kernel_rfl) ?_ hS ?_
      rotate_left
      · intro Y hY
        obtain ⟨⟨y0, y1⟩, y2, y3, ⟨y4, y5⟩, y6, y7⟩ := hY
        go_simp
        try with_reducible rfl
      try simp only [Act.put, List.setIfInBounds_toArray, List.set_cons_zero, List.set_cons_succ]
      refine wpM_take (i := 18) (oi := { dst := some 42, op := .build _ #[(0, .tmp 39), (1, .tmp 41)], type := _, pos := _, after := _, guard := _ }) (v := ?_) (by kernel_rfl) rfl (by kernel_rfl) (by kernel_rfl) (by kernel_rfl) ?_ hS ?_
      rotate_left
      · intro Y hY
        obtain ⟨⟨y0, y1⟩, y2, y3, ⟨y4, y5⟩, y6, y7⟩ := hY
        go_simp
        try with_reducible rfl
      try simp only [Act.put, List.setIfInBounds_toArray, List.set_cons_zero, List.set_cons_succ]
      refine wpM_take (i := 19) (oi := { dst := some 43, op := .indexAddr _ (.tmp 33) (.tmp 35), type := _, pos := _, after := _, guard := _ }) (v := ?_) (by kernel_rfl) rfl (by kernel_rfl) (by kernel_rfl) (by kernel_rfl) ?_ hS ?_
      rotate_left
      · intro Y hY
        obtain ⟨⟨y0, y1⟩, y2, y3, ⟨y4, y5⟩, y6, y7⟩ := hY
        go_simp
        try with_reducible rfl
      try simp only [Act.put, List.setIfInBounds_toArray, List.set_cons_zero, List.set_cons_succ]
      refine wpM_one (j := 20) (o := { dst := none, op := _, type := _, pos := _, after := _, guard := _ }) (by kernel_rfl) rfl ?_
      refine .inr ⟨(W.drew.setCell ⟨gr, o + f * 2, none⟩ (.int .i64 (tv + rs0.length))).setCell ⟨gr, o + f * 2 + 1, none⟩ (.int .i64 pv), ?_, ?_⟩
      · go_simp
      refine ⟨fun h => absurd h (Bool.eq_false_iff.1 (by kernel_rfl)), wpM_done (by kernel_rfl) ?_⟩
      have n0 := NE.out w.heap.size (by omega)
      have n2 := NE.out (w.heap.size + 2) (by omega)
      have hsz : ((W.drew.setCell ⟨gr, o + f * 2, none⟩ (.int .i64 (tv + rs0.length))).setCell ⟨gr, o + f * 2 + 1, none⟩ (.int .i64 pv)).heap.size = W.heap.size := by simp [World.setCell]
      refine ⟨((KeepsOthers.drew _).trans ((KeepsOthers.setCell _ _ _).trans (KeepsOthers.setCell _ _ _))).from _, (((Below.refl bb W).drew).setCell (by dsimp only; omega) _).setCell (by dsimp only; omega) _, ⟨⟨?_, ?_⟩, some ⟨g, 0, none⟩, c', rs.set (rs0.length + a) ⟨some ⟨gr, o, none⟩, cr, ((rs.getD (rs0.length + a) nilRw).zs.set (f * 2) (tv + rs0.length)).set (f * 2 + 1) pv⟩, ⟨?_, ?_, ?_, ?_⟩, ?_, ?_⟩, ((HBW.out.drew).setCell (by dsimp only; omega) _).setCell (by dsimp only; omega) _⟩
      · rw [World.cell?_setCell_other _ _ _ _ (by first | (simp; done) | (simp; omega)), World.cell?_setCell_other _ _ _ _ (by first | (simp; done) | (simp; omega))]; exact b0
      · rw [World.cell?_setCell_other _ _ _ _ (by first | (simp; done) | (simp; omega)), World.cell?_setCell_other _ _ _ _ (by first | (simp; done) | (simp; omega))]; exact b2
      · rw [World.cell?_setCell_other _ _ _ _ (by first | (simp; done) | (simp; omega)), World.cell?_setCell_other _ _ _ _ (by first | (simp; done) | (simp; omega)), List.length_set]; exact o0
      · rw [World.cell?_setCell_other _ _ _ _ (by first | (simp; done) | (simp; omega)), World.cell?_setCell_other _ _ _ _ (by first | (simp; done) | (simp; omega))]; exact OW.out.map
      · rw [World.frozen?_setCell, World.frozen?_setCell]; exact OW.out.free
      · rw [hsz]; exact (SET.out (tv + rs0.length) pv).keep (fun _ _ _ => rfl)
      · intro z hz
        refine ⟨(AW.out z hz).1, fun q hq => ?_⟩
        rcases List.mem_or_eq_of_mem_set hq with hq | rfl
        · exact (AW.out z hz).2 q hq
        · intro u hu _
          cases hu
          exact NE.out z hz
      · rw [SN.out, NX.out, ← VL.out, GZ.out, vals, List.map_set]
        rfl
  case done =>
    rintro D W hD ⟨⟨⟨b0, b2⟩, A', c', rs, hO, hAp, hVl⟩, hB⟩ hK
    have VN := Lib.hid (show vals rs = vals rs0 ++ Tr.shT rs0.length T from by
      have e1 := Tr.cpy_all rs0.length T (vals rs0)
      rw [Go.Proofs.YtajbahfbldmckaaDoor.Fc.vals_len, LN.out] at e1
      rw [hVl]
      exact e1)
    gi_wp2
    have hBD := hB.trans (belowK_b (w := w) (Nat.le_of_lt hlt) W D (.deferred (some [])) (.deferred none) (by omega) hK rfl rfl)
    exact leave2 hK (results_none rfl _ _ _) ⟨rfl, ⟨A', c', rs, hO.grownC (grownBy_putObj' _ D (.deferred none)) (fun r e => by cases e; exact ⟨_, hK, rfl⟩), VN.out⟩, hBD⟩

end Fc
end Go.Proofs.YtajbahfbldmckaaDoor

namespace Go.Proofs.YtajbahfbldmckaaDoor
open Go.RowKit
namespace Fc

set_option maxRecDepth 100000 in
set_option maxHeartbeats 4000000 in
theorem builderOf_impl (A : Option Addr) (n c : Nat) (T : List (List Int)) (w : World) (h : RdT w w.heap.size A n T) (hv : Vs w) (hT : Tr.Is T) :
    Calls Tryd.prog 49 #[.agg #[.slice A n c]] w (NewB w T) := by
  have h0 := hv.pos
  have HT := Lib.hid h
  have h8 : n ≤ 8 := by rw [← h.len]; exact hT.1
  obtain ⟨U, hU⟩ : ∃ U, U = w.alloc (Obj.cells #[.slice A n c] 28) := ⟨_, rfl⟩
  have hB : Below w.heap.size w U := by rw [hU]; exact al1 _ _
  have z : w.heap.size < U.heap.size := by rw [hU]; simp
  have k0 : U.cell? ⟨w.heap.size, 0, none⟩ = some (.slice A n c) := by rw [hU]; simp [go_sem]
  have DU := Lib.hid hB
  have VU := Lib.hid (hv.below hB h0.1)
  clear h hv hB
  go_enter Tryd.func49, Tryd.ntmps49
  go_wp2_with fail
  rw [← hU]
  clear hU
  refine (newBuilder_impl 0 U VU.out (by omega)).mono ?_
  rintro e w1 ⟨bb, mb, A1, c1, rs1, rfl, ⟨g1, g2⟩, hB1, hV1, hM1, hb1⟩
  have k0 := (hb1.cell (p := ⟨w.heap.size, 0, none⟩) (by dsimp only; omega)).trans k0
  have D1 := Lib.hid (DU.out.trans (hb1.mono (by omega)))
  have R1 := Lib.hid ((HT.out.below D1.out).more (show w.heap.size ≤ bb by omega))
  have V1 := Lib.hid (VU.out.below hb1 (by omega))
  have M1 := Lib.hid hM1
  obtain rfl : rs1 = [] := by cases rs1 with | nil => rfl | cons r rs => simp [vals] at hV1
  have AT := Lib.hid (addTri_impl bb mb n c A T A1 c1 [] w1 R1.out hB1 V1.out (by omega) hT (by simp; omega))
  have z1 : bb < w1.heap.size := hB1.lt
  clear hM1 hb1 hB1 hV1
  go_wp2_with fail
  refine AT.out.mono ?_
  rintro e w2 ⟨rfl, ⟨A', c', rs', hB2, hv2⟩, hb2⟩
  have B2 := Lib.hid hB2
  have V2 := Lib.hid (show vals rs' = T from by rw [hv2]; exact (congrArg _ (Tr.shT_zero hT)).trans rfl)
  have M2 := Lib.hid (owns_below M1.out hb2 g2)
  have D2 := Lib.hid (D1.out.trans (hb2.mono (by omega)))
  clear hB2 hv2 hb2
  go_wp2
  go_ret
  exact ⟨bb, mb, A', c', rs', rfl, ⟨by omega, g2⟩, B2.out, V2.out, M2.out, D2.out⟩

set_option maxRecDepth 100000 in
theorem triang_impl (bb mb : Nat) (A : Option Addr) (c : Nat) (rs : List Rw) (w : World) (h : Bld w bb mb A c rs) :
    Calls Tryd.prog 51 #[.pointer (some ⟨bb, 0, none⟩)] w fun e w' => e = .returned (.agg #[.slice A rs.length c]) ∧ Below w.heap.size w w' := by
  have hc := h.cell
  have hl := h.lt
  clear h
  go_enter Tryd.func51, Tryd.ntmps51
  go_wp2
  refine bodyPost_ret (v := .agg #[.slice A rs.length c]) (by simp [results, Tryd.results51, go_sem]) rfl ?_
  exact ⟨rfl, al1 _ _⟩

set_option maxRecDepth 100000 in
set_option maxHeartbeats 8000000 in
theorem addTet_impl (A : Option Addr) (n c : Nat) (T : List (List Int)) (w : World) (h : RdT w w.heap.size A n T) (hv : Vs w) (hn : n ≤ 1048576) :
    Calls Tryd.prog 16 #[.agg #[.slice A n c]] w (ResTC w (Tr.addT T) (Tr.addC T)) := by
  have h0 := hv.pos
  have LN := Lib.hid h.len
  have HT := Lib.hid h
  have HV := Lib.hid hv
  clear h hv
  obtain ⟨U, hU⟩ : ∃ U, U = (w.alloc (Obj.cells #[.slice A n c] 28)).alloc (Obj.cells #[.slice none 0 0] 28) := ⟨_, rfl⟩
  have hB : Below w.heap.size w U := by rw [hU]; exact al2 w _ _
  have z : U.heap.size = w.heap.size + 2 := by rw [hU]; simp
  have k0 : U.cell? ⟨w.heap.size, 0, none⟩ = some (.slice A n c) := by rw [hU]; simp [go_sem]
  have k1 : U.cell? ⟨w.heap.size + 1, 0, none⟩ = some (.slice none 0 0) := by rw [hU]; simp [go_sem]
  have f1 : U.frozen? ⟨w.heap.size + 1, 0, none⟩ = false := by rw [hU]; simp [go_sem]
  have DU := Lib.hid hB
  have TI := Lib.hid (isTri_implT A n c T U (HT.out.into hB) (HV.out.below hB h0.1) hn)
  clear hB
  go_enter Tryd.func16, Tryd.ntmps16
  go_upto_region 1 with fail
  rw [← hU]
  clear hU
  go_wp2_with fail
  refine TI.out.mono ?_
  rintro e w1 ⟨rfl, hb⟩
  have k0 := (hb.cell (p := ⟨w.heap.size, 0, none⟩) (by dsimp only; omega)).trans k0
  have k1 := (hb.cell (p := ⟨w.heap.size + 1, 0, none⟩) (by dsimp only; omega)).trans k1
  have f1 := (hb.frozen (p := ⟨w.heap.size + 1, 0, none⟩) (by dsimp only; omega)).trans f1
  have z1 : U.heap.size ≤ w1.heap.size := hb.size
  have D1 := Lib.hid (DU.out.trans (hb.mono (by omega)))
  clear hb TI DU
  by_cases hok : Tr.Is T
  case neg =>
    rw [decide_eq_false hok]
    have R := Lib.hid (show Tr.addT T = [] ∧ Tr.addC T = 1 from by unfold Tr.addT Tr.addC; rw [if_neg (fun e => hok e.1), if_neg hok]; exact ⟨rfl, rfl⟩)
    clear hok
    go_wp2
    refine bodyPost_ret (v := .tuple #[.agg #[.slice none 0 0], .int .i64 1]) (by simp [results, Tryd.results16, k1, go_sem]) rfl ?_
    rw [R.out.1, R.out.2]
    exact ⟨none, 0, [], rfl, OwnS.nil _ _ _, rfl, D1.out.setCell (by dsimp only; omega) _⟩
  rw [decide_eq_true hok]
  have h8 : n ≤ 8 := by rw [← LN.out]; exact hok.1
  by_cases he : n = 8
  · have R := Lib.hid (show Tr.addT T = [] ∧ Tr.addC T = 3 from by unfold Tr.addT Tr.addC; rw [if_neg (fun e => e.2 (by rw [LN.out]; exact he)), if_pos hok, if_pos (by rw [LN.out]; exact he)]; exact ⟨rfl, rfl⟩)
    subst he
    clear hok
    go_wp2
    refine bodyPost_ret (v := .tuple #[.agg #[.slice none 0 0], .int .i64 3]) (by simp [results, Tryd.results16, k1, go_sem]) rfl ?_
    rw [R.out.1, R.out.2]
    exact ⟨none, 0, [], rfl, OwnS.nil _ _ _, rfl, D1.out.setCell (by dsimp only; omega) _⟩
  have R := Lib.hid (show Tr.addT T = T ++ [fr] ∧ Tr.addC T = 0 from by unfold Tr.addT Tr.addC; rw [if_pos ⟨hok, fun e => he (by rw [← LN.out]; exact e)⟩, if_pos hok, if_neg (fun e => he (by rw [← LN.out]; exact e))]; exact ⟨rfl, rfl⟩)
  have i1 : ¬ (n : Int) = 8 := by omega
  have b1 : ((n : Int) == 8) = false := by simpa using i1
  have BO := Lib.hid (builderOf_impl A n c T w1 (HT.out.into D1.out) (HV.out.below D1.out h0.1) hok)
  clear hok
  go_wp2_with fail
  refine BO.out.mono ?_
  rintro e w2 ⟨bb, mb, A1, c1, rs1, rfl, ⟨g1, g2⟩, hB2, hV2, _, hb2⟩
  have k1 := (hb2.cell (p := ⟨w.heap.size + 1, 0, none⟩) (by dsimp only; omega)).trans k1
  have f1 := (hb2.frozen (p := ⟨w.heap.size + 1, 0, none⟩) (by dsimp only; omega)).trans f1
  have D2 := Lib.hid (D1.out.trans (hb2.mono (by omega)))
  have l2 : rs1.length ≤ 8 := by rw [← Fc.vals_len, hV2, LN.out]; exact h8
  have V2 := Lib.hid hV2
  have z2 : w1.heap.size ≤ w2.heap.size := hb2.size
  have AT := Lib.hid (addTets_impl bb mb 1 A1 c1 rs1 w2 hB2 (HV.out.below D2.out h0.1) (by omega) (by omega) (fun _ => False) (fun _ h => h.elim) (fun _ h => h.elim))
  clear hB2 hV2 hb2 BO
  go_wp2_with fail
  refine AT.out.mono ?_
  rintro e w3 ⟨rfl, ⟨A3, c3, rs3, hB3, hV3, _, _⟩, hb3⟩
  have k1 := (hb3.cell (p := ⟨w.heap.size + 1, 0, none⟩) (by dsimp only; omega)).trans k1
  have f1 := (hb3.frozen (p := ⟨w.heap.size + 1, 0, none⟩) (by dsimp only; omega)).trans f1
  have D3 := Lib.hid (D2.out.trans (hb3.mono (by omega)))
  have B3 := Lib.hid hB3
  have V3 := Lib.hid (show vals rs3 = T ++ [fr] from by rw [hV3, V2.out]; rfl)
  have z3 : w2.heap.size ≤ w3.heap.size := hb3.size
  clear hB3 hV3 hb3 AT
  go_wp2_with fail
  refine (triang_impl bb mb A3 c3 rs3 w3 B3.out).mono ?_
  rintro e w4 ⟨rfl, hb4⟩
  have k1 := (hb4.cell (p := ⟨w.heap.size + 1, 0, none⟩) (by dsimp only; omega)).trans k1
  have f1 := (hb4.frozen (p := ⟨w.heap.size + 1, 0, none⟩) (by dsimp only; omega)).trans f1
  have D4 := Lib.hid (D3.out.trans (hb4.mono (by omega)))
  have B4 := Lib.hid (B3.out.below hb4)
  clear hb4
  go_wp2
  refine bodyPost_ret (v := .tuple #[.agg #[.slice A3 rs3.length c3], .int .i64 0]) (by simp [results, Tryd.results16, k1, go_sem]) rfl ?_
  rw [R.out.1, R.out.2]
  exact ⟨A3, c3, rs3, rfl, (B4.out.own.far (p := ⟨w.heap.size + 1, 0, none⟩) (.inl (by dsimp only; omega)) _).wide (by omega) (by simp [World.setCell]), V3.out, D4.out.setCell (by dsimp only; omega) _⟩

end Fc
end Go.Proofs.YtajbahfbldmckaaDoor

namespace Go.Proofs.YtajbahfbldmckaaDoor
open Go.RowKit Go.Shelf
/-- The face f of the tetrahedron a says t and p. -/
def Tr.setF (T : List (List Int)) (a f : Nat) (t p : Int) : List (List Int) := T.set a (((T.getD a []).set (f * 2) t).set (f * 2 + 1) p)
theorem Tr.setF_len (T : List (List Int)) (a f : Nat) (t p : Int) : (Tr.setF T a f t p).length = T.length := by simp [Tr.setF]
theorem Tr.setF_row (T : List (List Int)) (a f : Nat) (t p : Int) (j : Nat) : ((Tr.setF T a f t p).getD j []).length = (T.getD j []).length := by
  unfold Tr.setF
  rw [Tr.getD_set_list]
  split
  · rename_i h
    rw [List.length_set, List.length_set, h.1]
  · rfl
theorem Tr.setF_four {T : List (List Int)} (h : Tr.Four T) (a f : Nat) (t p : Int) : Tr.Four (Tr.setF T a f t p) := fun j hj => by
  rw [Tr.setF_row]
  exact h j (by rwa [Tr.setF_len] at hj)
namespace Fc
theorem vals_setF (rs : List Rw) (j f : Nat) (t p : Int) (A : Option Addr) (c : Nat) : vals (rs.set j ⟨A, c, ((rs.getD j nilRw).zs.set (f * 2) t).set (f * 2 + 1) p⟩) = Tr.setF (vals rs) j f t p := by
  unfold Tr.setF
  rw [vals_getD]
  unfold vals
  rw [List.map_set]
theorem four_row {rs : List Rw} (h : Tr.Four (vals rs)) {j : Nat} (hj : j < rs.length) : (rs.getD j nilRw).zs.length = 8 := by
  have := h j (by rw [vals_len]; exact hj)
  rwa [vals_getD] at this
/-- The same, where the row's place is known. -/
theorem OwnS.setFaceAt {w : World} {lo hi c : Nat} {A : Option Addr} {rs : List Rw} (h : OwnS w lo hi A c rs) (hhi : hi ≤ w.heap.size) {j f : Nat} (hj : j < rs.length) (h8 : (rs.getD j nilRw).zs.length = 8) (hf : f < 4) {g gr o cr : Nat} (hA : A = some ⟨g, 0, none⟩) (hc : w.cell? ⟨g, j, none⟩ = some (.slice (some ⟨gr, o, none⟩) 4 cr)) (t p : Int) :
    OwnS ((w.setCell ⟨gr, o + f * 2, none⟩ (.int .i64 t)).setCell ⟨gr, o + f * 2 + 1, none⟩ (.int .i64 p)) lo hi A c (rs.set j ⟨some ⟨gr, o, none⟩, cr, ((rs.getD j nilRw).zs.set (f * 2) t).set (f * 2 + 1) p⟩) := by
  obtain ⟨g', gr', o', cr', _, eA, _, hc', _, _, _, _, hset⟩ := h.setFace hhi hj h8 hf
  rw [hA] at eA
  injection eA with eA
  injection eA with eA
  subst eA
  rw [hc] at hc'
  injection hc' with hc'
  injection hc' with e1 e2 e3
  injection e1 with e1
  injection e1 with e1 e4
  subst e1
  subst e4
  subst e3
  exact hset t p
/-- The builder, its rows below hi. -/
structure BldH (w : World) (bb mb hi : Nat) (A : Option Addr) (c : Nat) (rs : List Rw) : Prop where
  cell : w.cell? ⟨bb, 0, none⟩ = some (.slice A rs.length c)
  map : w.cell? ⟨bb, 1, none⟩ = some (.map (some mb))
  free : w.frozen? ⟨bb, 0, none⟩ = false
  own : OwnS w (bb + 1) hi A c rs
  top : bb < hi ∧ hi ≤ w.heap.size
theorem Bld.hold {w U : World} {bb mb c : Nat} {A : Option Addr} {rs : List Rw} (h : Bld w bb mb A c rs) (hB : Below w.heap.size w U) : BldH U bb mb w.heap.size A c rs :=
  ⟨(hB.cell (p := ⟨bb, 0, none⟩) h.lt).trans h.cell, (hB.cell (p := ⟨bb, 1, none⟩) h.lt).trans h.map, (hB.frozen (p := ⟨bb, 0, none⟩) h.lt).trans h.free, h.own.below hB (Nat.le_refl _), h.lt, hB.size⟩
theorem BldH.bld {w : World} {bb mb hi c : Nat} {A : Option Addr} {rs : List Rw} (h : BldH w bb mb hi A c rs) : Bld w bb mb A c rs := ⟨h.cell, h.map, h.free, h.own.wide (Nat.le_refl _) h.top.2⟩
theorem BldH.drew {w : World} {bb mb hi c : Nat} {A : Option Addr} {rs : List Rw} (h : BldH w bb mb hi A c rs) : BldH w.drew bb mb hi A c rs := ⟨h.cell, h.map, h.free, h.own.keep fun _ _ _ => rfl, h.top⟩
theorem BldH.below {w U : World} {bb mb hi c : Nat} {A : Option Addr} {rs : List Rw} (h : BldH w bb mb hi A c rs) (hB : Below w.heap.size w U) : BldH U bb mb hi A c rs :=
  have h1 := h.top
  ⟨(hB.cell (p := ⟨bb, 0, none⟩) (by dsimp only; omega)).trans h.cell, (hB.cell (p := ⟨bb, 1, none⟩) (by dsimp only; omega)).trans h.map, (hB.frozen (p := ⟨bb, 0, none⟩) (by dsimp only; omega)).trans h.free, h.own.below hB h1.2, h1.1, Nat.le_trans h1.2 hB.size⟩
/-- A face written into the builder's table. -/
theorem BldH.setFace {w : World} {bb mb hi c : Nat} {A : Option Addr} {rs : List Rw} (h : BldH w bb mb hi A c rs) {j f : Nat} (hj : j < rs.length) (h4 : Tr.Four (vals rs)) (hf : f < 4) :
    ∃ g gr o cr, A = some ⟨g, 0, none⟩ ∧ (bb < g ∧ g < hi) ∧ w.cell? ⟨g, j, none⟩ = some (.slice (some ⟨gr, o, none⟩) 4 cr) ∧ (bb < gr ∧ gr < hi) ∧ gr ≠ g ∧ (4 ≤ cr ∧ cr ≤ maxLen) ∧
      ((∃ u, w.cell? ⟨gr, o + f * 2, none⟩ = some (.int .i64 u)) ∧ (∃ u, w.cell? ⟨gr, o + f * 2 + 1, none⟩ = some (.int .i64 u)) ∧ w.frozen? ⟨gr, o + f * 2, none⟩ = false ∧ w.frozen? ⟨gr, o + f * 2 + 1, none⟩ = false) ∧
      ∀ t p : Int, ∃ rs', rs'.length = rs.length ∧ BldH ((w.setCell ⟨gr, o + f * 2, none⟩ (.int .i64 t)).setCell ⟨gr, o + f * 2 + 1, none⟩ (.int .i64 p)) bb mb hi A c rs' ∧ vals rs' = Tr.setF (vals rs) j f t p := by
  obtain ⟨g, gr, o, cr, _, eA, hg, hc, hgr, hne, hcap, hu, hset⟩ := h.own.setFace h.top.2 hj (four_row h4 hj) hf
  refine ⟨g, gr, o, cr, eA, ⟨by omega, hg.2⟩, hc, ⟨by omega, hgr.2⟩, hne, hcap, hu, fun t p => ⟨rs.set j ⟨some ⟨gr, o, none⟩, cr, ((rs.getD j nilRw).zs.set (f * 2) t).set (f * 2 + 1) p⟩, List.length_set .., ⟨?_, ?_, ?_, ?_, ?_⟩, vals_setF rs j f t p _ _⟩⟩
  · rw [World.cell?_setCell_other _ _ _ _ (by first | (simp; done) | (simp; omega)), World.cell?_setCell_other _ _ _ _ (by first | (simp; done) | (simp; omega)), List.length_set]; exact h.cell
  · rw [World.cell?_setCell_other _ _ _ _ (by first | (simp; done) | (simp; omega)), World.cell?_setCell_other _ _ _ _ (by first | (simp; done) | (simp; omega))]; exact h.map
  · rw [World.frozen?_setCell, World.frozen?_setCell]; exact h.free
  · exact hset t p
  · have := h.top; simpa [World.setCell] using this
theorem cell_two {w : World} {p q r : Addr} {u v x : Value} (h : w.cell? r = some x) (hp : p.block ≠ r.block) (hq : q.block ≠ r.block) : ((w.setCell p u).setCell q v).cell? r = some x := by
  rw [World.cell?_setCell_other _ _ _ _ (by intro e; subst e; exact hq rfl), World.cell?_setCell_other _ _ _ _ (by intro e; subst e; exact hp rfl)]; exact h

set_option maxRecDepth 100000 in
set_option maxHeartbeats 4000000 in
theorem unglue_impl (bb mb : Nat) (A : Option Addr) (c : Nat) (rs : List Rw) (a f b g : Nat) (x0 x1 x2 x3 : Int) (w : World) (h : Bld w bb mb A c rs) (hv : Vs w) (hb1 : 3 < bb) (h4 : Tr.Four (vals rs)) (ha : a < rs.length) (hf : f < 4) (hb : b < rs.length) (hg : g < 4) :
    Calls Tryd.prog 65 #[.pointer (some ⟨bb, 0, none⟩), .agg #[.int .i64 (a : Int), .int .i64 (f : Int), .int .i64 (b : Int), .int .i64 (g : Int), .int .u8 x0, .int .u8 x1, .int .u8 x2, .int .u8 x3]] w fun e w' => e = .returned (.tuple #[]) ∧ (∃ A' c' rs', Bld w' bb mb A' c' rs' ∧ vals rs' = Tr.setF (Tr.setF (vals rs) a f (-1) 0) b g (-1) 0) ∧ Below bb w w' := by
  obtain ⟨U, hU⟩ : ∃ U, U = w.alloc (Obj.cells #[.int .i64 (a : Int), .int .i64 (f : Int), .int .i64 (b : Int), .int .i64 (g : Int), .int .u8 x0, .int .u8 x1, .int .u8 x2, .int .u8 x3] 80) := ⟨_, rfl⟩
  have hB : Below w.heap.size w U := by rw [hU]; exact al1 w _
  have z : w.heap.size < U.heap.size := by rw [hU]; simp
  have q0 : U.cell? ⟨w.heap.size, 0, none⟩ = some (.int .i64 (a : Int)) := by rw [hU]; simp [go_sem]
  have q1 : U.cell? ⟨w.heap.size, 1, none⟩ = some (.int .i64 (f : Int)) := by rw [hU]; simp [go_sem]
  have q2 : U.cell? ⟨w.heap.size, 2, none⟩ = some (.int .i64 (b : Int)) := by rw [hU]; simp [go_sem]
  have q3 : U.cell? ⟨w.heap.size, 3, none⟩ = some (.int .i64 (g : Int)) := by rw [hU]; simp [go_sem]
  have hbb := h.lt
  have BU := Lib.hid (h.hold hB)
  have VU := Lib.hid (hv.below hB hv.pos.1)
  have DU := Lib.hid (hB.mono (Nat.le_of_lt hbb))
  have VP := hv.pos
  have ia0 : (0 : Int) ≤ (a : Int) := by omega
  have ia1 : (a : Int) < (rs.length : Int) := by omega
  have if0 : (0 : Int) ≤ (f : Int) := by omega
  have if1 : (f : Int) < 4 := by omega
  have ib0 : (0 : Int) ≤ (b : Int) := by omega
  have ib1 : (b : Int) < (rs.length : Int) := by omega
  have ig0 : (0 : Int) ≤ (g : Int) := by omega
  have ig1 : (g : Int) < 4 := by omega
  clear h hv hB
  go_enter Tryd.func65, Tryd.ntmps65
  go_upto_region 1 with fail
  rw [← hU]
  clear hU
  obtain ⟨g1, gr, o, cr, rfl, hg1, hc, hgr, hne, hcap, _, _⟩ := BU.out.setFace (j := a) (f := f) ha h4 hf
  have o0 := BU.out.cell
  obtain ⟨v0, v1⟩ := VU.out.2
  go_still_tail 14, (by kernel_rfl)
  change wpList _ _ _ _ _ U.drew
  have q0' := q0
  have BV := Lib.hid BU.out.drew
  have VV := Lib.hid (show Vs U.drew from VU.out)
  have DV := Lib.hid DU.out.drew
  obtain ⟨V, hV⟩ : ∃ V, V = U.drew := ⟨_, rfl⟩
  have sV : V.heap.size = U.heap.size := by rw [hV]; rfl
  have q2 : V.cell? ⟨w.heap.size, 2, none⟩ = some (.int .i64 (b : Int)) := by rw [hV]; exact q2
  have q3 : V.cell? ⟨w.heap.size, 3, none⟩ = some (.int .i64 (g : Int)) := by rw [hV]; exact q3
  have hcV : V.cell? ⟨g1, a, none⟩ = some (.slice (some ⟨gr, o, none⟩) 4 cr) := by rw [hV]; exact hc
  rw [← hV] at BV VV DV
  rw [← hV]
  clear hV q0 q1 q0' o0 v0 v1 hc BU VU DU
  obtain ⟨g1', gr', o', cr', eA, _, hc', _, _, _, ⟨⟨u0, hu0⟩, ⟨u1, hu1⟩, hf0, hf1⟩, hset⟩ := BV.out.setFace (j := a) (f := f) ha h4 hf
  injection eA with eA
  injection eA with eA
  subst eA
  rw [hcV] at hc'
  injection hc' with hc'
  injection hc' with e1 e2 e3
  injection e1 with e1
  injection e1 with e1 e4
  subst e1
  subst e4
  obtain ⟨rs1, hl1, hB1, hv1⟩ := hset (-1) 0
  have B1 := Lib.hid hB1
  have V1 := Lib.hid hv1
  have L1 := Lib.hid hl1
  clear hset hB1 hv1 hl1 hcV
  go_upto_region 2 with fail
  obtain ⟨W, hW⟩ : ∃ W, W = (V.setCell ⟨gr, o + f * 2, none⟩ (.int .i64 (-1))).setCell ⟨gr, o + f * 2 + 1, none⟩ (.int .i64 0) := ⟨_, rfl⟩
  have q2 : W.cell? ⟨w.heap.size, 2, none⟩ = some (.int .i64 (b : Int)) := by rw [hW]; exact cell_two q2 (by dsimp only; omega) (by dsimp only; omega)
  have q3 : W.cell? ⟨w.heap.size, 3, none⟩ = some (.int .i64 (g : Int)) := by rw [hW]; exact cell_two q3 (by dsimp only; omega) (by dsimp only; omega)
  have DW := Lib.hid (show Below bb w W from by rw [hW]; exact (DV.out.setCell (by dsimp only; omega) _).setCell (by dsimp only; omega) _)
  have VW := Lib.hid (show Vs W from by rw [hW]; exact VV.out.below (((Below.refl bb V).setCell (by dsimp only; omega) _).setCell (by dsimp only; omega) _) hb1)
  rw [← hW] at B1
  rw [← hW]
  clear hW BV VV DV hu0 hu1 hf0 hf1 hgr hg1 hne hcap sV
  have h41 : Tr.Four (vals rs1) := by rw [V1.out]; exact Tr.setF_four h4 _ _ _ _
  have ll1 := L1.out
  obtain ⟨g1, gr, o, cr, eA, hg1, hc, hgr, hne, hcap, _, _⟩ := B1.out.setFace (j := b) (f := g) (by omega) h41 hg
  injection eA with eA
  injection eA with eA
  subst eA
  have o0 := B1.out.cell
  obtain ⟨v0, v1⟩ := VW.out.2
  rw [ll1] at o0
  clear ll1
  go_still_tail 14, (by kernel_rfl)
  change wpList _ _ _ _ _ W.drew
  have BV := Lib.hid B1.out.drew
  have DV := Lib.hid DW.out.drew
  obtain ⟨X, hX⟩ : ∃ X, X = W.drew := ⟨_, rfl⟩
  have hcV := (show X.cell? _ = W.cell? _ from by rw [hX]; rfl).trans hc
  rw [← hX] at BV DV
  rw [← hX]
  clear hX q2 q3 o0 v0 v1 hc B1 VW DW
  obtain ⟨g1', gr', o', cr', eA, _, hc', _, _, _, ⟨⟨u0, hu0⟩, ⟨u1, hu1⟩, hf0, hf1⟩, hset⟩ := BV.out.setFace (j := b) (f := g) (by have := L1.out; omega) h41 hg
  injection eA with eA
  injection eA with eA
  subst eA
  rw [hcV] at hc'
  injection hc' with hc'
  injection hc' with e1 e2 e3
  injection e1 with e1
  injection e1 with e1 e4
  subst e1
  subst e4
  obtain ⟨rs2, hl2, hB2, hv2⟩ := hset (-1) 0
  have B2 := Lib.hid hB2
  have V2 := Lib.hid hv2
  clear hset hB2 hv2 hcV
  go_wp2
  refine bodyPost_end (results_none rfl _ _ _) rfl ?_
  exact ⟨rfl, ⟨_, _, rs2, B2.out.bld, by rw [V2.out, V1.out]⟩, (DV.out.setCell (by dsimp only; omega) _).setCell (by dsimp only; omega) _⟩
end Fc
end Go.Proofs.YtajbahfbldmckaaDoor

namespace Go.Proofs.YtajbahfbldmckaaDoor
open Go.RowKit Go.Shelf
namespace Fc
set_option maxRecDepth 100000 in
set_option maxHeartbeats 4000000 in
theorem describe_at (bb mb hi : Nat) (A : Option Addr) (c : Nat) (rs : List Rw) (a f p x0 x1 x2 x3 : Nat) (b g : Int) (w : World) (h : BldH w bb mb hi A c rs) (hM : MapAt w mb) (hmb : mb < bb) (hp : p < 24) (hx : P4.im p = [(x0 : Int), (x1 : Int), (x2 : Int), (x3 : Int)]) (h4 : Tr.Four (vals rs)) (ha : a < rs.length) (hf : f < 4) :
    Calls Tryd.prog 77 #[.pointer (some ⟨bb, 0, none⟩), .agg #[.int .i64 (a : Int), .int .i64 (f : Int), .int .i64 b, .int .i64 g, .int .u8 (x0 : Int), .int .u8 (x1 : Int), .int .u8 (x2 : Int), .int .u8 (x3 : Int)]] w fun e w' => e = .returned (.tuple #[]) ∧ (∃ A' c' rs', rs'.length = rs.length ∧ BldH w' bb mb hi A' c' rs' ∧ vals rs' = Tr.setF (vals rs) a f b (p : Int)) ∧ MapAt w' mb ∧ (∀ q : Addr, hi ≤ q.block → q.block < w.heap.size → w'.cell? q = w.cell? q) ∧ Below bb w w' := by
  obtain ⟨U, hU⟩ : ∃ U, U = w.alloc (Obj.cells #[.int .i64 (a : Int), .int .i64 (f : Int), .int .i64 b, .int .i64 g, .int .u8 (x0 : Int), .int .u8 (x1 : Int), .int .u8 (x2 : Int), .int .u8 (x3 : Int)] 80) := ⟨_, rfl⟩
  have hB : Below w.heap.size w U := by rw [hU]; exact al1 w _
  have z : w.heap.size < U.heap.size := by rw [hU]; simp
  have q0 : U.cell? ⟨w.heap.size, 0, none⟩ = some (.int .i64 (a : Int)) := by rw [hU]; simp [go_sem]
  have q1 : U.cell? ⟨w.heap.size, 1, none⟩ = some (.int .i64 (f : Int)) := by rw [hU]; simp [go_sem]
  have q2 : U.cell? ⟨w.heap.size, 2, none⟩ = some (.int .i64 b) := by rw [hU]; simp [go_sem]
  have q4 : U.cell? ⟨w.heap.size, 4, none⟩ = some (.int .u8 (x0 : Int)) := by rw [hU]; simp [go_sem]
  have q5 : U.cell? ⟨w.heap.size, 5, none⟩ = some (.int .u8 (x1 : Int)) := by rw [hU]; simp [go_sem]
  have q6 : U.cell? ⟨w.heap.size, 6, none⟩ = some (.int .u8 (x2 : Int)) := by rw [hU]; simp [go_sem]
  have q7 : U.cell? ⟨w.heap.size, 7, none⟩ = some (.int .u8 (x3 : Int)) := by rw [hU]; simp [go_sem]
  have hbb : bb < w.heap.size := Nat.lt_of_lt_of_le h.top.1 h.top.2
  have hhi := h.top
  have BU := Lib.hid (h.below hB)
  have MU := Lib.hid (show MapAt U mb from owns_below hM hB (Nat.lt_trans hmb hbb))
  have DU := Lib.hid (hB.mono (Nat.le_of_lt hbb))
  have WU := Lib.hid (show ∀ q : Addr, q.block < w.heap.size → U.cell? q = w.cell? q from fun q hq => hB.cell hq)
  have ia0 : (0 : Int) ≤ (a : Int) := by omega
  have ia1 : (a : Int) < (rs.length : Int) := by omega
  have if0 : (0 : Int) ≤ (f : Int) := by omega
  have if1 : (f : Int) < 4 := by omega
  obtain ⟨⟨b0, b1, b2, b3⟩⟩ : (x0 < 4 ∧ x1 < 4 ∧ x2 < 4 ∧ x3 < 4) ∧ True := ⟨by
    obtain ⟨y0, y1, y2, y3, e, bb⟩ := im_four p hp
    rw [hx] at e
    simp at e
    omega, trivial⟩
  have lk := MapAt.look (W := U.drew) MU.out b0 b1 b2 b3
  rw [← hx, P4.ix_im p hp, if_pos hp] at lk
  clear h hM hB hx
  go_enter Tryd.func77, Tryd.ntmps77
  go_upto_region 1 with fail
  rw [← hU]
  clear hU
  obtain ⟨g1, gr, o, cr, rfl, hg1, hc, hgr, hne, hcap, _, _⟩ := BU.out.setFace (j := a) (f := f) ha h4 hf
  have o0 := BU.out.cell
  have o1 := BU.out.map
  go_still_tail 24, (by kernel_rfl)
  change wpList _ _ _ _ _ U.drew
  have BV := Lib.hid BU.out.drew
  have MV := Lib.hid (show MapAt U.drew mb from MU.out)
  have DV := Lib.hid DU.out.drew
  have WV := Lib.hid (show ∀ q : Addr, q.block < w.heap.size → (U.drew).cell? q = w.cell? q from WU.out)
  obtain ⟨V, hV⟩ : ∃ V, V = U.drew := ⟨_, rfl⟩
  have sV : V.heap.size = U.heap.size := by rw [hV]; rfl
  have hcV : V.cell? ⟨g1, a, none⟩ = some (.slice (some ⟨gr, o, none⟩) 4 cr) := by rw [hV]; exact hc
  rw [← hV] at BV MV DV WV
  rw [← hV]
  clear hV q0 q1 q2 q4 q5 q6 q7 o0 o1 hc BU MU DU WU lk
  obtain ⟨g1', gr', o', cr', eA, _, hc', _, _, _, ⟨⟨u0, hu0⟩, ⟨u1, hu1⟩, hf0, hf1⟩, hset⟩ := BV.out.setFace (j := a) (f := f) ha h4 hf
  injection eA with eA
  injection eA with eA
  subst eA
  rw [hcV] at hc'
  injection hc' with hc'
  injection hc' with e1 e2 e3
  injection e1 with e1
  injection e1 with e1 e4
  subst e1
  subst e4
  obtain ⟨rs1, hl1, hB1, hv1⟩ := hset b (p : Int)
  have B1 := Lib.hid hB1
  have V1 := Lib.hid hv1
  have L1 := Lib.hid hl1
  clear hset hB1 hv1 hl1 hcV
  go_wp2
  refine bodyPost_end (results_none rfl _ _ _) rfl ?_
  exact ⟨rfl, ⟨_, _, rs1, L1.out, B1.out, V1.out⟩, owns_below MV.out (((Below.refl bb V).setCell (by dsimp only; omega) _).setCell (by dsimp only; omega) _) hmb, fun q h1 h2 => (by rw [World.cell?_setCell_other _ _ _ _ (by intro e; subst e; dsimp only at h1; omega), World.cell?_setCell_other _ _ _ _ (by intro e; subst e; dsimp only at h1; omega)]; exact WV.out q h2), (DV.out.setCell (by dsimp only; omega) _).setCell (by dsimp only; omega) _⟩

set_option maxRecDepth 100000 in
set_option maxHeartbeats 4000000 in
theorem glue_impl (bb mb : Nat) (A : Option Addr) (c : Nat) (rs : List Rw) (a f b g p x0 x1 x2 x3 : Nat) (w : World) (h : BldH w bb mb w.heap.size A c rs) (hM : MapAt w mb) (hmb : mb < bb) (hp : p < 24) (hx : P4.im p = [(x0 : Int), (x1 : Int), (x2 : Int), (x3 : Int)]) (h4 : Tr.Four (vals rs)) (ha : a < rs.length) (hf : f < 4) (hb : b < rs.length) (hg : g < 4) :
    Calls Tryd.prog 64 #[.pointer (some ⟨bb, 0, none⟩), .agg #[.int .i64 (a : Int), .int .i64 (f : Int), .int .i64 (b : Int), .int .i64 (g : Int), .int .u8 (x0 : Int), .int .u8 (x1 : Int), .int .u8 (x2 : Int), .int .u8 (x3 : Int)]] w fun e w' => e = .returned (.tuple #[]) ∧ (∃ A' c' rs', Bld w' bb mb A' c' rs' ∧ vals rs' = Tr.setF (Tr.setF (vals rs) a f (b : Int) (p : Int)) b g (a : Int) (P4.ivt p : Nat)) ∧ MapAt w' mb ∧ Below bb w w' := by
  obtain ⟨U, hU⟩ : ∃ U, U = w.alloc (Obj.cells #[.int .i64 (a : Int), .int .i64 (f : Int), .int .i64 (b : Int), .int .i64 (g : Int), .int .u8 (x0 : Int), .int .u8 (x1 : Int), .int .u8 (x2 : Int), .int .u8 (x3 : Int)] 80) := ⟨_, rfl⟩
  have hB : Below w.heap.size w U := by rw [hU]; exact al1 w _
  have z : w.heap.size < U.heap.size := by rw [hU]; simp
  have q0 : U.cell? ⟨w.heap.size, 0, none⟩ = some (.int .i64 (a : Int)) := by rw [hU]; simp [go_sem]
  have q1 : U.cell? ⟨w.heap.size, 1, none⟩ = some (.int .i64 (f : Int)) := by rw [hU]; simp [go_sem]
  have q2 : U.cell? ⟨w.heap.size, 2, none⟩ = some (.int .i64 (b : Int)) := by rw [hU]; simp [go_sem]
  have q3 : U.cell? ⟨w.heap.size, 3, none⟩ = some (.int .i64 (g : Int)) := by rw [hU]; simp [go_sem]
  have q4 : U.cell? ⟨w.heap.size, 4, none⟩ = some (.int .u8 (x0 : Int)) := by rw [hU]; simp [go_sem]
  have q5 : U.cell? ⟨w.heap.size, 5, none⟩ = some (.int .u8 (x1 : Int)) := by rw [hU]; simp [go_sem]
  have q6 : U.cell? ⟨w.heap.size, 6, none⟩ = some (.int .u8 (x2 : Int)) := by rw [hU]; simp [go_sem]
  have q7 : U.cell? ⟨w.heap.size, 7, none⟩ = some (.int .u8 (x3 : Int)) := by rw [hU]; simp [go_sem]
  have hbb := h.top.1
  obtain ⟨y0, y1, y2, y3, hy, _⟩ := im_four (P4.ivt p) (P4.inv_ix p hp)
  have hL := L4.im hp
  have hL2 : L4 (P4.im (P4.ivt p)) := L4.im (P4.inv_ix p hp)
  have hI : P4.im (P4.ivt p) = P4.invk (P4.im p) 4 := P4.ivt_im hp
  rw [hx] at hL hI
  rw [hy] at hL2 hI
  have RV := Lib.hid (fun (W : World) => reversed_impl (a : Int) (f : Int) (b : Int) (g : Int) x0 x1 x2 x3 y0 y1 y2 y3 W hL hL2 hI.symm)
  have BU := Lib.hid (h.below hB)
  have MU := Lib.hid (show MapAt U mb from owns_below hM hB (Nat.lt_trans hmb hbb))
  have DU := Lib.hid (hB.mono (Nat.le_of_lt hbb))
  have D1' := Lib.hid (describe_at bb mb w.heap.size A c rs a f p x0 x1 x2 x3 (b : Int) (g : Int) U BU.out MU.out hmb hp hx h4 ha hf)
  clear h hM hL hL2 hI hB
  go_enter Tryd.func64, Tryd.ntmps64
  go_upto_region 1 with fail
  rw [← hU]
  clear hU
  go_wp2_with fail
  refine D1'.out.mono ?_
  rintro e w1 ⟨rfl, ⟨A1, c1, rs1, hl1, hB1, hV1⟩, hM1, hK1, hb⟩
  have q0 := (hK1 ⟨w.heap.size, 0, none⟩ (Nat.le_refl _) (by dsimp only; omega)).trans q0
  have q1 := (hK1 ⟨w.heap.size, 1, none⟩ (Nat.le_refl _) (by dsimp only; omega)).trans q1
  have q2 := (hK1 ⟨w.heap.size, 2, none⟩ (Nat.le_refl _) (by dsimp only; omega)).trans q2
  have q3 := (hK1 ⟨w.heap.size, 3, none⟩ (Nat.le_refl _) (by dsimp only; omega)).trans q3
  have q4 := (hK1 ⟨w.heap.size, 4, none⟩ (Nat.le_refl _) (by dsimp only; omega)).trans q4
  have q5 := (hK1 ⟨w.heap.size, 5, none⟩ (Nat.le_refl _) (by dsimp only; omega)).trans q5
  have q6 := (hK1 ⟨w.heap.size, 6, none⟩ (Nat.le_refl _) (by dsimp only; omega)).trans q6
  have q7 := (hK1 ⟨w.heap.size, 7, none⟩ (Nat.le_refl _) (by dsimp only; omega)).trans q7
  have D1 := Lib.hid (DU.out.trans hb)
  have z1 := hb.size
  have B1 := Lib.hid hB1
  have M1 := Lib.hid hM1
  have V1 := Lib.hid hV1
  have L1 := Lib.hid hl1
  clear hb hB1 hM1 hV1 hl1 hK1 D1' DU BU MU
  go_wp2_with fail
  refine (RV.out _).mono ?_
  rintro e w2 ⟨rfl, hb⟩
  have D2 := Lib.hid (D1.out.trans (hb.mono (by omega)))
  have z2 := hb.size
  have B2 := Lib.hid (B1.out.below hb)
  have M2 := Lib.hid (show MapAt w2 mb from owns_below M1.out hb (by omega))
  have E2 := Lib.hid (describe_at bb mb w.heap.size A1 c1 rs1 b g (P4.ivt p) y0 y1 y2 y3 (a : Int) (f : Int) w2 B2.out M2.out hmb (P4.inv_ix p hp) hy (by rw [V1.out]; exact Tr.setF_four h4 _ _ _ _) (by have := L1.out; omega) hg)
  clear hb B1 M1 D1 RV q0 q1 q2 q3 q4 q5 q6 q7
  go_wp2_with fail
  refine E2.out.mono ?_
  rintro e w3 ⟨rfl, ⟨A2, c2, rs2, hl1, hB1, hV1⟩, hM1, hK1, hb⟩
  have D3 := Lib.hid (D2.out.trans hb)
  have B3 := Lib.hid hB1
  have M3 := Lib.hid hM1
  have V3 := Lib.hid (show vals rs2 = Tr.setF (Tr.setF (vals rs) a f (b : Int) (p : Int)) b g (a : Int) (P4.ivt p : Nat) from by rw [hV1, V1.out])
  clear hb hB1 hM1 hV1 hl1 hK1 E2 D2 B2 M2
  go_wp2
  refine bodyPost_end (results_none rfl _ _ _) rfl ?_
  exact ⟨rfl, ⟨_, _, rs2, B3.out.bld, V3.out⟩, M3.out, D3.out⟩
end Fc
end Go.Proofs.YtajbahfbldmckaaDoor

namespace Go.Proofs.YtajbahfbldmckaaDoor
open Go.RowKit Go.Shelf
/-- The face that a face would meet. -/
def Tr.gm (p f : Nat) : Nat := ((P4.im p).getD f 0).toNat
theorem Tr.gm_cast {p f : Nat} (hp : p < 24) (hf : f < 4) : (P4.im p).getD f 0 = (Tr.gm p f : Int) ∧ Tr.gm p f < 4 := by
  have := P4.im_in p hp f hf
  unfold Tr.gm
  omega
/-- What GlueFaces hands back: its code and its triangulation. -/
def Tr.glC (T : List (List Int)) (a f b p : Int) : Int := if Tr.Is T then (if ((0 ≤ a ∧ a < T.length) ∧ (0 ≤ f ∧ f < 4)) ∧ (0 ≤ b ∧ b < T.length) ∧ (0 ≤ p ∧ p < 24) then (if (a.toNat = b.toNat ∧ f.toNat = Tr.gm p.toNat f.toNat) ∨ ¬ Tr.Bd T a.toNat f.toNat ∨ ¬ Tr.Bd T b.toNat (Tr.gm p.toNat f.toNat) then 5 else 0) else 2) else 1
def Tr.glT (T : List (List Int)) (a f b p : Int) : List (List Int) := if Tr.glC T a f b p = 0 then Tr.setF (Tr.setF T a.toNat f.toNat (b.toNat : Int) (p.toNat : Int)) b.toNat (Tr.gm p.toNat f.toNat) (a.toNat : Int) (P4.ivt p.toNat : Nat) else []
theorem Tr.gl_1 {T : List (List Int)} {a f b p : Int} (h : ¬ Tr.Is T) : Tr.glT T a f b p = [] ∧ Tr.glC T a f b p = 1 := by
  have hc : Tr.glC T a f b p = 1 := by unfold Tr.glC; rw [if_neg h]
  exact ⟨by unfold Tr.glT; rw [if_neg (by omega)], hc⟩
theorem Tr.gl_2 {T : List (List Int)} {a f b p : Int} (h : Tr.Is T) (h2 : ¬ (((0 ≤ a ∧ a < T.length) ∧ (0 ≤ f ∧ f < 4)) ∧ (0 ≤ b ∧ b < T.length) ∧ (0 ≤ p ∧ p < 24))) : Tr.glT T a f b p = [] ∧ Tr.glC T a f b p = 2 := by
  have hc : Tr.glC T a f b p = 2 := by unfold Tr.glC; rw [if_pos h, if_neg h2]
  exact ⟨by unfold Tr.glT; rw [if_neg (by omega)], hc⟩
theorem Tr.gl_5 {T : List (List Int)} {a f b p : Nat} (h : Tr.Is T) (ha : a < T.length) (hf : f < 4) (hb : b < T.length) (hp : p < 24) (hs : (a = b ∧ f = Tr.gm p f) ∨ ¬ Tr.Bd T a f ∨ ¬ Tr.Bd T b (Tr.gm p f)) : Tr.glT T a f b p = [] ∧ Tr.glC T a f b p = 5 := by
  have hc : Tr.glC T a f b p = 5 := by unfold Tr.glC; rw [if_pos h, if_pos (by omega), if_pos (by simpa using hs)]
  exact ⟨by unfold Tr.glT; rw [if_neg (by omega)], hc⟩
theorem Tr.gl_0 {T : List (List Int)} {a f b p : Nat} (h : Tr.Is T) (ha : a < T.length) (hf : f < 4) (hb : b < T.length) (hp : p < 24) (hs : ¬ ((a = b ∧ f = Tr.gm p f) ∨ ¬ Tr.Bd T a f ∨ ¬ Tr.Bd T b (Tr.gm p f))) : Tr.glT T a f b p = Tr.setF (Tr.setF T a f (b : Int) (p : Int)) b (Tr.gm p f) (a : Int) (P4.ivt p : Nat) ∧ Tr.glC T a f b p = 0 := by
  have hc : Tr.glC T a f b p = 0 := by unfold Tr.glC; rw [if_pos h, if_pos (by omega), if_neg (by simpa using hs)]
  exact ⟨by unfold Tr.glT; rw [if_pos hc]; simp, hc⟩
namespace Fc
set_option maxRecDepth 100000 in
set_option maxHeartbeats 8000000 in
theorem glueFaces_impl (A : Option Addr) (n c : Nat) (T : List (List Int)) (a f b p : Int) (w : World) (h : RdT w w.heap.size A n T) (hv : Vs w) (hn : n ≤ 1048576) :
    Calls Tryd.prog 21 #[.agg #[.slice A n c], .int .i64 a, .int .i64 f, .int .i64 b, .int .i64 p] w (ResTC w (Tr.glT T a f b p) (Tr.glC T a f b p)) := by
  have h0 := hv.pos
  have LN := Lib.hid h.len
  have HT := Lib.hid h
  have HV := Lib.hid hv
  clear h hv
  obtain ⟨U, hU⟩ : ∃ U, U = (w.alloc (Obj.cells #[.slice A n c] 28)).alloc (Obj.cells #[.slice none 0 0] 28) := ⟨_, rfl⟩
  have hB : Below w.heap.size w U := by rw [hU]; exact al2 w _ _
  have z : U.heap.size = w.heap.size + 2 := by rw [hU]; simp
  have k0 : U.cell? ⟨w.heap.size, 0, none⟩ = some (.slice A n c) := by rw [hU]; simp [go_sem]
  have k1 : U.cell? ⟨w.heap.size + 1, 0, none⟩ = some (.slice none 0 0) := by rw [hU]; simp [go_sem]
  have f1 : U.frozen? ⟨w.heap.size + 1, 0, none⟩ = false := by rw [hU]; simp [go_sem]
  have DU := Lib.hid hB
  have TI := Lib.hid (isTri_implT A n c T U (HT.out.into hB) (HV.out.below hB h0.1) hn)
  clear hB
  go_enter Tryd.func21, Tryd.ntmps21
  go_upto_region 1 with fail
  rw [← hU]
  clear hU
  go_wp2_with fail
  refine TI.out.mono ?_
  rintro e w1 ⟨rfl, hb⟩
  have k0 := (hb.cell (p := ⟨w.heap.size, 0, none⟩) (by dsimp only; omega)).trans k0
  have k1 := (hb.cell (p := ⟨w.heap.size + 1, 0, none⟩) (by dsimp only; omega)).trans k1
  have f1 := (hb.frozen (p := ⟨w.heap.size + 1, 0, none⟩) (by dsimp only; omega)).trans f1
  have z1 : U.heap.size ≤ w1.heap.size := hb.size
  have D1 := Lib.hid (DU.out.trans (hb.mono (by omega)))
  clear hb TI DU
  by_cases hok : Tr.Is T
  case neg =>
    rw [decide_eq_false hok]
    have R := Lib.hid (Tr.gl_1 (a := a) (f := f) (b := b) (p := p) hok)
    clear hok
    go_wp2
    refine bodyPost_ret (v := .tuple #[.agg #[.slice none 0 0], .int .i64 1]) (by simp [results, Tryd.results21, k1, go_sem]) rfl ?_
    rw [R.out.1, R.out.2]
    exact ⟨none, 0, [], rfl, OwnS.nil _ _ _, rfl, D1.out.setCell (by dsimp only; omega) _⟩
  rw [decide_eq_true hok]
  have h8 : n ≤ 8 := by rw [← LN.out]; exact hok.1
  have IS := Lib.hid hok
  clear hok
  by_cases ha : 0 ≤ a ∧ a < n
  case neg =>
    have R := Lib.hid (Tr.gl_2 (a := a) (f := f) (b := b) (p := p) IS.out (by rw [LN.out]; exact fun e => ha e.1.1))
    go_wp2_with fail
    refine (isTet_no A n c a _ ha).mono ?_
    rintro e w2 ⟨rfl, hb⟩
    have k0 := (hb.cell (p := ⟨w.heap.size, 0, none⟩) (by dsimp only; omega)).trans k0
    have k1 := (hb.cell (p := ⟨w.heap.size + 1, 0, none⟩) (by dsimp only; omega)).trans k1
    have f1 := (hb.frozen (p := ⟨w.heap.size + 1, 0, none⟩) (by dsimp only; omega)).trans f1
    have D2 := Lib.hid (D1.out.trans (hb.mono (by omega)))
    have z2 : w1.heap.size ≤ w2.heap.size := hb.size
    clear hb
    go_wp2
    refine bodyPost_ret (v := .tuple #[.agg #[.slice none 0 0], .int .i64 2]) (by simp [results, Tryd.results21, k1, go_sem]) rfl ?_
    rw [R.out.1, R.out.2]
    exact ⟨none, 0, [], rfl, OwnS.nil _ _ _, rfl, D2.out.setCell (by dsimp only; omega) _⟩
  by_cases hf : 0 ≤ f ∧ f < 4
  case neg =>
    have R := Lib.hid (Tr.gl_2 (a := a) (f := f) (b := b) (p := p) IS.out (by rw [LN.out]; exact fun e => hf e.1.2))
    go_wp2_with fail
    refine (isTet_yes A n c a _ ha.1 ha.2).mono ?_
    rintro e w2 ⟨rfl, hb⟩
    have k0 := (hb.cell (p := ⟨w.heap.size, 0, none⟩) (by dsimp only; omega)).trans k0
    have k1 := (hb.cell (p := ⟨w.heap.size + 1, 0, none⟩) (by dsimp only; omega)).trans k1
    have f1 := (hb.frozen (p := ⟨w.heap.size + 1, 0, none⟩) (by dsimp only; omega)).trans f1
    have D2 := Lib.hid (D1.out.trans (hb.mono (by omega)))
    have z2 : w1.heap.size ≤ w2.heap.size := hb.size
    clear hb
    go_wp2_with fail
    refine (isVertex_no f _ hf).mono ?_
    rintro e w3 ⟨rfl, rfl⟩
    go_wp2
    refine bodyPost_ret (v := .tuple #[.agg #[.slice none 0 0], .int .i64 2]) (by simp [results, Tryd.results21, k1, go_sem]) rfl ?_
    rw [R.out.1, R.out.2]
    exact ⟨none, 0, [], rfl, OwnS.nil _ _ _, rfl, D2.out.setCell (by dsimp only; omega) _⟩
  by_cases hb : 0 ≤ b ∧ b < n
  case neg =>
    have R := Lib.hid (Tr.gl_2 (a := a) (f := f) (b := b) (p := p) IS.out (by rw [LN.out]; exact fun e => hb e.2.1))
    go_wp2_with fail
    refine (isTet_yes A n c a _ ha.1 ha.2).mono ?_
    rintro e w2 ⟨rfl, hb⟩
    have k0 := (hb.cell (p := ⟨w.heap.size, 0, none⟩) (by dsimp only; omega)).trans k0
    have k1 := (hb.cell (p := ⟨w.heap.size + 1, 0, none⟩) (by dsimp only; omega)).trans k1
    have f1 := (hb.frozen (p := ⟨w.heap.size + 1, 0, none⟩) (by dsimp only; omega)).trans f1
    have D2 := Lib.hid (D1.out.trans (hb.mono (by omega)))
    have z2 : w1.heap.size ≤ w2.heap.size := hb.size
    clear hb
    go_wp2_with fail
    refine (isVertex_yes f _ hf.1 hf.2).mono ?_
    rintro e w3 ⟨rfl, rfl⟩
    go_wp2_with fail
    refine (isTet_no A n c b _ hb).mono ?_
    rintro e w4 ⟨rfl, hb⟩
    have k0 := (hb.cell (p := ⟨w.heap.size, 0, none⟩) (by dsimp only; omega)).trans k0
    have k1 := (hb.cell (p := ⟨w.heap.size + 1, 0, none⟩) (by dsimp only; omega)).trans k1
    have f1 := (hb.frozen (p := ⟨w.heap.size + 1, 0, none⟩) (by dsimp only; omega)).trans f1
    have D4 := Lib.hid (D2.out.trans (hb.mono (by omega)))
    have z4 : w2.heap.size ≤ w4.heap.size := hb.size
    clear hb
    go_wp2
    refine bodyPost_ret (v := .tuple #[.agg #[.slice none 0 0], .int .i64 2]) (by simp [results, Tryd.results21, k1, go_sem]) rfl ?_
    rw [R.out.1, R.out.2]
    exact ⟨none, 0, [], rfl, OwnS.nil _ _ _, rfl, D4.out.setCell (by dsimp only; omega) _⟩
  by_cases hp : 0 ≤ p ∧ p < 24
  case neg =>
    have R := Lib.hid (Tr.gl_2 (a := a) (f := f) (b := b) (p := p) IS.out (by rw [LN.out]; exact fun e => hp e.2.2))
    go_wp2_with fail
    refine (isTet_yes A n c a _ ha.1 ha.2).mono ?_
    rintro e w2 ⟨rfl, hb⟩
    have k0 := (hb.cell (p := ⟨w.heap.size, 0, none⟩) (by dsimp only; omega)).trans k0
    have k1 := (hb.cell (p := ⟨w.heap.size + 1, 0, none⟩) (by dsimp only; omega)).trans k1
    have f1 := (hb.frozen (p := ⟨w.heap.size + 1, 0, none⟩) (by dsimp only; omega)).trans f1
    have D2 := Lib.hid (D1.out.trans (hb.mono (by omega)))
    have z2 : w1.heap.size ≤ w2.heap.size := hb.size
    clear hb
    go_wp2_with fail
    refine (isVertex_yes f _ hf.1 hf.2).mono ?_
    rintro e w3 ⟨rfl, rfl⟩
    go_wp2_with fail
    refine (isTet_yes A n c b _ hb.1 hb.2).mono ?_
    rintro e w4 ⟨rfl, hb⟩
    have k0 := (hb.cell (p := ⟨w.heap.size, 0, none⟩) (by dsimp only; omega)).trans k0
    have k1 := (hb.cell (p := ⟨w.heap.size + 1, 0, none⟩) (by dsimp only; omega)).trans k1
    have f1 := (hb.frozen (p := ⟨w.heap.size + 1, 0, none⟩) (by dsimp only; omega)).trans f1
    have D4 := Lib.hid (D2.out.trans (hb.mono (by omega)))
    have z4 : w2.heap.size ≤ w4.heap.size := hb.size
    clear hb
    go_wp2_with fail
    refine (isPerm4_no p _ hp).mono ?_
    rintro e w5 ⟨rfl, rfl⟩
    go_wp2
    refine bodyPost_ret (v := .tuple #[.agg #[.slice none 0 0], .int .i64 2]) (by simp [results, Tryd.results21, k1, go_sem]) rfl ?_
    rw [R.out.1, R.out.2]
    exact ⟨none, 0, [], rfl, OwnS.nil _ _ _, rfl, D4.out.setCell (by dsimp only; omega) _⟩
  go_wp2_with fail
  refine (isTet_yes A n c a _ ha.1 ha.2).mono ?_
  rintro e w2 ⟨rfl, hb⟩
  have k0 := (hb.cell (p := ⟨w.heap.size, 0, none⟩) (by dsimp only; omega)).trans k0
  have k1 := (hb.cell (p := ⟨w.heap.size + 1, 0, none⟩) (by dsimp only; omega)).trans k1
  have f1 := (hb.frozen (p := ⟨w.heap.size + 1, 0, none⟩) (by dsimp only; omega)).trans f1
  have D2 := Lib.hid (D1.out.trans (hb.mono (by omega)))
  have z2 : w1.heap.size ≤ w2.heap.size := hb.size
  clear hb
  go_wp2_with fail
  refine (isVertex_yes f _ hf.1 hf.2).mono ?_
  rintro e w3 ⟨rfl, rfl⟩
  go_wp2_with fail
  refine (isTet_yes A n c b _ hb.1 hb.2).mono ?_
  rintro e w4 ⟨rfl, hb⟩
  have k0 := (hb.cell (p := ⟨w.heap.size, 0, none⟩) (by dsimp only; omega)).trans k0
  have k1 := (hb.cell (p := ⟨w.heap.size + 1, 0, none⟩) (by dsimp only; omega)).trans k1
  have f1 := (hb.frozen (p := ⟨w.heap.size + 1, 0, none⟩) (by dsimp only; omega)).trans f1
  have D4 := Lib.hid (D2.out.trans (hb.mono (by omega)))
  have z4 : w2.heap.size ≤ w4.heap.size := hb.size
  clear hb
  go_wp2_with fail
  refine (isPerm4_yes p _ hp.1 hp.2).mono ?_
  rintro e w5 ⟨rfl, rfl⟩
  obtain ⟨a', rfl⟩ := Int.eq_ofNat_of_zero_le ha.1
  have alt : a' < n := by omega
  obtain ⟨f', rfl⟩ := Int.eq_ofNat_of_zero_le hf.1
  have flt : f' < 4 := by omega
  obtain ⟨b', rfl⟩ := Int.eq_ofNat_of_zero_le hb.1
  have blt : b' < n := by omega
  obtain ⟨p', rfl⟩ := Int.eq_ofNat_of_zero_le hp.1
  have plt : p' < 24 := by omega
  clear ha hf hb hp
  obtain ⟨hgm, hg4⟩ := Tr.gm_cast plt flt
  obtain ⟨g, hgg⟩ : ∃ g, Tr.gm p' f' = g := ⟨_, rfl⟩
  rw [hgg] at hgm hg4
  obtain ⟨x0, x1, x2, x3, hx, _⟩ := im_four p' plt
  have GO := Lib.hid (gluingOf_impl (a' : Int) f' p' (b' : Int) x0 x1 x2 x3 w4 flt plt hx (HV.out.below D4.out h0.1).1)
  rw [hgm] at GO
  have HX := Lib.hid hx
  clear hx hgm
  go_wp2_with fail
  refine GO.out.mono ?_
  rintro e w6 ⟨rfl, hb⟩
  have k0 := (hb.cell (p := ⟨w.heap.size, 0, none⟩) (by dsimp only; omega)).trans k0
  have k1 := (hb.cell (p := ⟨w.heap.size + 1, 0, none⟩) (by dsimp only; omega)).trans k1
  have f1 := (hb.frozen (p := ⟨w.heap.size + 1, 0, none⟩) (by dsimp only; omega)).trans f1
  have D6 := Lib.hid (D4.out.trans (hb.mono (by omega)))
  have z6 : w4.heap.size ≤ w6.heap.size := hb.size
  clear hb GO
  obtain ⟨X, hX⟩ : ∃ X, X = w6.alloc (Obj.cells #[.int .i64 (a' : Int), .int .i64 (f' : Int), .int .i64 (b' : Int), .int .i64 (g : Int), .int .u8 (x0 : Int), .int .u8 (x1 : Int), .int .u8 (x2 : Int), .int .u8 (x3 : Int)] 80) := ⟨_, rfl⟩
  have zX : X.heap.size = w6.heap.size + 1 := by rw [hX]; simp
  have BX := Lib.hid (show Below w6.heap.size w6 X from by rw [hX]; exact al1 _ _)
  have k0 := (BX.out.cell (p := ⟨w.heap.size, 0, none⟩) (by dsimp only; omega)).trans k0
  have k1 := (BX.out.cell (p := ⟨w.heap.size + 1, 0, none⟩) (by dsimp only; omega)).trans k1
  have f1 := (BX.out.frozen (p := ⟨w.heap.size + 1, 0, none⟩) (by dsimp only; omega)).trans f1
  have q0 : X.cell? ⟨w6.heap.size, 0, none⟩ = some (.int .i64 (a' : Int)) := by rw [hX]; simp [go_sem]
  have q1 : X.cell? ⟨w6.heap.size, 1, none⟩ = some (.int .i64 (f' : Int)) := by rw [hX]; simp [go_sem]
  have q2 : X.cell? ⟨w6.heap.size, 2, none⟩ = some (.int .i64 (b' : Int)) := by rw [hX]; simp [go_sem]
  have q3 : X.cell? ⟨w6.heap.size, 3, none⟩ = some (.int .i64 (g : Int)) := by rw [hX]; simp [go_sem]
  have q4 : X.cell? ⟨w6.heap.size, 4, none⟩ = some (.int .u8 (x0 : Int)) := by rw [hX]; simp [go_sem]
  have q5 : X.cell? ⟨w6.heap.size, 5, none⟩ = some (.int .u8 (x1 : Int)) := by rw [hX]; simp [go_sem]
  have q6 : X.cell? ⟨w6.heap.size, 6, none⟩ = some (.int .u8 (x2 : Int)) := by rw [hX]; simp [go_sem]
  have q7 : X.cell? ⟨w6.heap.size, 7, none⟩ = some (.int .u8 (x3 : Int)) := by rw [hX]; simp [go_sem]
  have DX := Lib.hid (D6.out.trans (BX.out.mono (by omega)))
  obtain ⟨v0, v1⟩ := HV.out.2.below DX.out h0.2
  go_upto_region 6 with fail
  rw [← hX]
  clear hX BX D6
  have hF4 := IS.out.2.1
  have DT1 := Lib.hid (fun (W : World) (hb : Below X.heap.size X W) => dat_impl A n c a' f' T W (HT.out.into (DX.out.trans (hb.mono (by omega)))) alt flt (hF4 a' (by rw [LN.out]; exact alt)))
  have DT2 := Lib.hid (fun (W : World) (hb : Below X.heap.size X W) => dat_impl A n c b' g T W (HT.out.into (DX.out.trans (hb.mono (by omega)))) blt hg4 (hF4 b' (by rw [LN.out]; exact blt)))
  obtain ⟨t1, ht1⟩ : ∃ t, Tr.tt T a' f' = t := ⟨_, rfl⟩
  obtain ⟨p1, hp1⟩ : ∃ t, Tr.pp T a' f' = t := ⟨_, rfl⟩
  have BD1 : Tr.Bd T a' f' ↔ (t1 = -1 ∧ p1 = 0) := by unfold Tr.Bd; rw [ht1, hp1]
  rw [ht1, hp1] at DT1
  have FE1 := fun W => face_eq t1 p1 (-1) 0 W
  obtain ⟨t2, ht2⟩ : ∃ t, Tr.tt T b' g = t := ⟨_, rfl⟩
  obtain ⟨p2, hp2⟩ : ∃ t, Tr.pp T b' g = t := ⟨_, rfl⟩
  have BD2 : Tr.Bd T b' g ↔ (t2 = -1 ∧ p2 = 0) := by unfold Tr.Bd; rw [ht2, hp2]
  rw [ht2, hp2] at DT2
  have FE2 := fun W => face_eq t2 p2 (-1) 0 W
  have TE := fun W => tetFace_eq (a' : Int) (f' : Int) (b' : Int) (g : Int) 9998 W
  by_cases hs : a' = b' ∧ f' = g
  · have R := Lib.hid (Tr.gl_5 (T := T) (a := a') (f := f') (b := b') (p := p') IS.out (by rw [LN.out]; exact alt) flt (by rw [LN.out]; exact blt) plt (.inl (by rw [hgg]; exact hs)))
    have TF : (((a' : Int) == b') && ((f' : Int) == g)) = true := by simp; omega
    rw [TF] at TE
    clear TF hs FE1 FE2
    go_region
    all_goals
      have D9 := Lib.hid (show Below w.heap.size w X.drew from DX.out.drew)
      go_wp2
      refine bodyPost_ret (v := .tuple #[.agg #[.slice none 0 0], .int .i64 5]) (by simp [results, Tryd.results21, k1, go_sem]) rfl ?_
      rw [R.out.1, R.out.2]
      exact ⟨none, 0, [], rfl, OwnS.nil _ _ _, rfl, D9.out.setCell (by dsimp only; omega) _⟩
  have TF : (((a' : Int) == b') && ((f' : Int) == g)) = false := by simp; omega
  rw [TF] at TE
  clear TF
  by_cases hb1 : t1 = -1 ∧ p1 = 0
  case neg =>
    have R := Lib.hid (Tr.gl_5 (T := T) (a := a') (f := f') (b := b') (p := p') IS.out (by rw [LN.out]; exact alt) flt (by rw [LN.out]; exact blt) plt (.inr (.inl (fun e => hb1 (BD1.1 e)))))
    have FF : ((t1 == -1) && (p1 == 0)) = false := by simp; omega
    rw [FF] at FE1
    clear FF hs hb1 FE2 BD1 BD2
    refine wp_region_N (fun W => (W.cell? ⟨w.heap.size, 0, none⟩ = some (.slice A n c) ∧ W.cell? ⟨0, 0, none⟩ = some (.int .i64 (-1)) ∧ W.cell? ⟨0, 1, none⟩ = some (.int .i64 0)) ∧ W.cell? ⟨w6.heap.size, 0, none⟩ = some (.int .i64 (a' : Int)) ∧ W.cell? ⟨w6.heap.size, 1, none⟩ = some (.int .i64 (f' : Int)) ∧ W.cell? ⟨w6.heap.size, 2, none⟩ = some (.int .i64 (b' : Int)) ∧ W.cell? ⟨w6.heap.size, 3, none⟩ = some (.int .i64 (g : Int))) [0, 1, 2, 3, 4, 5, 6, 7, 8, 10, 11, 12, 13, 14, 15, 16, 17, 18, 19, 20] (by kernel_rfl) ?_
    have hS : (fun W => (W.cell? ⟨w.heap.size, 0, none⟩ = some (.slice A n c) ∧ W.cell? ⟨0, 0, none⟩ = some (.int .i64 (-1)) ∧ W.cell? ⟨0, 1, none⟩ = some (.int .i64 0)) ∧ W.cell? ⟨w6.heap.size, 0, none⟩ = some (.int .i64 (a' : Int)) ∧ W.cell? ⟨w6.heap.size, 1, none⟩ = some (.int .i64 (f' : Int)) ∧ W.cell? ⟨w6.heap.size, 2, none⟩ = some (.int .i64 (b' : Int)) ∧ W.cell? ⟨w6.heap.size, 3, none⟩ = some (.int .i64 (g : Int))) X.drew := ⟨⟨k0, v0, v1⟩, q0, q1, q2, q3⟩
    refine wpN_take (i := 0) (oi := { dst := some 46, op := .fieldAddr _ (.tmp 12) 0, type := _, pos := _, after := _, guard := _ }) (v := ?_) rfl (by kernel_rfl) (by kernel_rfl) (by kernel_rfl) (by kernel_rfl) (fun _ _ _ h => h) (Or.inl ⟨by rfl, ?_⟩) hS ?_
    rotate_left
    · intro W hW
      obtain ⟨⟨k0, v0, v1⟩, q0, q1, q2, q3⟩ := hW
      go_simp
      try with_reducible rfl
    try simp only [Act.put, List.setIfInBounds_toArray, List.set_cons_zero, List.set_cons_succ]
    refine wpN_take (i := 1) (oi := { dst := some 47, op := .load _ (.tmp 46), type := _, pos := _, after := _, guard := _ }) (v := ?_) rfl (by kernel_rfl) (by kernel_rfl) (by kernel_rfl) (by kernel_rfl) (fun _ _ _ h => h) (Or.inl ⟨by rfl, ?_⟩) hS ?_
    rotate_left
    · intro W hW
      obtain ⟨⟨k0, v0, v1⟩, q0, q1, q2, q3⟩ := hW
      go_simp
      try with_reducible rfl
    try simp only [Act.put, List.setIfInBounds_toArray, List.set_cons_zero, List.set_cons_succ]
    refine wpN_take (i := 2) (oi := { dst := some 48, op := .fieldAddr _ (.tmp 12) 1, type := _, pos := _, after := _, guard := _ }) (v := ?_) rfl (by kernel_rfl) (by kernel_rfl) (by kernel_rfl) (by kernel_rfl) (fun _ _ _ h => h) (Or.inl ⟨by rfl, ?_⟩) hS ?_
    rotate_left
    · intro W hW
      obtain ⟨⟨k0, v0, v1⟩, q0, q1, q2, q3⟩ := hW
      go_simp
      try with_reducible rfl
    try simp only [Act.put, List.setIfInBounds_toArray, List.set_cons_zero, List.set_cons_succ]
    refine wpN_take (i := 3) (oi := { dst := some 49, op := .load _ (.tmp 48), type := _, pos := _, after := _, guard := _ }) (v := ?_) rfl (by kernel_rfl) (by kernel_rfl) (by kernel_rfl) (by kernel_rfl) (fun _ _ _ h => h) (Or.inl ⟨by rfl, ?_⟩) hS ?_
    rotate_left
    · intro W hW
      obtain ⟨⟨k0, v0, v1⟩, q0, q1, q2, q3⟩ := hW
      go_simp
      try with_reducible rfl
    try simp only [Act.put, List.setIfInBounds_toArray, List.set_cons_zero, List.set_cons_succ]
    refine wpN_take (i := 4) (oi := { dst := some 50, op := .binOp .eql _ (.tmp 47) (.tmp 49) _, type := _, pos := _, after := _, guard := _ }) (v := ?_) rfl (by kernel_rfl) (by kernel_rfl) (by kernel_rfl) (by kernel_rfl) (fun _ _ _ h => h) (Or.inl ⟨by rfl, ?_⟩) hS ?_
    rotate_left
    · intro W hW
      obtain ⟨⟨k0, v0, v1⟩, q0, q1, q2, q3⟩ := hW
      go_simp
      try with_reducible rfl
    try simp only [Act.put, List.setIfInBounds_toArray, List.set_cons_zero, List.set_cons_succ]
    refine wpN_take (i := 5) (oi := { dst := some 51, op := .move (.tmp 50), type := _, pos := _, after := _, guard := _ }) (v := ?_) rfl (by kernel_rfl) (by kernel_rfl) (by kernel_rfl) (by kernel_rfl) (fun _ _ _ h => h) (Or.inl ⟨by rfl, ?_⟩) hS ?_
    rotate_left
    · intro W hW
      obtain ⟨⟨k0, v0, v1⟩, q0, q1, q2, q3⟩ := hW
      go_simp
      try with_reducible rfl
    try simp only [Act.put, List.setIfInBounds_toArray, List.set_cons_zero, List.set_cons_succ]
    refine wpN_take (i := 6) (oi := { dst := some 52, op := .load _ (.tmp 5), type := _, pos := _, after := _, guard := _ }) (v := ?_) rfl (by kernel_rfl) (by kernel_rfl) (by kernel_rfl) (by kernel_rfl) (fun _ _ _ h => h) (Or.inl ⟨by rfl, ?_⟩) hS ?_
    rotate_left
    · intro W hW
      obtain ⟨⟨k0, v0, v1⟩, q0, q1, q2, q3⟩ := hW
      go_simp
      try with_reducible rfl
    try simp only [Act.put, List.setIfInBounds_toArray, List.set_cons_zero, List.set_cons_succ]
    refine wpN_take (i := 7) (oi := { dst := some 53, op := .fieldAddr _ (.tmp 12) 0, type := _, pos := _, after := _, guard := _ }) (v := ?_) rfl (by kernel_rfl) (by kernel_rfl) (by kernel_rfl) (by kernel_rfl) (fun _ _ _ h => h) (Or.inl ⟨by rfl, ?_⟩) hS ?_
    rotate_left
    · intro W hW
      obtain ⟨⟨k0, v0, v1⟩, q0, q1, q2, q3⟩ := hW
      go_simp
      try with_reducible rfl
    try simp only [Act.put, List.setIfInBounds_toArray, List.set_cons_zero, List.set_cons_succ]
    refine wpN_take (i := 8) (oi := { dst := some 54, op := .load _ (.tmp 53), type := _, pos := _, after := _, guard := _ }) (v := ?_) rfl (by kernel_rfl) (by kernel_rfl) (by kernel_rfl) (by kernel_rfl) (fun _ _ _ h => h) (Or.inl ⟨by rfl, ?_⟩) hS ?_
    rotate_left
    · intro W hW
      obtain ⟨⟨k0, v0, v1⟩, q0, q1, q2, q3⟩ := hW
      go_simp
      try with_reducible rfl
    try simp only [Act.put, List.setIfInBounds_toArray, List.set_cons_zero, List.set_cons_succ]
    refine wpN_take (i := 10) (oi := { dst := some 56, op := .load _ (.global 0), type := _, pos := _, after := _, guard := _ }) (v := ?_) rfl (by kernel_rfl) (by kernel_rfl) (by kernel_rfl) (by kernel_rfl) (fun _ _ _ h => h) (Or.inl ⟨by rfl, ?_⟩) hS ?_
    rotate_left
    · intro W hW
      obtain ⟨⟨k0, v0, v1⟩, q0, q1, q2, q3⟩ := hW
      go_simp
      try with_reducible rfl
    try simp only [Act.put, List.setIfInBounds_toArray, List.set_cons_zero, List.set_cons_succ]
    refine wpN_one (j := 9) (o := { dst := some 55, op := _, type := _, pos := _, after := _, guard := _ }) (by kernel_rfl) rfl ?_
    intro K hK
    go_simp
    go_at_call 63; (with_reducible refine (DT1.out _ (by first | exact Below.refl _ _ | exact (Below.refl _ _).drew)).mono ?_); rintro e u1 ⟨rfl, hb'⟩; (first | have hb := undrew hb' | have hb := hb'); have N1 := Lib.hid (show Below X.heap.size X u1 from hb); have zu1 : X.heap.size ≤ u1.heap.size := hb.size; have k0 := (hb.cell (p := ⟨w.heap.size, 0, none⟩) (by dsimp only; omega)).trans k0; have v0 := (hb.cell (p := ⟨0, 0, none⟩) (by dsimp only; omega)).trans v0; have v1 := (hb.cell (p := ⟨0, 1, none⟩) (by dsimp only; omega)).trans v1; have q0 := (hb.cell (p := ⟨w6.heap.size, 0, none⟩) (by dsimp only; omega)).trans q0; have q1 := (hb.cell (p := ⟨w6.heap.size, 1, none⟩) (by dsimp only; omega)).trans q1; have q2 := (hb.cell (p := ⟨w6.heap.size, 2, none⟩) (by dsimp only; omega)).trans q2; have q3 := (hb.cell (p := ⟨w6.heap.size, 3, none⟩) (by dsimp only; omega)).trans q3; clear hb hb'
    refine hK _ _ (fun _ => ⟨⟨k0, v0, v1⟩, q0, q1, q2, q3⟩) ?_
    clear hK K
    try simp only [Act.put, List.setIfInBounds_toArray, List.set_cons_zero, List.set_cons_succ]
    clear hS
    have hS : (fun W => (W.cell? ⟨w.heap.size, 0, none⟩ = some (.slice A n c) ∧ W.cell? ⟨0, 0, none⟩ = some (.int .i64 (-1)) ∧ W.cell? ⟨0, 1, none⟩ = some (.int .i64 0)) ∧ W.cell? ⟨w6.heap.size, 0, none⟩ = some (.int .i64 (a' : Int)) ∧ W.cell? ⟨w6.heap.size, 1, none⟩ = some (.int .i64 (f' : Int)) ∧ W.cell? ⟨w6.heap.size, 2, none⟩ = some (.int .i64 (b' : Int)) ∧ W.cell? ⟨w6.heap.size, 3, none⟩ = some (.int .i64 (g : Int))) u1 := ⟨⟨k0, v0, v1⟩, q0, q1, q2, q3⟩
    refine wpN_take (i := 11) (oi := { dst := some 57, op := .binOp .neq _ (.tmp 55) (.tmp 56) _, type := _, pos := _, after := _, guard := _ }) (v := ?_) rfl (by kernel_rfl) (by kernel_rfl) (by kernel_rfl) (by kernel_rfl) (fun _ _ _ h => h) (Or.inl ⟨by rfl, ?_⟩) hS ?_
    rotate_left
    · intro W hW
      obtain ⟨⟨k0, v0, v1⟩, q0, q1, q2, q3⟩ := hW
      go_simp
      try with_reducible rfl
    try simp only [Act.put, List.setIfInBounds_toArray, List.set_cons_zero, List.set_cons_succ]
    refine wpN_take (i := 12) (oi := { dst := some 58, op := .pick (.tmp 51) (.const (.bool true)) (.tmp 57), type := _, pos := _, after := _, guard := _ }) (v := ?_) rfl (by kernel_rfl) (by kernel_rfl) (by kernel_rfl) (by kernel_rfl) (fun _ _ _ h => h) (Or.inl ⟨by rfl, ?_⟩) hS ?_
    rotate_left
    · intro W hW
      obtain ⟨⟨k0, v0, v1⟩, q0, q1, q2, q3⟩ := hW
      go_simp
      try with_reducible rfl
    try simp only [Act.put, List.setIfInBounds_toArray, List.set_cons_zero, List.set_cons_succ]
    refine wpN_take (i := 13) (oi := { dst := some 59, op := .move (.tmp 58), type := _, pos := _, after := _, guard := _ }) (v := ?_) rfl (by kernel_rfl) (by kernel_rfl) (by kernel_rfl) (by kernel_rfl) (fun _ _ _ h => h) (Or.inl ⟨by rfl, ?_⟩) hS ?_
    rotate_left
    · intro W hW
      obtain ⟨⟨k0, v0, v1⟩, q0, q1, q2, q3⟩ := hW
      go_simp
      try with_reducible rfl
    try simp only [Act.put, List.setIfInBounds_toArray, List.set_cons_zero, List.set_cons_succ]
    refine wpN_take (i := 14) (oi := { dst := some 60, op := .load _ (.tmp 5), type := _, pos := _, after := _, guard := _ }) (v := undef) rfl (by kernel_rfl) (by kernel_rfl) (by kernel_rfl) (by kernel_rfl) (fun _ _ _ h => h) (Or.inr ⟨by rfl, rfl⟩) hS ?_
    try simp only [Act.put, List.setIfInBounds_toArray, List.set_cons_zero, List.set_cons_succ]
    refine wpN_take (i := 15) (oi := { dst := some 61, op := .fieldAddr _ (.tmp 12) 1, type := _, pos := _, after := _, guard := _ }) (v := undef) rfl (by kernel_rfl) (by kernel_rfl) (by kernel_rfl) (by kernel_rfl) (fun _ _ _ h => h) (Or.inr ⟨by rfl, rfl⟩) hS ?_
    try simp only [Act.put, List.setIfInBounds_toArray, List.set_cons_zero, List.set_cons_succ]
    refine wpN_take (i := 16) (oi := { dst := some 62, op := .load _ (.tmp 61), type := _, pos := _, after := _, guard := _ }) (v := undef) rfl (by kernel_rfl) (by kernel_rfl) (by kernel_rfl) (by kernel_rfl) (fun _ _ _ h => h) (Or.inr ⟨by rfl, rfl⟩) hS ?_
    try simp only [Act.put, List.setIfInBounds_toArray, List.set_cons_zero, List.set_cons_succ]
    refine wpN_take (i := 17) (oi := { dst := some 63, op := _, type := _, pos := _, after := _, guard := _ }) (v := undef) rfl (by kernel_rfl) (by kernel_rfl) (by kernel_rfl) (by kernel_rfl) (fun _ _ _ h => h) (Or.inr ⟨by rfl, rfl⟩) hS ?_
    try simp only [Act.put, List.setIfInBounds_toArray, List.set_cons_zero, List.set_cons_succ]
    refine wpN_take (i := 18) (oi := { dst := some 64, op := .load _ (.global 0), type := _, pos := _, after := _, guard := _ }) (v := undef) rfl (by kernel_rfl) (by kernel_rfl) (by kernel_rfl) (by kernel_rfl) (fun _ _ _ h => h) (Or.inr ⟨by rfl, rfl⟩) hS ?_
    try simp only [Act.put, List.setIfInBounds_toArray, List.set_cons_zero, List.set_cons_succ]
    refine wpN_take (i := 19) (oi := { dst := some 65, op := .binOp .neq _ (.tmp 63) (.tmp 64) _, type := _, pos := _, after := _, guard := _ }) (v := undef) rfl (by kernel_rfl) (by kernel_rfl) (by kernel_rfl) (by kernel_rfl) (fun _ _ _ h => h) (Or.inr ⟨by rfl, rfl⟩) hS ?_
    try simp only [Act.put, List.setIfInBounds_toArray, List.set_cons_zero, List.set_cons_succ]
    refine wpN_take (i := 20) (oi := { dst := some 66, op := .pick (.tmp 59) (.const (.bool true)) (.tmp 65), type := _, pos := _, after := _, guard := _ }) (v := ?_) rfl (by kernel_rfl) (by kernel_rfl) (by kernel_rfl) (by kernel_rfl) (fun _ _ _ h => h) (Or.inl ⟨by rfl, ?_⟩) hS ?_
    rotate_left
    · intro W hW
      obtain ⟨⟨k0, v0, v1⟩, q0, q1, q2, q3⟩ := hW
      go_simp
      try with_reducible rfl
    try simp only [Act.put, List.setIfInBounds_toArray, List.set_cons_zero, List.set_cons_succ]
    refine wpN_done (by kernel_rfl) ?_
    all_goals
      have D9 := Lib.hid (show Below w.heap.size w u1 from DX.out.trans (N1.out.mono (by omega)))
      have k1 := (N1.out.cell (p := ⟨w.heap.size + 1, 0, none⟩) (by dsimp only; omega)).trans k1
      have f1 := (N1.out.frozen (p := ⟨w.heap.size + 1, 0, none⟩) (by dsimp only; omega)).trans f1
      go_wp2
      refine bodyPost_ret (v := .tuple #[.agg #[.slice none 0 0], .int .i64 5]) (by simp [results, Tryd.results21, k1, go_sem]) rfl ?_
      rw [R.out.1, R.out.2]
      exact ⟨none, 0, [], rfl, OwnS.nil _ _ _, rfl, D9.out.setCell (by dsimp only; omega) _⟩
  have FF : ((t1 == -1) && (p1 == 0)) = true := by simp; omega
  rw [FF] at FE1
  clear FF
  by_cases hb2 : t2 = -1 ∧ p2 = 0
  case neg =>
    have R := Lib.hid (Tr.gl_5 (T := T) (a := a') (f := f') (b := b') (p := p') IS.out (by rw [LN.out]; exact alt) flt (by rw [LN.out]; exact blt) plt (.inr (.inr (by rw [hgg]; exact fun e => hb2 (BD2.1 e)))))
    have FF : ((t2 == -1) && (p2 == 0)) = false := by simp; omega
    rw [FF] at FE2
    clear FF hs hb1 hb2 BD1 BD2
    go_region_held3 (fun W => (W.cell? ⟨w.heap.size, 0, none⟩ = some (.slice A n c) ∧ W.cell? ⟨0, 0, none⟩ = some (.int .i64 (-1)) ∧ W.cell? ⟨0, 1, none⟩ = some (.int .i64 0)) ∧ W.cell? ⟨w6.heap.size, 0, none⟩ = some (.int .i64 (a' : Int)) ∧ W.cell? ⟨w6.heap.size, 1, none⟩ = some (.int .i64 (f' : Int)) ∧ W.cell? ⟨w6.heap.size, 2, none⟩ = some (.int .i64 (b' : Int)) ∧ W.cell? ⟨w6.heap.size, 3, none⟩ = some (.int .i64 (g : Int))) (go_keep) (first
      | (go_at_call 63; (with_reducible refine (DT1.out _ (by first | exact Below.refl _ _ | exact (Below.refl _ _).drew)).mono ?_); rintro e u1 ⟨rfl, hb'⟩; (first | have hb := undrew hb' | have hb := hb'); have N1 := Lib.hid (show Below X.heap.size X u1 from hb); have zu1 : X.heap.size ≤ u1.heap.size := hb.size; have k0 := (hb.cell (p := ⟨w.heap.size, 0, none⟩) (by dsimp only; omega)).trans k0; have v0 := (hb.cell (p := ⟨0, 0, none⟩) (by dsimp only; omega)).trans v0; have v1 := (hb.cell (p := ⟨0, 1, none⟩) (by dsimp only; omega)).trans v1; have q0 := (hb.cell (p := ⟨w6.heap.size, 0, none⟩) (by dsimp only; omega)).trans q0; have q1 := (hb.cell (p := ⟨w6.heap.size, 1, none⟩) (by dsimp only; omega)).trans q1; have q2 := (hb.cell (p := ⟨w6.heap.size, 2, none⟩) (by dsimp only; omega)).trans q2; have q3 := (hb.cell (p := ⟨w6.heap.size, 3, none⟩) (by dsimp only; omega)).trans q3; clear hb hb')
      | (go_at_call 63; (with_reducible refine (DT2.out _ (by first | exact N1.out | exact N1.out.drew)).mono ?_); rintro e u2 ⟨rfl, hb⟩; have N2 := Lib.hid (show Below X.heap.size X u2 from N1.out.trans (hb.mono (by omega))); have zu2 : u1.heap.size ≤ u2.heap.size := hb.size; have k0 := (hb.cell (p := ⟨w.heap.size, 0, none⟩) (by dsimp only; omega)).trans k0; have v0 := (hb.cell (p := ⟨0, 0, none⟩) (by dsimp only; omega)).trans v0; have v1 := (hb.cell (p := ⟨0, 1, none⟩) (by dsimp only; omega)).trans v1; have q0 := (hb.cell (p := ⟨w6.heap.size, 0, none⟩) (by dsimp only; omega)).trans q0; have q1 := (hb.cell (p := ⟨w6.heap.size, 1, none⟩) (by dsimp only; omega)).trans q1; have q2 := (hb.cell (p := ⟨w6.heap.size, 2, none⟩) (by dsimp only; omega)).trans q2; have q3 := (hb.cell (p := ⟨w6.heap.size, 3, none⟩) (by dsimp only; omega)).trans q3; clear hb))
    all_goals
      have D9 := Lib.hid (show Below w.heap.size w u2 from DX.out.trans (N2.out.mono (by omega)))
      have k1 := (N2.out.cell (p := ⟨w.heap.size + 1, 0, none⟩) (by dsimp only; omega)).trans k1
      have f1 := (N2.out.frozen (p := ⟨w.heap.size + 1, 0, none⟩) (by dsimp only; omega)).trans f1
      go_wp2
      refine bodyPost_ret (v := .tuple #[.agg #[.slice none 0 0], .int .i64 5]) (by simp [results, Tryd.results21, k1, go_sem]) rfl ?_
      rw [R.out.1, R.out.2]
      exact ⟨none, 0, [], rfl, OwnS.nil _ _ _, rfl, D9.out.setCell (by dsimp only; omega) _⟩
  have FF : ((t2 == -1) && (p2 == 0)) = true := by simp; omega
  rw [FF] at FE2
  clear FF
  have R := Lib.hid (Tr.gl_0 (T := T) (a := a') (f := f') (b := b') (p := p') IS.out (by rw [LN.out]; exact alt) flt (by rw [LN.out]; exact blt) plt (by rw [hgg]; intro e; rcases e with e | e | e; exact hs e; exact e (BD1.2 hb1); exact e (BD2.2 hb2)))
  rw [hgg] at R
  clear hs hb1 hb2 BD1 BD2 hgg
  go_region_held3 (fun W => (W.cell? ⟨w.heap.size, 0, none⟩ = some (.slice A n c) ∧ W.cell? ⟨0, 0, none⟩ = some (.int .i64 (-1)) ∧ W.cell? ⟨0, 1, none⟩ = some (.int .i64 0)) ∧ W.cell? ⟨w6.heap.size, 0, none⟩ = some (.int .i64 (a' : Int)) ∧ W.cell? ⟨w6.heap.size, 1, none⟩ = some (.int .i64 (f' : Int)) ∧ W.cell? ⟨w6.heap.size, 2, none⟩ = some (.int .i64 (b' : Int)) ∧ W.cell? ⟨w6.heap.size, 3, none⟩ = some (.int .i64 (g : Int))) (go_keep) (first
    | (go_at_call 63; (with_reducible refine (DT1.out _ (by first | exact Below.refl _ _ | exact (Below.refl _ _).drew)).mono ?_); rintro e u1 ⟨rfl, hb'⟩; (first | have hb := undrew hb' | have hb := hb'); have N1 := Lib.hid (show Below X.heap.size X u1 from hb); have zu1 : X.heap.size ≤ u1.heap.size := hb.size; have k0 := (hb.cell (p := ⟨w.heap.size, 0, none⟩) (by dsimp only; omega)).trans k0; have v0 := (hb.cell (p := ⟨0, 0, none⟩) (by dsimp only; omega)).trans v0; have v1 := (hb.cell (p := ⟨0, 1, none⟩) (by dsimp only; omega)).trans v1; have q0 := (hb.cell (p := ⟨w6.heap.size, 0, none⟩) (by dsimp only; omega)).trans q0; have q1 := (hb.cell (p := ⟨w6.heap.size, 1, none⟩) (by dsimp only; omega)).trans q1; have q2 := (hb.cell (p := ⟨w6.heap.size, 2, none⟩) (by dsimp only; omega)).trans q2; have q3 := (hb.cell (p := ⟨w6.heap.size, 3, none⟩) (by dsimp only; omega)).trans q3; clear hb hb')
    | (go_at_call 63; (with_reducible refine (DT2.out _ (by first | exact N1.out | exact N1.out.drew)).mono ?_); rintro e u2 ⟨rfl, hb⟩; have N2 := Lib.hid (show Below X.heap.size X u2 from N1.out.trans (hb.mono (by omega))); have zu2 : u1.heap.size ≤ u2.heap.size := hb.size; have k0 := (hb.cell (p := ⟨w.heap.size, 0, none⟩) (by dsimp only; omega)).trans k0; have v0 := (hb.cell (p := ⟨0, 0, none⟩) (by dsimp only; omega)).trans v0; have v1 := (hb.cell (p := ⟨0, 1, none⟩) (by dsimp only; omega)).trans v1; have q0 := (hb.cell (p := ⟨w6.heap.size, 0, none⟩) (by dsimp only; omega)).trans q0; have q1 := (hb.cell (p := ⟨w6.heap.size, 1, none⟩) (by dsimp only; omega)).trans q1; have q2 := (hb.cell (p := ⟨w6.heap.size, 2, none⟩) (by dsimp only; omega)).trans q2; have q3 := (hb.cell (p := ⟨w6.heap.size, 3, none⟩) (by dsimp only; omega)).trans q3; clear hb))
  all_goals
    have D9 := Lib.hid (show Below w.heap.size w u2 from DX.out.trans (N2.out.mono (by omega)))
    have k1 := (N2.out.cell (p := ⟨w.heap.size + 1, 0, none⟩) (by dsimp only; omega)).trans k1
    have f1 := (N2.out.frozen (p := ⟨w.heap.size + 1, 0, none⟩) (by dsimp only; omega)).trans f1
    have q4 := (N2.out.cell (p := ⟨w6.heap.size, 4, none⟩) (by dsimp only; omega)).trans q4
    have q5 := (N2.out.cell (p := ⟨w6.heap.size, 5, none⟩) (by dsimp only; omega)).trans q5
    have q6 := (N2.out.cell (p := ⟨w6.heap.size, 6, none⟩) (by dsimp only; omega)).trans q6
    have q7 := (N2.out.cell (p := ⟨w6.heap.size, 7, none⟩) (by dsimp only; omega)).trans q7
    clear TE FE1 FE2 DT1 DT2 N1 N2
    have BO := Lib.hid (builderOf_impl A n c T u2 (HT.out.into D9.out) (HV.out.below D9.out h0.1) IS.out)
    go_wp2_with fail
    refine BO.out.mono ?_
    rintro e y1 ⟨bb, mb, A1, c1, rs1, rfl, ⟨g1, g2⟩, hB2, hV2, hM2, hb⟩
    have k1 := (hb.cell (p := ⟨w.heap.size + 1, 0, none⟩) (by dsimp only; omega)).trans k1
    have f1 := (hb.frozen (p := ⟨w.heap.size + 1, 0, none⟩) (by dsimp only; omega)).trans f1
    have q0 := (hb.cell (p := ⟨w6.heap.size, 0, none⟩) (by dsimp only; omega)).trans q0
    have q1 := (hb.cell (p := ⟨w6.heap.size, 1, none⟩) (by dsimp only; omega)).trans q1
    have q2 := (hb.cell (p := ⟨w6.heap.size, 2, none⟩) (by dsimp only; omega)).trans q2
    have q3 := (hb.cell (p := ⟨w6.heap.size, 3, none⟩) (by dsimp only; omega)).trans q3
    have q4 := (hb.cell (p := ⟨w6.heap.size, 4, none⟩) (by dsimp only; omega)).trans q4
    have q5 := (hb.cell (p := ⟨w6.heap.size, 5, none⟩) (by dsimp only; omega)).trans q5
    have q6 := (hb.cell (p := ⟨w6.heap.size, 6, none⟩) (by dsimp only; omega)).trans q6
    have q7 := (hb.cell (p := ⟨w6.heap.size, 7, none⟩) (by dsimp only; omega)).trans q7
    have E1 := Lib.hid (D9.out.trans (hb.mono (by omega)))
    have y1z : u2.heap.size ≤ y1.heap.size := hb.size
    have l4 : rs1.length = n := by rw [← Fc.vals_len, hV2, LN.out]
    have GL := Lib.hid (glue_impl bb mb A1 c1 rs1 a' f' b' g p' x0 x1 x2 x3 y1 (hB2.hold (Below.refl _ _)) hM2 g2 plt HX.out (by rw [hV2]; exact hF4) (by omega) flt (by omega) hg4)
    have zb := hB2.lt
    rw [hV2] at GL
    clear hb hB2 hV2 hM2 BO l4
    go_wp2_with fail
    refine GL.out.mono ?_
    rintro e y2 ⟨rfl, ⟨A2, c2, rs2, hB3, hV3⟩, hM3, hb⟩
    have k1 := (hb.cell (p := ⟨w.heap.size + 1, 0, none⟩) (by dsimp only; omega)).trans k1
    have f1 := (hb.frozen (p := ⟨w.heap.size + 1, 0, none⟩) (by dsimp only; omega)).trans f1
    have E2 := Lib.hid (E1.out.trans (hb.mono (by omega)))
    have B6 := Lib.hid hB3
    have V6 := Lib.hid hV3
    have y2z := hb.size
    have zb2 := hB3.lt
    clear hb hB3 hV3 hM3 GL q0 q1 q2 q3 q4 q5 q6 q7
    go_wp2_with fail
    refine (triang_impl bb mb A2 c2 rs2 y2 B6.out).mono ?_
    rintro e y3 ⟨rfl, hb⟩
    have k1 := (hb.cell (p := ⟨w.heap.size + 1, 0, none⟩) (by dsimp only; omega)).trans k1
    have f1 := (hb.frozen (p := ⟨w.heap.size + 1, 0, none⟩) (by dsimp only; omega)).trans f1
    have E3 := Lib.hid (E2.out.trans (hb.mono (by omega)))
    have B7 := Lib.hid (B6.out.below hb)
    clear hb
    go_wp2
    refine bodyPost_ret (v := .tuple #[.agg #[.slice A2 rs2.length c2], .int .i64 0]) (by simp [results, Tryd.results21, k1, go_sem]) rfl ?_
    rw [R.out.1, R.out.2]
    exact ⟨A2, c2, rs2, rfl, (B7.out.own.far (p := ⟨w.heap.size + 1, 0, none⟩) (.inl (by dsimp only; omega)) _).wide (by omega) (by simp [World.setCell]), V6.out, E3.out.setCell (by dsimp only; omega) _⟩

end Fc
end Go.Proofs.YtajbahfbldmckaaDoor

namespace Go.Proofs.YtajbahfbldmckaaDoor
open Go.RowKit Go.Shelf
namespace Fc
set_option maxRecDepth 100000 in
set_option maxHeartbeats 8000000 in
theorem l07Glue_spec (lo hi : Nat) (A : Option Addr) (c n : Nat) (rs : List Rw) (a f b p g : Nat) (w : World) (h : OwnS w lo hi A c rs) (hln : rs.length = n) (hhi : hi ≤ w.heap.size) (h4 : Tr.Four (vals rs)) (ha : a < n) (hf : f < 4) (hb : b < n) (hp : p < 24) (hg : (P4.im p).getD f 0 = (g : Int)) (hg4 : g < 4) :
    Calls Tryd.prog 58 #[.agg #[.slice A n c], .int .i64 (a : Int), .int .i64 (f : Int), .int .i64 (b : Int), .int .i64 (p : Int)] w fun e w' => e = .returned (.tuple #[]) ∧ (∃ rs', rs'.length = n ∧ OwnS w' lo hi A c rs' ∧ vals rs' = Tr.setF (Tr.setF (vals rs) a f (b : Int) (p : Int)) b g (a : Int) (P4.ivt p : Nat)) ∧ Kept lo hi w w' := by
  obtain ⟨U, hU⟩ : ∃ U, U = w.alloc (Obj.cells #[.slice A n c] 28) := ⟨_, rfl⟩
  have hB : Below w.heap.size w U := by rw [hU]; exact al1 w _
  have z : U.heap.size = w.heap.size + 1 := by rw [hU]; simp
  have r0 : U.cell? ⟨w.heap.size, 0, none⟩ = some (.slice A n c) := by rw [hU]; simp [go_sem]
  have OU := Lib.hid (h.below hB hhi)
  have KU := Lib.hid (Kept.of_below hB lo hi)
  have LN := Lib.hid hln
  have AT := Lib.hid (fun (W : World) => (show Calls Tryd.prog 57 #[.int .i64 (p : Int), .int .i64 (f : Int)] W (ResI W (g : Int)) from by have := at_spec p f W hp hf; rw [hg] at this; exact this))
  have BK := Lib.hid (fun (W : World) => back_spec p W hp)
  have ia0 : (0 : Int) ≤ (a : Int) := by omega
  have ia1 : (a : Int) < (n : Int) := by omega
  have if0 : (0 : Int) ≤ (f : Int) := by omega
  have if1 : (f : Int) < 4 := by omega
  have ib0 : (0 : Int) ≤ (b : Int) := by omega
  have ib1 : (b : Int) < (n : Int) := by omega
  have ig0 : (0 : Int) ≤ (g : Int) := by omega
  have ig1 : (g : Int) < 4 := by omega
  clear h hB hg
  obtain ⟨g1, gr, o, cr, _, rfl, hg1, hcc, hgr, hne, hcap, ⟨⟨u0, hu0⟩, ⟨u1, hu1⟩, hf0, hf1⟩, hset⟩ := OU.out.setFace (by omega) (j := a) (f := f) (by omega) (four_row h4 (by omega)) hf
  have SET := Lib.hid (hset (b : Int) (p : Int))
  clear hset hln
  go_enter Tryd.func58, Tryd.ntmps58
  go_upto_region 1 with fail
  rw [← hU]
  clear hU
  go_upto_region 2 with fail
  obtain ⟨W, hW⟩ : ∃ W, W = (U.setCell ⟨gr, o + f * 2, none⟩ (.int .i64 (b : Int))).setCell ⟨gr, o + f * 2 + 1, none⟩ (.int .i64 (p : Int)) := ⟨_, rfl⟩
  have zW : W.heap.size = U.heap.size := by rw [hW]; simp [World.setCell]
  have r0 : W.cell? ⟨w.heap.size, 0, none⟩ = some (.slice (some ⟨g1, 0, none⟩) n c) := by rw [hW]; exact cell_two r0 (by dsimp only; omega) (by dsimp only; omega)
  have KW := Lib.hid (show Kept lo hi w W from by rw [hW]; exact (KU.out.set_ hgr.1 hgr.2 _).set_ hgr.1 hgr.2 _)
  have OW0 := SET.out
  rw [← hW] at OW0
  rw [← hW]
  have hsl : (rs.set a ⟨some ⟨gr, o, none⟩, cr, ((rs.getD a nilRw).zs.set (f * 2) (b : Int)).set (f * 2 + 1) (p : Int)⟩).length = n := by rw [List.length_set]; exact LN.out
  have hvv : vals (rs.set a ⟨some ⟨gr, o, none⟩, cr, ((rs.getD a nilRw).zs.set (f * 2) (b : Int)).set (f * 2 + 1) (p : Int)⟩) = Tr.setF (vals rs) a f (b : Int) (p : Int) := vals_setF _ _ _ _ _ _ _
  obtain ⟨rs2, hrs2⟩ : ∃ rs2, rs.set a ⟨some ⟨gr, o, none⟩, cr, ((rs.getD a nilRw).zs.set (f * 2) (b : Int)).set (f * 2 + 1) (p : Int)⟩ = rs2 := ⟨_, rfl⟩
  rw [hrs2] at OW0 hsl hvv
  have OW := Lib.hid OW0
  have VW := Lib.hid hvv
  have LW := Lib.hid hsl
  have v4 : Tr.Four (vals rs2) := by rw [VW.out]; exact Tr.setF_four h4 _ _ _ _
  obtain ⟨lx, hlx⟩ : ∃ lx, rs2.length = lx := ⟨_, rfl⟩
  have hbl : b < rs2.length := by omega
  clear hrs2 OW0 hvv hW SET KU OU hcc hu0 hu1 hf0 hf1 hcap hne hgr hlx
  have B8 := four_row v4 hbl
  obtain ⟨g1', gr, o, cr, _, eA, hg1', hcc, hgr, hne, hcap, ⟨⟨u0, hu0⟩, ⟨u1, hu1⟩, hf0, hf1⟩, hset⟩ := OW.out.setFace (by omega) (j := b) (f := g) hbl B8 hg4
  injection eA with eA
  injection eA with eA
  subst eA
  have HBL := Lib.hid hbl
  clear hset hsl hbl
  have n1 : ¬ gr = w.heap.size := by omega
  have n2 : ¬ w.heap.size = gr := by omega
  have n5 : ¬ gr = g1 := by omega
  have n6 : ¬ g1 = gr := by omega
  go_region_held3 (fun Y => Y.cell? ⟨w.heap.size, 0, none⟩ = some (.slice (some ⟨g1, 0, none⟩) n c) ∧ Y.cell? ⟨g1, b, none⟩ = some (.slice (some ⟨gr, o, none⟩) 4 cr)) (go_keep)
    (first
      | (go_at_call 57; (with_reducible refine (AT.out _).mono ?_); rintro e w6 ⟨rfl, hb6'⟩; (first | have hb6 := undrew hb6' | have hb6 := hb6'); (first | have B6 := Lib.hid (show Below W.heap.size W w6 from hb6) | have B6 := Lib.hid (show Below W.heap.size W w6 from B7.out.trans (hb6.mono B7.out.size))); have z6 : W.heap.size ≤ w6.heap.size := B6.out.size; have y0 := (B6.out.cell (p := ⟨w.heap.size, 0, none⟩) (by dsimp only; omega)).trans r0; have y3 := (B6.out.cell (p := ⟨g1, b, none⟩) (by dsimp only; omega)).trans hcc; have y4 := (B6.out.cell (p := ⟨gr, o + g * 2, none⟩) (by dsimp only; omega)).trans hu0; have y5 := (B6.out.cell (p := ⟨gr, o + g * 2 + 1, none⟩) (by dsimp only; omega)).trans hu1; have y6 := (B6.out.frozen (p := ⟨gr, o + g * 2, none⟩) (by dsimp only; omega)).trans hf0; have y7 := (B6.out.frozen (p := ⟨gr, o + g * 2 + 1, none⟩) (by dsimp only; omega)).trans hf1; clear hb6 hb6')
      | (go_at_call 94; (with_reducible refine (BK.out _).mono ?_); rintro e w7 ⟨rfl, hb7'⟩; (first | have hb7 := undrew hb7' | have hb7 := hb7'); (first | have B7 := Lib.hid (show Below W.heap.size W w7 from hb7) | have B7 := Lib.hid (show Below W.heap.size W w7 from B6.out.trans (hb7.mono B6.out.size))); have z7 : W.heap.size ≤ w7.heap.size := B7.out.size; have y0 := (B7.out.cell (p := ⟨w.heap.size, 0, none⟩) (by dsimp only; omega)).trans r0; have y3 := (B7.out.cell (p := ⟨g1, b, none⟩) (by dsimp only; omega)).trans hcc; have y4 := (B7.out.cell (p := ⟨gr, o + g * 2, none⟩) (by dsimp only; omega)).trans hu0; have y5 := (B7.out.cell (p := ⟨gr, o + g * 2 + 1, none⟩) (by dsimp only; omega)).trans hu1; have y6 := (B7.out.frozen (p := ⟨gr, o + g * 2, none⟩) (by dsimp only; omega)).trans hf0; have y7 := (B7.out.frozen (p := ⟨gr, o + g * 2 + 1, none⟩) (by dsimp only; omega)).trans hf1; clear hb7 hb7'))
  all_goals
    go_wp2
    refine bodyPost_end (results_none rfl _ _ _) rfl ?_
    refine ⟨rfl, ⟨rs2.set b ⟨some ⟨gr, o, none⟩, cr, ((rs2.getD b nilRw).zs.set (g * 2) (a : Int)).set (g * 2 + 1) (P4.ivt p : Nat)⟩, by rw [List.length_set]; exact LW.out, ?_, by rw [vals_setF, VW.out]⟩, ?_⟩
    · first
        | exact (OW.out.below B6.out (by omega)).setFaceAt (by omega) HBL.out B8 hg4 rfl y3 _ _
        | exact (OW.out.below B7.out (by omega)).setFaceAt (by omega) HBL.out B8 hg4 rfl y3 _ _
    · first
        | exact ((KW.out.trans (Kept.of_below B6.out _ _)).set_ hgr.1 hgr.2 _).set_ hgr.1 hgr.2 _
        | exact ((KW.out.trans (Kept.of_below B7.out _ _)).set_ hgr.1 hgr.2 _).set_ hgr.1 hgr.2 _

end Fc
end Go.Proofs.YtajbahfbldmckaaDoor

namespace Go.Proofs.YtajbahfbldmckaaDoor
open Go.RowKit Go.Shelf
namespace Fc
set_option maxRecDepth 100000 in
set_option maxHeartbeats 8000000 in
theorem glueFaces_spec (A : Option Addr) (n c : Nat) (T : List (List Int)) (a f b p : Int) (w : World) (h : RdT w w.heap.size A n T) (hn : n ≤ 1048576) :
    Calls Tryd.prog 20 #[.agg #[.slice A n c], .int .i64 a, .int .i64 f, .int .i64 b, .int .i64 p] w (ResTC w (Tr.glT T a f b p) (Tr.glC T a f b p)) := by
  have LN := Lib.hid h.len
  have HT := Lib.hid h
  have TI := Lib.hid (fun (W : World) (hb : Below w.heap.size w W) => isTri_specT A n c T W (h.into hb) hn)
  clear h
  obtain ⟨U, hU⟩ : ∃ U, U = (w.alloc (Obj.cells #[.slice A n c] 28)).alloc (Obj.cells #[.slice none 0 0] 28) := ⟨_, rfl⟩
  have hB : Below w.heap.size w U := by rw [hU]; exact al2 w _ _
  have z : U.heap.size = w.heap.size + 2 := by rw [hU]; simp
  have k0 : U.cell? ⟨w.heap.size, 0, none⟩ = some (.slice A n c) := by rw [hU]; simp [go_sem]
  have k1 : U.cell? ⟨w.heap.size + 1, 0, none⟩ = some (.slice none 0 0) := by rw [hU]; simp [go_sem]
  have f1 : U.frozen? ⟨w.heap.size + 1, 0, none⟩ = false := by rw [hU]; simp [go_sem]
  have DU := Lib.hid hB
  clear hB
  go_enter Tryd.func20, Tryd.ntmps20
  go_upto_region 1 with fail
  rw [← hU]
  clear hU
  go_wp2_with fail
  refine (TI.out U DU.out).mono ?_
  rintro e w1 ⟨rfl, hb⟩
  have k0 := (hb.cell (p := ⟨w.heap.size, 0, none⟩) (by dsimp only; omega)).trans k0
  have k1 := (hb.cell (p := ⟨w.heap.size + 1, 0, none⟩) (by dsimp only; omega)).trans k1
  have f1 := (hb.frozen (p := ⟨w.heap.size + 1, 0, none⟩) (by dsimp only; omega)).trans f1
  have z1 : U.heap.size ≤ w1.heap.size := hb.size
  have D1 := Lib.hid (DU.out.trans (hb.mono (by omega)))
  clear hb TI DU
  by_cases hok : Tr.Is T
  case neg =>
    rw [decide_eq_false hok]
    have R := Lib.hid (Tr.gl_1 (a := a) (f := f) (b := b) (p := p) hok)
    clear hok
    go_wp2
    refine bodyPost_ret (v := .tuple #[.agg #[.slice none 0 0], .int .i64 1]) (by simp [results, Tryd.results20, k1, go_sem]) rfl ?_
    rw [R.out.1, R.out.2]
    exact ⟨none, 0, [], rfl, OwnS.nil _ _ _, rfl, D1.out.setCell (by dsimp only; omega) _⟩
  rw [decide_eq_true hok]
  have h8 : n ≤ 8 := by rw [← LN.out]; exact hok.1
  have IS := Lib.hid hok
  clear hok
  have i1 : IntKind.i64.wrap ((n : Int) - 1) = (n : Int) - 1 := IntWalk.i64_in _ (by omega)
  go_wp2_with fail
  refine (tets_spec A n c _).mono ?_
  rintro e w2 ⟨rfl, hb⟩
  have k0 := (hb.cell (p := ⟨w.heap.size, 0, none⟩) (by dsimp only; omega)).trans k0
  have k1 := (hb.cell (p := ⟨w.heap.size + 1, 0, none⟩) (by dsimp only; omega)).trans k1
  have f1 := (hb.frozen (p := ⟨w.heap.size + 1, 0, none⟩) (by dsimp only; omega)).trans f1
  have D2 := Lib.hid (D1.out.trans (hb.mono (by omega)))
  have z2 : w1.heap.size ≤ w2.heap.size := hb.size
  clear hb
  by_cases ha : 0 ≤ a ∧ a < n
  case neg =>
    have R := Lib.hid (Tr.gl_2 (a := a) (f := f) (b := b) (p := p) IS.out (by rw [LN.out]; exact fun e => ha e.1.1))
    go_wp2_with fail
    refine (in_spec_no a 0 ((n : Int) - 1) _ (by omega)).mono ?_
    rintro e w9 ⟨rfl, rfl⟩
    go_wp2
    refine bodyPost_ret (v := .tuple #[.agg #[.slice none 0 0], .int .i64 2]) (by simp [results, Tryd.results20, k1, go_sem]) rfl ?_
    rw [R.out.1, R.out.2]
    exact ⟨none, 0, [], rfl, OwnS.nil _ _ _, rfl, D2.out.setCell (by dsimp only; omega) _⟩
  by_cases hb : 0 ≤ b ∧ b < n
  case neg =>
    have R := Lib.hid (Tr.gl_2 (a := a) (f := f) (b := b) (p := p) IS.out (by rw [LN.out]; exact fun e => hb e.2.1))
    go_wp2_with fail
    refine (in_spec_yes a 0 ((n : Int) - 1) _ (by omega) (by omega)).mono ?_
    rintro e w9 ⟨rfl, rfl⟩
    go_wp2_with fail
    refine (in_spec_no b 0 ((n : Int) - 1) _ (by omega)).mono ?_
    rintro e w9 ⟨rfl, rfl⟩
    go_wp2
    refine bodyPost_ret (v := .tuple #[.agg #[.slice none 0 0], .int .i64 2]) (by simp [results, Tryd.results20, k1, go_sem]) rfl ?_
    rw [R.out.1, R.out.2]
    exact ⟨none, 0, [], rfl, OwnS.nil _ _ _, rfl, D2.out.setCell (by dsimp only; omega) _⟩
  by_cases hf : 0 ≤ f ∧ f < 4
  case neg =>
    have R := Lib.hid (Tr.gl_2 (a := a) (f := f) (b := b) (p := p) IS.out (by rw [LN.out]; exact fun e => hf e.1.2))
    go_wp2_with fail
    refine (in_spec_yes a 0 ((n : Int) - 1) _ (by omega) (by omega)).mono ?_
    rintro e w9 ⟨rfl, rfl⟩
    go_wp2_with fail
    refine (in_spec_yes b 0 ((n : Int) - 1) _ (by omega) (by omega)).mono ?_
    rintro e w9 ⟨rfl, rfl⟩
    go_wp2_with fail
    refine (in_spec_no f 0 3 _ (by omega)).mono ?_
    rintro e w9 ⟨rfl, rfl⟩
    go_wp2
    refine bodyPost_ret (v := .tuple #[.agg #[.slice none 0 0], .int .i64 2]) (by simp [results, Tryd.results20, k1, go_sem]) rfl ?_
    rw [R.out.1, R.out.2]
    exact ⟨none, 0, [], rfl, OwnS.nil _ _ _, rfl, D2.out.setCell (by dsimp only; omega) _⟩
  by_cases hp : 0 ≤ p ∧ p < 24
  case neg =>
    have R := Lib.hid (Tr.gl_2 (a := a) (f := f) (b := b) (p := p) IS.out (by rw [LN.out]; exact fun e => hp e.2.2))
    go_wp2_with fail
    refine (in_spec_yes a 0 ((n : Int) - 1) _ (by omega) (by omega)).mono ?_
    rintro e w9 ⟨rfl, rfl⟩
    go_wp2_with fail
    refine (in_spec_yes b 0 ((n : Int) - 1) _ (by omega) (by omega)).mono ?_
    rintro e w9 ⟨rfl, rfl⟩
    go_wp2_with fail
    refine (in_spec_yes f 0 3 _ (by omega) (by omega)).mono ?_
    rintro e w9 ⟨rfl, rfl⟩
    go_wp2_with fail
    refine (l06Valid_no p _ hp).mono ?_
    rintro e w9 ⟨rfl, rfl⟩
    go_wp2
    refine bodyPost_ret (v := .tuple #[.agg #[.slice none 0 0], .int .i64 2]) (by simp [results, Tryd.results20, k1, go_sem]) rfl ?_
    rw [R.out.1, R.out.2]
    exact ⟨none, 0, [], rfl, OwnS.nil _ _ _, rfl, D2.out.setCell (by dsimp only; omega) _⟩
  go_wp2_with fail
  refine (in_spec_yes a 0 ((n : Int) - 1) _ (by omega) (by omega)).mono ?_
  rintro e w9 ⟨rfl, rfl⟩
  go_wp2_with fail
  refine (in_spec_yes b 0 ((n : Int) - 1) _ (by omega) (by omega)).mono ?_
  rintro e w9 ⟨rfl, rfl⟩
  go_wp2_with fail
  refine (in_spec_yes f 0 3 _ (by omega) (by omega)).mono ?_
  rintro e w9 ⟨rfl, rfl⟩
  go_wp2_with fail
  refine (l06Valid_yes p _ hp.1 hp.2).mono ?_
  rintro e w9 ⟨rfl, rfl⟩
  obtain ⟨a', rfl⟩ := Int.eq_ofNat_of_zero_le ha.1
  have alt : a' < n := by omega
  obtain ⟨f', rfl⟩ := Int.eq_ofNat_of_zero_le hf.1
  have flt : f' < 4 := by omega
  obtain ⟨b', rfl⟩ := Int.eq_ofNat_of_zero_le hb.1
  have blt : b' < n := by omega
  obtain ⟨p', rfl⟩ := Int.eq_ofNat_of_zero_le hp.1
  have plt : p' < 24 := by omega
  have bounds : ((0 : Int) ≤ (a' : Int) ∧ (a' : Int) < (n : Int)) ∧ ((0 : Int) ≤ (b' : Int) ∧ (b' : Int) < (n : Int)) ∧ ((0 : Int) ≤ (f' : Int) ∧ (f' : Int) < 4) := by omega
  obtain ⟨⟨ia0, ia1⟩, ⟨ib0, ib1⟩, if0, if1⟩ := bounds
  clear ha hf hb hp
  obtain ⟨hgm, hg4⟩ := Tr.gm_cast plt flt
  obtain ⟨g, hgg⟩ : ∃ g, Tr.gm p' f' = g := ⟨_, rfl⟩
  rw [hgg] at hgm hg4
  have ig0 : (0 : Int) ≤ (g : Int) := by omega
  have ig1 : (g : Int) < 4 := by omega
  have AT := Lib.hid (fun (W : World) => (show Calls Tryd.prog 57 #[.int .i64 (p' : Int), .int .i64 (f' : Int)] W (ResI W (g : Int)) from by have := at_spec p' f' W plt flt; rw [hgm] at this; exact this))
  have GM := Lib.hid hgm
  clear hgm
  go_wp2_with fail
  refine (AT.out _).mono ?_
  rintro e w3 ⟨rfl, hb⟩
  have k0 := (hb.cell (p := ⟨w.heap.size, 0, none⟩) (by dsimp only; omega)).trans k0
  have k1 := (hb.cell (p := ⟨w.heap.size + 1, 0, none⟩) (by dsimp only; omega)).trans k1
  have f1 := (hb.frozen (p := ⟨w.heap.size + 1, 0, none⟩) (by dsimp only; omega)).trans f1
  have D3 := Lib.hid (D2.out.trans (hb.mono (by omega)))
  have z3 : w2.heap.size ≤ w3.heap.size := hb.size
  clear hb AT
  have hF4 := IS.out.2.1
  obtain ⟨bl, off, gi, oi, cj, eA, hbl, hgl, hcR, hc4, hcm, c0, c1⟩ := (HT.out.below D3.out).face alt flt (hF4 a' (by rw [LN.out]; exact alt))
  obtain ⟨bl', off', gj, oj, ck, eA', hbl', hgl', hcS, hd4, hdm, d0, d1⟩ := (HT.out.below D3.out).face blt hg4 (hF4 b' (by rw [LN.out]; exact blt))
  subst eA
  injection eA' with eA'
  injection eA' with e1 e2 e3
  subst e1
  subst e2
  clear e3
  obtain ⟨t1, ht1⟩ : ∃ t, Tr.tt T a' f' = t := ⟨_, rfl⟩
  have BD1 : Tr.Bd T a' f' ↔ t1 < 0 := by rw [← ht1]; exact IS.out.bd_iff (by rw [LN.out]; exact alt) flt
  obtain ⟨t2, ht2⟩ : ∃ t, Tr.tt T b' g = t := ⟨_, rfl⟩
  have BD2 : Tr.Bd T b' g ↔ t2 < 0 := by rw [← ht2]; exact IS.out.bd_iff (by rw [LN.out]; exact blt) hg4
  rw [ht1] at c0
  rw [ht2] at d0
  clear c1 d1
  by_cases hb1 : t1 < 0
  case neg =>
    have R := Lib.hid (Tr.gl_5 (T := T) (a := a') (f := f') (b := b') (p := p') IS.out (by rw [LN.out]; exact alt) flt (by rw [LN.out]; exact blt) plt (.inr (.inl (fun e => hb1 (BD1.1 e)))))
    have x1 : decide (0 ≤ t1) = true := by simp; omega
    clear hb1 BD1 BD2
    go_wp2
    refine bodyPost_ret (v := .tuple #[.agg #[.slice none 0 0], .int .i64 5]) (by simp [results, Tryd.results20, k1, go_sem]) rfl ?_
    rw [R.out.1, R.out.2]
    exact ⟨none, 0, [], rfl, OwnS.nil _ _ _, rfl, D3.out.setCell (by dsimp only; omega) _⟩
  have x1 : decide (0 ≤ t1) = false := by simp; omega
  by_cases hb2 : t2 < 0
  case neg =>
    have R := Lib.hid (Tr.gl_5 (T := T) (a := a') (f := f') (b := b') (p := p') IS.out (by rw [LN.out]; exact alt) flt (by rw [LN.out]; exact blt) plt (.inr (.inr (by rw [hgg]; exact fun e => hb2 (BD2.1 e)))))
    have x2 : decide (0 ≤ t2) = true := by simp; omega
    clear hb1 hb2 BD1 BD2
    go_wp2
    refine bodyPost_ret (v := .tuple #[.agg #[.slice none 0 0], .int .i64 5]) (by simp [results, Tryd.results20, k1, go_sem]) rfl ?_
    rw [R.out.1, R.out.2]
    exact ⟨none, 0, [], rfl, OwnS.nil _ _ _, rfl, D3.out.setCell (by dsimp only; omega) _⟩
  have x2 : decide (0 ≤ t2) = false := by simp; omega
  by_cases hs : a' = b' ∧ f' = g
  · have R := Lib.hid (Tr.gl_5 (T := T) (a := a') (f := f') (b := b') (p := p') IS.out (by rw [LN.out]; exact alt) flt (by rw [LN.out]; exact blt) plt (.inl (by rw [hgg]; exact hs)))
    have x3 : ((a' : Int) == (b' : Int)) = true := by simp; omega
    have x4 : ((f' : Int) == (g : Int)) = true := by simp; omega
    obtain ⟨hs1, hs2⟩ := hs
    have HH := Lib.hid hs1
    have HH2 := Lib.hid hs2
    clear hs1 hs2 hb1 hb2 BD1 BD2
    go_wp2
    refine bodyPost_ret (v := .tuple #[.agg #[.slice none 0 0], .int .i64 5]) (by simp [results, Tryd.results20, k1, go_sem]) rfl ?_
    rw [R.out.1, R.out.2]
    exact ⟨none, 0, [], rfl, OwnS.nil _ _ _, rfl, D3.out.setCell (by dsimp only; omega) _⟩
  have R := Lib.hid (Tr.gl_0 (T := T) (a := a') (f := f') (b := b') (p := p') IS.out (by rw [LN.out]; exact alt) flt (by rw [LN.out]; exact blt) plt (by rw [hgg]; intro e; rcases e with e | e | e; exact hs e; exact e (BD1.2 hb1); exact e (BD2.2 hb2)))
  rw [hgg] at R
  have OS := Lib.hid (own_spec _ n c T w3 (HT.out.into D3.out) h8 IS.out.2.1)
  clear hb1 hb2 BD1 BD2 hgg ht1 ht2
  by_cases hab : a' = b'
  all_goals
    first
      | (have x3 : ((a' : Int) == (b' : Int)) = true := (by simp; omega); have x4 : ((f' : Int) == (g : Int)) = false := (by simp; omega); have HH := Lib.hid hab; clear hab hs)
      | (have x3 : ((a' : Int) == (b' : Int)) = false := (by simp; omega); have HH := Lib.hid hab; clear hab hs)
    go_wp2_with fail
    refine OS.out.mono ?_
    rintro e w4 ⟨A1, c2, rs1, rfl, hO, hV1, hb⟩
    have k1 := (hb.cell (p := ⟨w.heap.size + 1, 0, none⟩) (by dsimp only; omega)).trans k1
    have f1 := (hb.frozen (p := ⟨w.heap.size + 1, 0, none⟩) (by dsimp only; omega)).trans f1
    have D4 := Lib.hid (D3.out.trans (hb.mono (by omega)))
    have z4 : w3.heap.size ≤ w4.heap.size := hb.size
    have O4 := Lib.hid hO
    have V4 := Lib.hid hV1
    have L4 := Lib.hid (show rs1.length = n from by rw [← Fc.vals_len, hV1, LN.out])
    clear hb hO hV1 OS c0 d0 hcR hcS
    have l4 := L4.out
    obtain ⟨V, hV⟩ : ∃ V, V = w4.alloc (Obj.cells #[.slice A1 n c2] 28) := ⟨_, rfl⟩
    have zV : V.heap.size = w4.heap.size + 1 := by rw [hV]; simp
    have BV := Lib.hid (show Below w4.heap.size w4 V from by rw [hV]; exact al1 _ _)
    have r0 : V.cell? ⟨w4.heap.size, 0, none⟩ = some (.slice A1 n c2) := by rw [hV]; simp [go_sem]
    go_upto_region 10 with fail
    rw [← hV]
    have k1 := (BV.out.cell (p := ⟨w.heap.size + 1, 0, none⟩) (by dsimp only; omega)).trans k1
    have f1 := (BV.out.frozen (p := ⟨w.heap.size + 1, 0, none⟩) (by dsimp only; omega)).trans f1
    have DV := Lib.hid (D4.out.trans (BV.out.mono (by omega)))
    have OV := Lib.hid (O4.out.below BV.out (Nat.le_refl _))
    have GL := Lib.hid (l07Glue_spec w3.heap.size w4.heap.size A1 c2 n rs1 a' f' b' p' g V OV.out l4 (by omega) (by rw [V4.out]; exact hF4) alt flt blt plt GM.out hg4)
    rw [V4.out] at GL
    clear hV BV D4 O4 OV l4
    go_wp2_with fail
    refine GL.out.mono ?_
    rintro e w5 ⟨rfl, ⟨rs2, hl2, hO2, hV2⟩, hk⟩
    have k1 := (World.cell?_of_block (a := ⟨w.heap.size + 1, 0, none⟩) (hk.block (w.heap.size + 1) (by omega) (by omega))).trans k1
    have f1 := (World.frozen?_of_block (a := ⟨w.heap.size + 1, 0, none⟩) (hk.block (w.heap.size + 1) (by omega) (by omega))).trans f1
    have r0 := (World.cell?_of_block (a := ⟨w4.heap.size, 0, none⟩) (hk.block (w4.heap.size) (by omega) (by omega))).trans r0
    have D5 := Lib.hid (DV.out.trans (hk.below (B := w.heap.size) (by omega) (by omega)))
    have z5 := hk.size
    have O5 := Lib.hid hO2
    have V5 := Lib.hid hV2
    have L5 := Lib.hid hl2
    clear hk hO2 hV2 hl2 GL DV
    go_wp2
    refine bodyPost_ret (v := .tuple #[.agg #[.slice A1 n c2], .int .i64 0]) (by simp [results, Tryd.results20, k1, go_sem]) rfl ?_
    rw [R.out.1, R.out.2]
    have l9 := L5.out
    subst l9
    exact ⟨_, c2, rs2, rfl, (O5.out.far (p := ⟨w.heap.size + 1, 0, none⟩) (.inl (by dsimp only; omega)) _).wide (by omega) (by simp [World.setCell]; omega), V5.out, D5.out.setCell (by dsimp only; omega) _⟩

end Fc
end Go.Proofs.YtajbahfbldmckaaDoor

namespace Go.Proofs.YtajbahfbldmckaaDoor
open Go Go.ChangeShapes Go.WideShapes Go.ChangeAt Go.RowKit

/-- A box of one cell. -/
structure Box1 (w : World) (b : Nat) (x : Value) : Prop where
  c : w.cell? ⟨b, 0, none⟩ = some x
theorem Box1.below {w w' : World} {b : Nat} {x : Value} {B : Nat} (h : Box1 w b x) (hb : Below B w w') (hg : b < B) : Box1 w' b x := ⟨(hb.cell (p := ⟨b, 0, none⟩) hg).trans h.c⟩
theorem Box1.new (w : World) (t : TypeId) (x : Value) : Box1 (w.alloc (.cells #[x] t)) w.heap.size x := ⟨by simp [go_sem]⟩
theorem Box1.kept {w w' : World} {lo hi b : Nat} {x : Value} (h : Box1 w b x) (hk : Kept lo hi w w') (hg : b < w.heap.size) (hn : ¬ (lo ≤ b ∧ b < hi)) : Box1 w' b x := ⟨(World.cell?_of_block (a := ⟨b, 0, none⟩) (hk.block b hg hn)).trans h.c⟩
theorem Box1.set_ {W : World} {b : Nat} {x u : Value} (h : Box1 W b x) : Box1 (W.setCell ⟨b, 0, none⟩ u) b u := ⟨by simp [h.c, go_sem]⟩

/-- An answer of at most eight tetrahedra. -/
def Fc.Szd (T : List (List Int)) : Prop := T.length ≤ 8 ∧ ∀ z ∈ T, z.length ≤ 8
theorem Fc.Szd.nil : Fc.Szd [] := ⟨by simp, by simp⟩
theorem Fc.Szd.len {T : List (List Int)} {rs : List Fc.Rw} (h : Fc.Szd T) (hv : Fc.vals rs = T) : rs.length ≤ 1048576 := by have := h.1; rw [← hv, Fc.vals_len] at this; omega
theorem Fc.Szd.row0 {T : List (List Int)} {rs : List Fc.Rw} (h : Fc.Szd T) (hv : Fc.vals rs = T) : ∀ r ∈ rs, r.zs.length ≤ 8 := fun r hr => h.2 _ (by rw [← hv]; exact List.mem_map_of_mem hr)
theorem Fc.Szd.row {T : List (List Int)} {rs : List Fc.Rw} (h : Fc.Szd T) (hv : Fc.vals rs = T) : ∀ r ∈ rs, r.zs.length / 2 ≤ 1048576 := fun r hr => by have := h.row0 hv r hr; omega
theorem Fc.tot_le8 : ∀ rs : List Fc.Rw, (∀ r ∈ rs, r.zs.length ≤ 8) → Fc.tot rs ≤ 8 * rs.length
  | [], _ => by simp [Fc.tot]
  | r :: rs, h => by
    have h1 := h r (List.mem_cons_self ..)
    have h2 := tot_le8 rs fun q hq => h q (List.mem_cons_of_mem _ hq)
    simp only [Fc.tot, List.length_cons]
    omega
theorem Fc.Szd.tot {T : List (List Int)} {rs : List Fc.Rw} (h : Fc.Szd T) (hv : Fc.vals rs = T) : rs.length + Fc.tot rs ≤ 2097152 := by
  have h1 := Fc.tot_le8 rs (h.row0 hv)
  have h2 := h.1
  rw [← hv, Fc.vals_len] at h2
  omega

theorem Tr.Four.mem {T : List (List Int)} (h : Tr.Four T) {z : List Int} (hz : z ∈ T) : z.length = 8 := by
  obtain ⟨i, hi, rfl⟩ := List.getElem_of_mem hz
  have := h i hi
  rwa [List.getD_eq_getElem?_getD, List.getElem?_eq_getElem hi] at this
theorem Tr.Is.szd {T : List (List Int)} (h : Tr.Is T) : Fc.Szd T := ⟨h.1, fun _ hz => Nat.le_of_eq (Tr.Four.mem h.2.1 hz)⟩

end Go.Proofs.YtajbahfbldmckaaDoor

namespace Go.Proofs.YtajbahfbldmckaaDoor
open Go Go.ChangeShapes Go.WideShapes Go.ChangeAt Go.RowKit

set_option maxRecDepth 100000 in
set_option maxHeartbeats 16000000 in
theorem exactGlueFaces (Aa : Option Addr) (ca : Nat) (rsa : List Fc.Rw) (sa : Int) (sf : Int) (sb : Int) (sp : Int) (tz : List (List Int)) (code : Int) (w : World) (ha : Fc.RdS w w.heap.size Aa rsa) (hna : rsa.length + Fc.cnt rsa ≤ 1048576) (hz : Fc.Szd tz)
    (hs : ∀ (W : World) (A : Option Addr) (c : Nat) (qs : List Fc.Rw), Fc.RdS W W.heap.size A qs → Fc.vals qs = Fc.vals rsa → Below w.heap.size w W → Calls Tryd.prog 20 #[.agg #[.slice A qs.length c], .int .i64 sa, .int .i64 sf, .int .i64 sb, .int .i64 sp] W (Fc.ResTC W tz code))
    (hi : ∀ (W : World) (A : Option Addr) (c : Nat) (qs : List Fc.Rw), Fc.RdS W W.heap.size A qs → Fc.vals qs = Fc.vals rsa → Below w.heap.size w W → Calls Tryd.prog 21 #[.agg #[.slice A qs.length c], .int .i64 sa, .int .i64 sf, .int .i64 sb, .int .i64 sp] W (Fc.ResTC W tz code)) :
    Calls Tryd.prog 4 #[.agg #[.slice Aa rsa.length ca], .int .i64 sa, .int .i64 sf, .int .i64 sb, .int .i64 sp] w fun e w' => e = .returned (.bool true) ∧ Below w.heap.size w w' := by
  have HS := Lib.hid hs
  have HI := Lib.hid hi
  clear hs hi
  have HB := Lib.hid (Below.refl w.heap.size w)
  have Ha := Lib.hid ha
  have HZ := Lib.hid hz
  clear ha hz
  have hnl : rsa.length ≤ 1048576 := by omega
  have hml : rsa.length ≤ maxLen := Nat.le_trans hnl (by unfold maxLen; omega)
  have ROW := Lib.hid (show ∀ r ∈ rsa, r.zs.length / 2 ≤ 1048576 from fun r hr => by have := Fc.row_le_cnt hr; omega)
  have EV := Lib.hid (show ∀ r ∈ rsa, r.zs.length % 2 = 0 from fun r hr => (Ha.out.1 r hr).le.2)
  have TT := Lib.hid (show Fc.tot rsa = 2 * Fc.cnt rsa from Fc.tot_cnt EV.out)
  have tl0 : decide ((1048576 : Int) - (rsa.length : Int) - (Fc.cnt rsa : Int) < 0) = false := by simp; omega
  go_enter Tryd.func4, Tryd.ntmps4
  go_wp2_with fail
  refine (Fc.szT_any Aa ca rsa _ _ (Ha.out.into (al1 _ _)) hml (by omega) (by omega)).mono ?_
  rintro e w1 ⟨rfl, hb⟩
  rw [if_neg (by omega)]
  have D1 := Lib.hid (on1 _ hb)
  have s1 : w.heap.size + 1 ≤ w1.heap.size := by have := hb.size; (try simp at this); omega
  have aa_1 := Lib.hid ((Box1.new w 24 (.slice Aa rsa.length ca)).below hb (by simp))
  have HB1 := Lib.hid (HB.out.trans (D1.out.mono (by omega)))
  clear HB
  have HB := HB1
  clear HB1 hb
  have z_aa : w.heap.size < w1.heap.size := by omega
  obtain ⟨qaa0⟩ := aa_1.out
  go_wp2_with fail
  refine (Fc.toT_any Aa ca rsa _ (Ha.out.into HB.out) hnl ROW.out).mono ?_
  rintro e w2 ⟨g2, c2, rs2, rfl, hk, hv, hb⟩
  clear qaa0
  have X2_2 := Lib.hid (hk.wide (lo' := w1.heap.size) (hi' := w2.heap.size) (by simp) (Nat.le_refl _))
  have V2 := Lib.hid hv
  clear hk hv
  have D2 := Lib.hid (hb)
  have s2 : w1.heap.size + 0 ≤ w2.heap.size := by have := hb.size; (try simp at this); omega
  have aa_2 := Lib.hid (aa_1.out.below D2.out (by omega))
  clear aa_1
  have HB2 := Lib.hid (HB.out.trans (D2.out.mono (by omega)))
  clear HB
  have HB := HB2
  clear HB2 hb
  clear z_aa
  have z_aa : w.heap.size < w2.heap.size := by omega
  obtain ⟨qaa0⟩ := aa_2.out
  go_wp2_with fail
  refine (HS.out _ _ _ _ (X2_2.out.rd.more (by (try simp) <;> omega)) V2.out HB.out).mono ?_
  rintro e w3 ⟨R3, t3, rs3, rfl, hown, hv, hb⟩
  clear qaa0
  have Y3_3 := Lib.hid (hown.wide (lo' := w2.heap.size) (hi' := w3.heap.size) (by simp) (Nat.le_refl _))
  have V3 := Lib.hid hv
  clear hown hv
  have D3 := Lib.hid (hb)
  have s3 : w2.heap.size + 0 ≤ w3.heap.size := by have := hb.size; (try simp at this); omega
  have aa_3 := Lib.hid (aa_2.out.below D3.out (by omega))
  clear aa_2
  have X2_3 := Lib.hid (X2_2.out.below D3.out (by omega))
  clear X2_2
  have HB3 := Lib.hid (HB.out.trans (D3.out.mono (by omega)))
  clear HB
  have HB := HB3
  clear HB3 hb
  clear z_aa
  have z_aa : w.heap.size < w3.heap.size := by omega
  clear X2_3
  as_aux_lemma =>
    obtain ⟨qaa0⟩ := aa_3.out
    go_wp2_with fail
    refine (Fc.toT_any Aa ca rsa _ (Ha.out.into (HB.out.trans ((al1 _ _).mono (by omega)))) hnl ROW.out).mono ?_
    rintro e w4 ⟨g4, c4, rs4, rfl, hk, hv, hb⟩
    clear qaa0
    have X4_4 := Lib.hid (hk.wide (lo' := w3.heap.size + 1) (hi' := w4.heap.size) (by simp) (Nat.le_refl _))
    have V4 := Lib.hid hv
    clear hk hv
    have D4 := Lib.hid (on1 _ hb)
    have s4 : w3.heap.size + 1 ≤ w4.heap.size := by have := hb.size; (try simp at this); omega
    have aa_4 := Lib.hid (aa_3.out.below D4.out (by omega))
    clear aa_3
    have bw_4 := Lib.hid ((Box1.new w3 28 (.slice R3 rs3.length t3)).below hb (by simp))
    have Y3_4 := Lib.hid (Y3_3.out.below D4.out (by omega))
    clear Y3_3
    have HB4 := Lib.hid (HB.out.trans (D4.out.mono (by omega)))
    clear HB
    have HB := HB4
    clear HB4 hb
    clear z_aa
    have z_aa : w.heap.size < w4.heap.size := by omega
    have z_bw : w3.heap.size < w4.heap.size := by omega
    obtain ⟨qaa0⟩ := aa_4.out
    obtain ⟨qbw0⟩ := bw_4.out
    go_wp2_with fail
    refine (HI.out _ _ _ _ ((X4_4.out.al (by omega) (al1 _ _)).rd.more (by (try simp) <;> omega)) V4.out (HB.out.trans ((al1 _ _).mono (by omega)))).mono ?_
    rintro e w5 ⟨R5, t5, rs5, rfl, hown, hv, hb⟩
    clear qaa0 qbw0
    have Y5_5 := Lib.hid (hown.wide (lo' := w4.heap.size + 1) (hi' := w5.heap.size) (by simp) (Nat.le_refl _))
    have V5 := Lib.hid hv
    clear hown hv
    have D5 := Lib.hid (on1 _ hb)
    have s5 : w4.heap.size + 1 ≤ w5.heap.size := by have := hb.size; (try simp at this); omega
    have aa_5 := Lib.hid (aa_4.out.below D5.out (by omega))
    clear aa_4
    have bw_5 := Lib.hid (bw_4.out.below D5.out (by omega))
    clear bw_4
    have bx_5 := Lib.hid ((Box1.new w4 28 (.slice (some ⟨g4, 0, none⟩) rs4.length c4)).below hb (by simp))
    have Y3_5 := Lib.hid (Y3_4.out.below D5.out (by omega))
    clear Y3_4
    have X4_5 := Lib.hid (X4_4.out.below D5.out (by omega))
    clear X4_4
    have HB5 := Lib.hid (HB.out.trans (D5.out.mono (by omega)))
    clear HB
    have HB := HB5
    clear HB5 hb
    clear z_aa
    have z_aa : w.heap.size < w5.heap.size := by omega
    clear z_bw
    have z_bw : w3.heap.size < w5.heap.size := by omega
    have z_bx : w4.heap.size < w5.heap.size := by omega
    obtain ⟨qaa0⟩ := aa_5.out
    obtain ⟨qbw0⟩ := bw_5.out
    obtain ⟨qbx0⟩ := bx_5.out
    go_wp2_with fail
    refine (Fc.eqT_any _ _ _ _ rs5 rs3 (w5.heap.size) (w3.heap.size) _ (Y5_5.out.al (by omega) (al1 _ _)).rd (Y3_5.out.al (by omega) (al1 _ _)).rd (V5.out.trans V3.out.symm) (by (try simp) <;> omega) (by (try simp) <;> omega) (HZ.out.len V5.out) (HZ.out.row V5.out)).mono ?_
    rintro e w6 ⟨rfl, hb⟩
    clear qaa0 qbw0 qbx0
    have D6 := Lib.hid (on1 _ hb)
    have s6 : w5.heap.size + 1 ≤ w6.heap.size := by have := hb.size; (try simp at this); omega
    have aa_6 := Lib.hid (aa_5.out.below D6.out (by omega))
    clear aa_5
    have bw_6 := Lib.hid (bw_5.out.below D6.out (by omega))
    clear bw_5
    have bx_6 := Lib.hid (bx_5.out.below D6.out (by omega))
    clear bx_5
    have bg_6 := Lib.hid ((Box1.new w5 28 (.slice R5 rs5.length t5)).below hb (by simp))
    have Y3_6 := Lib.hid (Y3_5.out.below D6.out (by omega))
    clear Y3_5
    have X4_6 := Lib.hid (X4_5.out.below D6.out (by omega))
    clear X4_5
    have Y5_6 := Lib.hid (Y5_5.out.below D6.out (by omega))
    clear Y5_5
    have HB6 := Lib.hid (HB.out.trans (D6.out.mono (by omega)))
    clear HB
    have HB := HB6
    clear HB6 hb
    clear z_aa
    have z_aa : w.heap.size < w6.heap.size := by omega
    clear z_bw
    have z_bw : w3.heap.size < w6.heap.size := by omega
    clear z_bx
    have z_bx : w4.heap.size < w6.heap.size := by omega
    have z_bg : w5.heap.size < w6.heap.size := by omega
    as_aux_lemma =>
      obtain ⟨qaa0⟩ := aa_6.out
      obtain ⟨qbw0⟩ := bw_6.out
      obtain ⟨qbx0⟩ := bx_6.out
      obtain ⟨qbg0⟩ := bg_6.out
      go_wp2_with fail
      go_region_held3 (fun W => (W.cell? ⟨w4.heap.size, 0, none⟩ = some (.slice (some ⟨g4, 0, none⟩) rs4.length c4)) ∧ (W.cell? ⟨w.heap.size, 0, none⟩ = some (.slice Aa rsa.length ca))) (go_keep)
        (first
          | (go_at_call 15; (with_reducible refine (Fc.toT_any Aa ca rsa _ (by exact Ha.out.into HB.out.drew) hnl ROW.out).mono ?_); rintro e w7 ⟨g7, c7, rs7, rfl, hk6, hv6, hb6'⟩; have hb6 := undrew hb6'; have K6 := Lib.hid hk6; have B6 := Lib.hid hb6; have V6 := Lib.hid hv6; have z6 := hb6.size; have e0 := (hb6.cell (p := ⟨w4.heap.size, 0, none⟩) (by dsimp only; omega)).trans bx_6.out.c; have f0 := (hb6.cell (p := ⟨w.heap.size, 0, none⟩) (by dsimp only; omega)).trans aa_6.out.c; clear hk6 hv6 hb6 hb6')
          | (go_at_call 17; (with_reducible refine (Fc.eqT_any _ _ _ _ rs4 _ (w4.heap.size) _ _ (by exact X4_6.out.rd.below (B6.out.mono (by omega))) (by exact K6.out.rd) (V4.out.trans V6.out.symm) (by have := B6.out.size; omega) (Nat.le_refl _) (by have := Fc.vals_same V4.out; omega) (Fc.rows_same V4.out ROW.out)).mono ?_); rintro e w8 ⟨rfl, hb7⟩; have m0 := (hb7.cell (p := ⟨w4.heap.size, 0, none⟩) (by dsimp only; omega)).trans e0; have y0 := (hb7.cell (p := ⟨w.heap.size, 0, none⟩) (by dsimp only; omega)).trans f0))
      clear e0 f0 m0 y0 K6 V6
      clear qaa0 qbw0 qbx0 qbg0
      have hb6 := B6.out
      clear B6
      have D7 := Lib.hid (hb6)
      have s7 : w6.heap.size + 0 ≤ w7.heap.size := by have := hb6.size; (try simp at this); omega
      have aa_7 := Lib.hid (aa_6.out.below D7.out (by omega))
      clear aa_6
      have bw_7 := Lib.hid (bw_6.out.below D7.out (by omega))
      clear bw_6
      have bx_7 := Lib.hid (bx_6.out.below D7.out (by omega))
      clear bx_6
      have bg_7 := Lib.hid (bg_6.out.below D7.out (by omega))
      clear bg_6
      have Y3_7 := Lib.hid (Y3_6.out.below D7.out (by omega))
      clear Y3_6
      have X4_7 := Lib.hid (X4_6.out.below D7.out (by omega))
      clear X4_6
      have Y5_7 := Lib.hid (Y5_6.out.below D7.out (by omega))
      clear Y5_6
      have HB7 := Lib.hid (HB.out.trans (D7.out.mono (by omega)))
      clear HB
      have HB := HB7
      clear HB7 hb6
      clear z_aa
      have z_aa : w.heap.size < w7.heap.size := by omega
      clear z_bw
      have z_bw : w3.heap.size < w7.heap.size := by omega
      clear z_bx
      have z_bx : w4.heap.size < w7.heap.size := by omega
      clear z_bg
      have z_bg : w5.heap.size < w7.heap.size := by omega
      have D8 := Lib.hid (hb7)
      have s8 : w7.heap.size + 0 ≤ w8.heap.size := by have := hb7.size; (try simp at this); omega
      have aa_8 := Lib.hid (aa_7.out.below D8.out (by omega))
      clear aa_7
      have bw_8 := Lib.hid (bw_7.out.below D8.out (by omega))
      clear bw_7
      have bx_8 := Lib.hid (bx_7.out.below D8.out (by omega))
      clear bx_7
      have bg_8 := Lib.hid (bg_7.out.below D8.out (by omega))
      clear bg_7
      have Y3_8 := Lib.hid (Y3_7.out.below D8.out (by omega))
      clear Y3_7
      have X4_8 := Lib.hid (X4_7.out.below D8.out (by omega))
      clear X4_7
      have Y5_8 := Lib.hid (Y5_7.out.below D8.out (by omega))
      clear Y5_7
      have HB8 := Lib.hid (HB.out.trans (D8.out.mono (by omega)))
      clear HB
      have HB := HB8
      clear HB8 hb7
      clear z_aa
      have z_aa : w.heap.size < w8.heap.size := by omega
      clear z_bw
      have z_bw : w3.heap.size < w8.heap.size := by omega
      clear z_bx
      have z_bx : w4.heap.size < w8.heap.size := by omega
      clear z_bg
      have z_bg : w5.heap.size < w8.heap.size := by omega
      as_aux_lemma =>
        obtain ⟨qaa0⟩ := aa_8.out
        obtain ⟨qbw0⟩ := bw_8.out
        obtain ⟨qbx0⟩ := bx_8.out
        obtain ⟨qbg0⟩ := bg_8.out
        go_wp2_with fail
        have tx := Fc.tot_vals V4.out
        have lx := Fc.vals_same V4.out
        have tt2 := TT.out
        refine (Fc.markT_any (some ⟨g4, 0, none⟩) c4 1 rs4 (w3.heap.size + 1) (w4.heap.size) _ X4_8.out (by omega) (by omega) (by omega) (by omega)).mono ?_
        rintro e w9 ⟨rfl, hown, hk⟩
        have TX := Lib.hid (show Fc.tot rs4 ≤ 2097152 from by omega)
        clear X4_8 hown lx tx tt2
        clear qaa0 qbw0 qbx0 qbg0
        have D9 := Lib.hid (hk)
        have s9 : w8.heap.size ≤ w9.heap.size := hk.size
        have aa_9 := Lib.hid (aa_8.out.kept D9.out (by omega) (by omega))
        clear aa_8
        have bw_9 := Lib.hid (bw_8.out.kept D9.out (by omega) (by omega))
        clear bw_8
        have bx_9 := Lib.hid (bx_8.out.kept D9.out (by omega) (by omega))
        clear bx_8
        have bg_9 := Lib.hid (bg_8.out.kept D9.out (by omega) (by omega))
        clear bg_8
        have Y3_9 := Lib.hid (Y3_8.out.kept D9.out (by omega) (by omega))
        clear Y3_8
        have Y5_9 := Lib.hid (Y5_8.out.kept D9.out (by omega) (by omega))
        clear Y5_8
        have HB9 := Lib.hid (HB.out.trans (D9.out.below (by omega) (by omega)))
        clear HB
        have HB := HB9
        clear HB9 hk
        clear z_aa
        have z_aa : w.heap.size < w9.heap.size := by omega
        clear z_bw
        have z_bw : w3.heap.size < w9.heap.size := by omega
        clear z_bx
        have z_bx : w4.heap.size < w9.heap.size := by omega
        clear z_bg
        have z_bg : w5.heap.size < w9.heap.size := by omega
        have tx9 : Fc.tot rs4 ≤ 2097152 := TX.out
        have tx1 : decide ((1 : Int) + (Fc.tot rs4 : Int) < 0) = false := by simp; omega
        clear tx9
        obtain ⟨qaa0⟩ := aa_9.out
        obtain ⟨qbw0⟩ := bw_9.out
        obtain ⟨qbx0⟩ := bx_9.out
        obtain ⟨qbg0⟩ := bg_9.out
        go_wp2_with fail
        refine (Fc.eqT_any _ _ _ _ rs5 rs3 (w5.heap.size) (w3.heap.size) _ Y5_9.out.rd Y3_9.out.rd (V5.out.trans V3.out.symm) (by (try simp) <;> omega) (by (try simp) <;> omega) (HZ.out.len V5.out) (HZ.out.row V5.out)).mono ?_
        rintro e w10 ⟨rfl, hb⟩
        clear qaa0 qbw0 qbx0 qbg0
        have D10 := Lib.hid (hb)
        have s10 : w9.heap.size + 0 ≤ w10.heap.size := by have := hb.size; (try simp at this); omega
        have aa_10 := Lib.hid (aa_9.out.below D10.out (by omega))
        clear aa_9
        have bw_10 := Lib.hid (bw_9.out.below D10.out (by omega))
        clear bw_9
        have bx_10 := Lib.hid (bx_9.out.below D10.out (by omega))
        clear bx_9
        have bg_10 := Lib.hid (bg_9.out.below D10.out (by omega))
        clear bg_9
        have Y3_10 := Lib.hid (Y3_9.out.below D10.out (by omega))
        clear Y3_9
        have Y5_10 := Lib.hid (Y5_9.out.below D10.out (by omega))
        clear Y5_9
        have HB10 := Lib.hid (HB.out.trans (D10.out.mono (by omega)))
        clear HB
        have HB := HB10
        clear HB10 hb
        clear z_aa
        have z_aa : w.heap.size < w10.heap.size := by omega
        clear z_bw
        have z_bw : w3.heap.size < w10.heap.size := by omega
        clear z_bx
        have z_bx : w4.heap.size < w10.heap.size := by omega
        clear z_bg
        have z_bg : w5.heap.size < w10.heap.size := by omega
        as_aux_lemma =>
          obtain ⟨qaa0⟩ := aa_10.out
          obtain ⟨qbw0⟩ := bw_10.out
          obtain ⟨qbx0⟩ := bx_10.out
          obtain ⟨qbg0⟩ := bg_10.out
          go_wp2_with fail
          refine (Fc.markT_any R5 t5 1 rs5 (w4.heap.size + 1) (w5.heap.size) _ Y5_10.out (by omega) (HZ.out.tot V5.out) (by omega) (by omega)).mono ?_
          rintro e w11 ⟨rfl, hown, hk⟩
          have Y5_11 := Lib.hid hown
          clear Y5_10 hown
          clear qaa0 qbw0 qbx0 qbg0
          have D11 := Lib.hid (hk)
          have s11 : w10.heap.size ≤ w11.heap.size := hk.size
          have aa_11 := Lib.hid (aa_10.out.kept D11.out (by omega) (by omega))
          clear aa_10
          have bw_11 := Lib.hid (bw_10.out.kept D11.out (by omega) (by omega))
          clear bw_10
          have bx_11 := Lib.hid (bx_10.out.kept D11.out (by omega) (by omega))
          clear bx_10
          have bg_11 := Lib.hid (bg_10.out.kept D11.out (by omega) (by omega))
          clear bg_10
          have Y3_11 := Lib.hid (Y3_10.out.kept D11.out (by omega) (by omega))
          clear Y3_10
          have HB11 := Lib.hid (HB.out.trans (D11.out.below (by omega) (by omega)))
          clear HB
          have HB := HB11
          clear HB11 hk
          clear z_aa
          have z_aa : w.heap.size < w11.heap.size := by omega
          clear z_bw
          have z_bw : w3.heap.size < w11.heap.size := by omega
          clear z_bx
          have z_bx : w4.heap.size < w11.heap.size := by omega
          clear z_bg
          have z_bg : w5.heap.size < w11.heap.size := by omega
          have tq : decide ((1 : Int) + (Fc.tot rs5 : Int) < 0) = false := by simp; omega
          obtain ⟨qaa0⟩ := aa_11.out
          obtain ⟨qbw0⟩ := bw_11.out
          obtain ⟨qbx0⟩ := bx_11.out
          obtain ⟨qbg0⟩ := bg_11.out
          go_wp2_with fail
          refine (Fc.heldT_any R5 t5 1 rs5 (w5.heap.size) _ Y5_11.out.rd (by omega) (HZ.out.tot V5.out) (by omega) (by omega)).mono ?_
          rintro e w12 ⟨rfl, hb⟩
          clear qaa0 qbw0 qbx0 qbg0
          have D12 := Lib.hid (hb)
          have s12 : w11.heap.size + 0 ≤ w12.heap.size := by have := hb.size; (try simp at this); omega
          have aa_12 := Lib.hid (aa_11.out.below D12.out (by omega))
          clear aa_11
          have bw_12 := Lib.hid (bw_11.out.below D12.out (by omega))
          clear bw_11
          have bx_12 := Lib.hid (bx_11.out.below D12.out (by omega))
          clear bx_11
          have bg_12 := Lib.hid (bg_11.out.below D12.out (by omega))
          clear bg_11
          have Y3_12 := Lib.hid (Y3_11.out.below D12.out (by omega))
          clear Y3_11
          have Y5_12 := Lib.hid (Y5_11.out.below D12.out (by omega))
          clear Y5_11
          have HB12 := Lib.hid (HB.out.trans (D12.out.mono (by omega)))
          clear HB
          have HB := HB12
          clear HB12 hb
          clear z_aa
          have z_aa : w.heap.size < w12.heap.size := by omega
          clear z_bw
          have z_bw : w3.heap.size < w12.heap.size := by omega
          clear z_bx
          have z_bx : w4.heap.size < w12.heap.size := by omega
          clear z_bg
          have z_bg : w5.heap.size < w12.heap.size := by omega
          as_aux_lemma =>
            obtain ⟨qaa0⟩ := aa_12.out
            obtain ⟨qbw0⟩ := bw_12.out
            obtain ⟨qbx0⟩ := bx_12.out
            obtain ⟨qbg0⟩ := bg_12.out
            go_wp2_with fail
            refine (Fc.toT_any Aa ca rsa _ (Ha.out.into HB.out) hnl ROW.out).mono ?_
            rintro e w13 ⟨g13, c13, rs13, rfl, hk, hv, hb⟩
            clear qaa0 qbw0 qbx0 qbg0
            have X13_13 := Lib.hid (hk.wide (lo' := w12.heap.size) (hi' := w13.heap.size) (by simp) (Nat.le_refl _))
            have V13 := Lib.hid hv
            clear hk hv
            have D13 := Lib.hid (hb)
            have s13 : w12.heap.size + 0 ≤ w13.heap.size := by have := hb.size; (try simp at this); omega
            have aa_13 := Lib.hid (aa_12.out.below D13.out (by omega))
            clear aa_12
            have bw_13 := Lib.hid (bw_12.out.below D13.out (by omega))
            clear bw_12
            have bx_13 := Lib.hid (bx_12.out.below D13.out (by omega))
            clear bx_12
            have bg_13 := Lib.hid (bg_12.out.below D13.out (by omega))
            clear bg_12
            have Y3_13 := Lib.hid (Y3_12.out.below D13.out (by omega))
            clear Y3_12
            have Y5_13 := Lib.hid (Y5_12.out.below D13.out (by omega))
            clear Y5_12
            have HB13 := Lib.hid (HB.out.trans (D13.out.mono (by omega)))
            clear HB
            have HB := HB13
            clear HB13 hb
            clear z_aa
            have z_aa : w.heap.size < w13.heap.size := by omega
            clear z_bw
            have z_bw : w3.heap.size < w13.heap.size := by omega
            clear z_bx
            have z_bx : w4.heap.size < w13.heap.size := by omega
            clear z_bg
            have z_bg : w5.heap.size < w13.heap.size := by omega
            obtain ⟨qaa0⟩ := aa_13.out
            obtain ⟨qbw0⟩ := bw_13.out
            obtain ⟨qbx0⟩ := bx_13.out
            obtain ⟨qbg0⟩ := bg_13.out
            go_wp2_with fail
            refine (HI.out _ _ _ _ (X13_13.out.rd.more (by (try simp) <;> omega)) V13.out HB.out).mono ?_
            rintro e w14 ⟨R14, t14, rs14, rfl, hown, hv, hb⟩
            clear qaa0 qbw0 qbx0 qbg0
            have Y14_14 := Lib.hid (hown.wide (lo' := w13.heap.size) (hi' := w14.heap.size) (by simp) (Nat.le_refl _))
            have V14 := Lib.hid hv
            clear hown hv
            have D14 := Lib.hid (hb)
            have s14 : w13.heap.size + 0 ≤ w14.heap.size := by have := hb.size; (try simp at this); omega
            have aa_14 := Lib.hid (aa_13.out.below D14.out (by omega))
            clear aa_13
            have bw_14 := Lib.hid (bw_13.out.below D14.out (by omega))
            clear bw_13
            have bx_14 := Lib.hid (bx_13.out.below D14.out (by omega))
            clear bx_13
            have bg_14 := Lib.hid (bg_13.out.below D14.out (by omega))
            clear bg_13
            have Y3_14 := Lib.hid (Y3_13.out.below D14.out (by omega))
            clear Y3_13
            have Y5_14 := Lib.hid (Y5_13.out.below D14.out (by omega))
            clear Y5_13
            have X13_14 := Lib.hid (X13_13.out.below D14.out (by omega))
            clear X13_13
            have HB14 := Lib.hid (HB.out.trans (D14.out.mono (by omega)))
            clear HB
            have HB := HB14
            clear HB14 hb
            clear z_aa
            have z_aa : w.heap.size < w14.heap.size := by omega
            clear z_bw
            have z_bw : w3.heap.size < w14.heap.size := by omega
            clear z_bx
            have z_bx : w4.heap.size < w14.heap.size := by omega
            clear z_bg
            have z_bg : w5.heap.size < w14.heap.size := by omega
            clear X13_14
            obtain ⟨qaa0⟩ := aa_14.out
            obtain ⟨qbw0⟩ := bw_14.out
            obtain ⟨qbx0⟩ := bx_14.out
            obtain ⟨qbg0⟩ := bg_14.out
            go_wp2_with fail
            refine (Fc.eqT_any _ _ _ _ rs14 rs3 (w14.heap.size) (w3.heap.size) _ (Y14_14.out.al (by omega) (al1 _ _)).rd (Y3_14.out.al (by omega) (al1 _ _)).rd (V14.out.trans V3.out.symm) (by (try simp) <;> omega) (by (try simp) <;> omega) (HZ.out.len V14.out) (HZ.out.row V14.out)).mono ?_
            rintro e w15 ⟨rfl, hb⟩
            clear qaa0 qbw0 qbx0 qbg0
            have D15 := Lib.hid (on1 _ hb)
            have s15 : w14.heap.size + 1 ≤ w15.heap.size := by have := hb.size; (try simp at this); omega
            have aa_15 := Lib.hid (aa_14.out.below D15.out (by omega))
            clear aa_14
            have bw_15 := Lib.hid (bw_14.out.below D15.out (by omega))
            clear bw_14
            have bx_15 := Lib.hid (bx_14.out.below D15.out (by omega))
            clear bx_14
            have bg_15 := Lib.hid (bg_14.out.below D15.out (by omega))
            clear bg_14
            have bh_15 := Lib.hid ((Box1.new w14 28 (.slice R14 rs14.length t14)).below hb (by simp))
            have Y3_15 := Lib.hid (Y3_14.out.below D15.out (by omega))
            clear Y3_14
            have Y5_15 := Lib.hid (Y5_14.out.below D15.out (by omega))
            clear Y5_14
            have Y14_15 := Lib.hid (Y14_14.out.below D15.out (by omega))
            clear Y14_14
            have HB15 := Lib.hid (HB.out.trans (D15.out.mono (by omega)))
            clear HB
            have HB := HB15
            clear HB15 hb
            clear z_aa
            have z_aa : w.heap.size < w15.heap.size := by omega
            clear z_bw
            have z_bw : w3.heap.size < w15.heap.size := by omega
            clear z_bx
            have z_bx : w4.heap.size < w15.heap.size := by omega
            clear z_bg
            have z_bg : w5.heap.size < w15.heap.size := by omega
            have z_bh : w14.heap.size < w15.heap.size := by omega
            as_aux_lemma =>
              obtain ⟨qaa0⟩ := aa_15.out
              obtain ⟨qbw0⟩ := bw_15.out
              obtain ⟨qbx0⟩ := bx_15.out
              obtain ⟨qbg0⟩ := bg_15.out
              obtain ⟨qbh0⟩ := bh_15.out
              go_wp2_with fail
              refine (Fc.heldT_any R5 t5 1 rs5 (w5.heap.size) _ Y5_15.out.rd (by omega) (HZ.out.tot V5.out) (by omega) (by omega)).mono ?_
              rintro e w16 ⟨rfl, hb⟩
              clear qaa0 qbw0 qbx0 qbg0 qbh0
              have D16 := Lib.hid (hb)
              have s16 : w15.heap.size + 0 ≤ w16.heap.size := by have := hb.size; (try simp at this); omega
              have aa_16 := Lib.hid (aa_15.out.below D16.out (by omega))
              clear aa_15
              have bw_16 := Lib.hid (bw_15.out.below D16.out (by omega))
              clear bw_15
              have bx_16 := Lib.hid (bx_15.out.below D16.out (by omega))
              clear bx_15
              have bg_16 := Lib.hid (bg_15.out.below D16.out (by omega))
              clear bg_15
              have bh_16 := Lib.hid (bh_15.out.below D16.out (by omega))
              clear bh_15
              have Y3_16 := Lib.hid (Y3_15.out.below D16.out (by omega))
              clear Y3_15
              have Y5_16 := Lib.hid (Y5_15.out.below D16.out (by omega))
              clear Y5_15
              have Y14_16 := Lib.hid (Y14_15.out.below D16.out (by omega))
              clear Y14_15
              have HB16 := Lib.hid (HB.out.trans (D16.out.mono (by omega)))
              clear HB
              have HB := HB16
              clear HB16 hb
              clear z_aa
              have z_aa : w.heap.size < w16.heap.size := by omega
              clear z_bw
              have z_bw : w3.heap.size < w16.heap.size := by omega
              clear z_bx
              have z_bx : w4.heap.size < w16.heap.size := by omega
              clear z_bg
              have z_bg : w5.heap.size < w16.heap.size := by omega
              clear z_bh
              have z_bh : w14.heap.size < w16.heap.size := by omega
              go_wp2
              go_ret
              exact ⟨rfl, HB.out⟩

end Go.Proofs.YtajbahfbldmckaaDoor

