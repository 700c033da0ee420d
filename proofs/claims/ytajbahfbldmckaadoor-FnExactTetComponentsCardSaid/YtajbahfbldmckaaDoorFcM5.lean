/- Texts of one proof laid together. No condition but those that each theorem names. -/
import Derived.Test.YtajbahfbldmckaaDoorFcP
import Derived.Test.YtajbahfbldmckaaDoorFcD
import Derived.Deep.RegionHeld3
import Derived.Deep.AppendLies
import Derived.Test.YtajbahfbldmckaaDoorFcN
import Derived.OrdersHeld
import Derived.StillTail
import Derived.Test.YtajbahfbldmckaaDoorFcM
import Derived.Test.YtajbahfbldmckaaDoorFcK
import Derived.Laws.CopyOwn
import Derived.Laws.Bits64b
import Derived.StillTailTactics
import Derived.Test.YtajbahfbldmckaaDoorFcJ
import Derived.StillTactics
import Derived.Test.YtajbahfbldmckaaDoorLiftF
import Derived.Outline
import Derived.Deep.Cut
namespace Go.Proofs.YtajbahfbldmckaaDoor
open Go.RowKit
namespace Fc

theorem OwnS.pushed {w w' : World} {lo hi lo2 c g' cap : Nat} {A : Option Addr} {rs : List Rw} {r : Rw} (hown : OwnS w lo hi A c rs) (hr : r.In w lo2 w.heap.size) (h12 : hi ≤ lo2) (hlo2 : lo ≤ lo2) (hhi : hi ≤ w.heap.size)
    (h1 : w'.ownsRow lo 61 1 (.slice (some ⟨g', 0, none⟩) (rs.length + 1) cap) (rs.length + 1) (rs.map Rw.sv ++ [r.sv])) (hg : w.grownBy w' (Value.slice A rs.length c).ownBlock) (hat : (Value.slice A rs.length c).ownBlock = some g' ∨ g' = w.heap.size) (hlt : g' < w'.heap.size) :
    OwnS w' lo w'.heap.size (some ⟨g', 0, none⟩) cap (rs ++ [r]) ∧ Kept lo hi w w' := by
  have hob : ∀ k, (Value.slice A rs.length c).ownBlock = some k → lo ≤ k ∧ k < hi ∧ ∀ q ∈ rs, q.Off k := fun k hk => by
    cases A with
    | none => simp [Value.ownBlock] at hk
    | some p =>
      have h2 := hown.top p rfl
      have h3 := fun q hq => hown.off q hq p rfl
      have h4 := (World.ownsRow.lt hown.row k hk).1
      simp [Value.ownBlock] at hk
      subst hk
      exact ⟨h4, h2, h3⟩
  have hk : Kept lo hi w w' := Wd.kept_grown hg fun k hk => ⟨(hob k hk).1, (hob k hk).2.1⟩
  have hrw : r.In w' lo w'.heap.size := (hr.grown hg fun k hk => hr.off (.inl (by have := (hob k hk).2.1; omega))).wide hlo2 hg.size
  refine ⟨⟨?_, (fun a ha => by cases ha; exact hlt), fun q hq => ?_, fun q hq a ha => ?_, ?_⟩, hk⟩
  · rw [List.length_append, List.map_append]
    exact h1
  · rcases List.mem_append.1 hq with hq | hq
    · exact ((hown.mine q hq).grown hg fun k hk => (hob k hk).2.2 q hq).wide (Nat.le_refl _) (Nat.le_trans hhi hg.size)
    · simp at hq; subst hq
      exact hrw
  · cases ha
    dsimp only
    rcases hat with hat | hat
    · rcases List.mem_append.1 hq with hq | hq
      · exact (hob _ hat).2.2 q hq
      · simp at hq; subst hq
        exact hr.off (.inl (by have := (hob _ hat).2.1; omega))
    · rcases List.mem_append.1 hq with hq | hq
      · exact (hown.mine q hq).off (.inr (by omega))
      · simp at hq; subst hq
        exact hr.off (.inr (by omega))
  · rw [List.pairwise_append]
    exact ⟨hown.apart, List.pairwise_singleton _ _, fun q hq q' hq' => by simp at hq'; subst hq'; exact Apart.of_in (hown.mine q hq) hr (.inl h12)⟩

/-- A row is appended at a step of a region that draws its order. -/
theorem step_push_row {w : World} {ops : Array Oper} {o : Oper} {a : Act} {K : Act → World → Prop} {Q : Exit → Act → World → Prop} {E : Prop} (hgd : o.guard = none) (s x : Operand) (ho : o.op = .call { callee := .builtin .append, args := #[s, x], argTypes := #[26, 26] })
    (lo hi lo2 c n g : Nat) (A : Option Addr) (rs : List Rw) (r : Rw) (hs : a.eval s = .slice A n c) (hn : rs.length = n) (hown : OwnS w lo hi A c rs) (hx : a.eval x = .slice (some ⟨g, 0, none⟩) 1 1) (hc : w.cell? ⟨g, 0, none⟩ = some r.sv) (hr : r.In w lo2 w.heap.size) (h12 : hi ≤ lo2) (hlo2 : lo ≤ lo2) (hlo : lo ≤ w.heap.size) (hhi : hi ≤ w.heap.size) (hlen : n ≤ 1048576)
    (h : ∀ A' c' w', OwnS w' lo w'.heap.size A' c' (rs ++ [r]) → Kept lo hi w w' → K (a.put o.dst (.slice A' (n + 1) c')) w') : if Region.wanted o (yielded ops a.tmps) = true then Oper.wp Tryd.prog o a w K Q else E := by
  obtain ⟨ti, hi0, hz0, hz1, hz2⟩ := info_parts infoS
  subst hn
  refine step_append_lies w hgd s x 26 ho lo 61 ti _ 1 24 Tryd.underlying26 hi0 hz0 hz1 hz2 rfl (by decide) (.slice A rs.length c) rs.length (rs.map Rw.sv) hs hown.row ⟨g, 0, none⟩ 1 1 [r.sv] hx rfl
    (by intro j u hj; cases j with | zero => (simp at hj; subst hj; simpa [Addr.add] using hc) | succ j => simp at hj) (by intro u hu; simp at hu; subst hu; rfl) (by omega) (by unfold maxLen; omega) (by omega) hlo _ rfl ?_
  intro g' cap w' h1 hg hat hlt
  obtain ⟨q1, q2⟩ := hown.pushed hr h12 hlo2 hhi h1 hg hat hlt
  exact h _ _ _ q1 q2


/-- A row is appended at a step of a region that draws its order; what lies apart stays apart. -/
theorem step_push_row3 {w : World} {ops : Array Oper} {o : Oper} {a : Act} {K : Act → World → Prop} {Q : Exit → Act → World → Prop} {E : Prop} (hgd : o.guard = none) (s x : Operand) (ho : o.op = .call { callee := .builtin .append, args := #[s, x], argTypes := #[26, 26] })
    (lo hi lo2 c n g : Nat) (A : Option Addr) (rs : List Rw) (r : Rw) (hs : a.eval s = .slice A n c) (hn : rs.length = n) (hown : OwnS w lo hi A c rs) (hx : a.eval x = .slice (some ⟨g, 0, none⟩) 1 1) (hc : w.cell? ⟨g, 0, none⟩ = some r.sv) (hr : r.In w lo2 w.heap.size) (h12 : hi ≤ lo2) (hlo2 : lo ≤ lo2) (hlo : lo ≤ w.heap.size) (hhi : hi ≤ w.heap.size) (hlen : n ≤ 1048576)
    (F : Nat → Prop) (hF : ∀ b0, F b0 → b0 < lo2 ∧ b0 < w.heap.size ∧ (∀ a, A = some a → a.block ≠ b0) ∧ ∀ q ∈ rs, q.Off b0)
    (h : ∀ A' c' w', OwnS w' lo w'.heap.size A' c' (rs ++ [r]) → Kept lo hi w w' → (∀ b0, F b0 → w'.heap[b0]? = w.heap[b0]? ∧ (∀ a, A' = some a → a.block ≠ b0) ∧ ∀ q ∈ rs ++ [r], q.Off b0) → K (a.put o.dst (.slice A' (n + 1) c')) w') : if Region.wanted o (yielded ops a.tmps) = true then Oper.wp Tryd.prog o a w K Q else E := by
  obtain ⟨ti, hi0, hz0, hz1, hz2⟩ := info_parts infoS
  subst hn
  refine step_append_lies w hgd s x 26 ho lo 61 ti _ 1 24 Tryd.underlying26 hi0 hz0 hz1 hz2 rfl (by decide) (.slice A rs.length c) rs.length (rs.map Rw.sv) hs hown.row ⟨g, 0, none⟩ 1 1 [r.sv] hx rfl
    (by intro j u hj; cases j with | zero => (simp at hj; subst hj; simpa [Addr.add] using hc) | succ j => simp at hj) (by intro u hu; simp at hu; subst hu; rfl) (by omega) (by unfold maxLen; omega) (by omega) hlo _ rfl ?_
  intro g' cap w' h1 hg hat hlt
  obtain ⟨q1, q2⟩ := hown.pushed hr h12 hlo2 hhi h1 hg hat hlt
  refine h _ _ _ q1 q2 (fun b0 h3 => ?_)
  obtain ⟨f1, f2, f3, f4⟩ := hF b0 h3
  have hnb : ∀ k, (Value.slice A rs.length c).ownBlock = some k → k ≠ b0 := fun k hk => by
    cases A with
    | none => simp [Value.ownBlock] at hk
    | some p =>
      have h6 := f3 p rfl
      simp [Value.ownBlock] at hk
      subst hk
      exact h6
  refine ⟨hg.block b0 f2 (fun e => hnb b0 e.symm rfl), fun a' ha' => ?_, fun q hq => ?_⟩
  · cases ha'
    dsimp only
    rcases hat with hat | hat
    · exact hnb _ hat
    · omega
  · rcases List.mem_append.1 hq with hq | hq
    · exact f4 q hq
    · simp at hq; subst hq
      exact hr.off (.inl f1)

/-- A tetrahedron with four boundary faces. -/
def fr : List Int := [-1, 0, -1, 0, -1, 0, -1, 0]
theorem sv_fr (g : Nat) : Rw.sv ⟨some ⟨g, 0, none⟩, 4, fr⟩ = .slice (some ⟨g, 0, none⟩) 4 4 := by simp [Rw.sv, fr]
/-- Blocks that a list and its rows keep off. -/
def Apt (F : Nat → Prop) (A : Option Addr) (rs : List Rw) : Prop := ∀ b0, F b0 → (∀ a, A = some a → a.block ≠ b0) ∧ ∀ q ∈ rs, q.Off b0
/-- The builder lies in block bb, its rows behind it. -/
structure Bld (w : World) (bb mb : Nat) (A : Option Addr) (c : Nat) (rs : List Rw) : Prop where
  cell : w.cell? ⟨bb, 0, none⟩ = some (.slice A rs.length c)
  map : w.cell? ⟨bb, 1, none⟩ = some (.map (some mb))
  free : w.frozen? ⟨bb, 0, none⟩ = false
  own : OwnS w (bb + 1) w.heap.size A c rs
theorem Bld.lt {w : World} {bb mb c : Nat} {A : Option Addr} {rs : List Rw} (h : Bld w bb mb A c rs) : bb < w.heap.size := World.block_lt_of_cell? w ⟨bb, 0, none⟩ h.cell
theorem Bld.below {w w' : World} {bb mb c : Nat} {A : Option Addr} {rs : List Rw} (h : Bld w bb mb A c rs) (hb : Below w.heap.size w w') : Bld w' bb mb A c rs :=
  ⟨(hb.cell (p := ⟨bb, 0, none⟩) h.lt).trans h.cell, (hb.cell (p := ⟨bb, 1, none⟩) h.lt).trans h.map, (hb.frozen (p := ⟨bb, 0, none⟩) h.lt).trans h.free, (h.own.below hb (Nat.le_refl _)).wide (Nat.le_refl _) hb.size⟩

theorem free_in (w : World) (o : Obj) : Rw.In ⟨some ⟨w.heap.size, 0, none⟩, 4, fr⟩ ((w.alloc (Obj.cells #[.int .i64 (-1), .int .i64 0, .int .i64 (-1), .int .i64 0, .int .i64 (-1), .int .i64 0, .int .i64 (-1), .int .i64 0] 72)).alloc o) w.heap.size (w.heap.size + 1) := by
  have h : BlkF ((w.alloc (Obj.cells #[.int .i64 (-1), .int .i64 0, .int .i64 (-1), .int .i64 0, .int .i64 (-1), .int .i64 0, .int .i64 (-1), .int .i64 0] 72)).alloc o) w.heap.size fr := by
    have := BlkF.new w fr
    simp only [fr, List.map_cons, List.map_nil] at this
    exact this.alloc _
  exact ⟨⟨by simp [fr], by simp [fr]⟩, by unfold maxLen; dsimp only; omega, h.mine (Nat.le_refl _) (Nat.lt_succ_self _) rfl⟩

end Fc
end Go.Proofs.YtajbahfbldmckaaDoor

namespace Go.Proofs.YtajbahfbldmckaaDoor
open Go.RowKit
namespace Fc

/-- What a call hands back: a triangulation in memory of its own. -/
def ResT (w : World) (zss : List (List Int)) (e : Ending) (w' : World) : Prop :=
  ∃ A c rs, e = .returned (.agg #[.slice A rs.length c]) ∧ OwnS w' w.heap.size w'.heap.size A c rs ∧ vals rs = zss ∧ Below w.heap.size w w'

theorem setCell_frozen (w : World) (p q : Addr) (u : Value) : (w.setCell p u).frozen? q = w.frozen? q := by simp [go_sem]
theorem faces_row {w : World} {lo g n cap : Nat} {zs : List Int} (h : w.ownsRow lo 72 2 (.slice (some ⟨g, 0, none⟩) n cap) n (zs.map (Value.int .i64))) : Rw.In ⟨some ⟨g, 0, none⟩, cap, zs⟩ w lo w.heap.size := by
  obtain ⟨h1, h2⟩ := h
  rw [List.length_map] at h1
  rcases h2 with ⟨e, _⟩ | ⟨g', cap', cur, e, hb, hg, hn, hm, hs, hc⟩
  · cases e
  · cases e
    have hlt : g < w.heap.size := by
      rcases Nat.lt_or_ge g w.heap.size with h' | h'
      · exact h'
      · rw [Array.getElem?_eq_none h'] at hg; cases hg
    refine ⟨⟨by dsimp only; omega, by dsimp only; omega⟩, hm, rfl, fun _ => ⟨g, 0, rfl, hb, hlt, fun j hj => ⟨?_, by simp [World.frozen?, hg]⟩⟩⟩
    dsimp only at hj
    rw [Nat.zero_add, cell_of_row w g j _ _ (0, 0) hg]
    have e1 : (cur.toList.take (n * 2))[j]? = some (.int .i64 (zs.getD j 0)) := by rw [hc]; simp [List.getElem?_eq_getElem hj]
    rw [List.getElem?_take_of_lt (by omega)] at e1
    simpa using e1

theorem ints_newsF {w : World} {B n : Nat} {ad : Addr} {zs : List Int} (h : Ints w B (some ad) n zs) : ∀ j u, (zs.map (Value.int .i64))[j]? = some u → w.cell? (ad.add j) = some u := by
  intro j u hu
  have hj : j < zs.length := by
    have := (List.getElem?_eq_some_iff.1 hu).1
    simpa using this
  have hl := h.1
  obtain ⟨b, off, e, _, h4⟩ := h.2 (by omega)
  cases e
  have h5 := h4 j (by omega)
  have e5 : (⟨b, off, none⟩ : Addr).add j = ⟨b, off + j, none⟩ := by unfold Addr.add; split <;> simp_all
  rw [e5, h5, ← hu, List.getElem?_map, List.getElem?_eq_getElem hj]
  simp [List.getElem?_eq_getElem hj]
theorem Own.of_row {w : World} {lo n : Nat} {v : Value} {zs : List Int} (h : w.ownsRow lo 2 1 v n (zs.map (Value.int .i64))) (hv : v ≠ .slice none 0 0) : ∃ g cap, v = .slice (some ⟨g, 0, none⟩) n cap ∧ n ≤ cap ∧ cap ≤ maxLen ∧ Own w lo w.heap.size (some ⟨g, 0, none⟩) n cap zs := by
  have h' := h
  rcases h.2 with ⟨e, _⟩ | ⟨g, cap, cur, rfl, hb, hg, hn, hm, _, _⟩
  · exact absurd e hv
  · have hlt : g < w.heap.size := by
      rcases Nat.lt_or_ge g w.heap.size with h1 | h1
      · exact h1
      · rw [Array.getElem?_eq_none h1] at hg; cases hg
    exact ⟨g, cap, rfl, hn, hm, h', fun a ha => by cases ha; exact hlt⟩

/-- The faces of a row are appended to an empty slice, at a step of a region that draws its order. -/
theorem step_copy_row {w : World} {ops : Array Oper} {o : Oper} {a : Act} {K : Act → World → Prop} {Q : Exit → Act → World → Prop} {E : Prop} (hgd : o.guard = none) (s x : Operand) (ho : o.op = .call { callee := .builtin .append, args := #[s, x], argTypes := #[61, 61] })
    (lo B g0 n c : Nat) (A : Option Addr) (zs : List Int) (hs : a.eval s = .slice (some ⟨g0, 0, none⟩) 0 0) (hg0 : w.heap[g0]? = some (.cells #[] 72 (0, 0))) (hlg : lo ≤ g0) (hx : a.eval x = .slice A n c) (hI : Ints w B A (n * 2) zs) (hn0 : 0 < n) (hn : n ≤ 1048576) (hlo : lo ≤ w.heap.size)
    (h : ∀ g cap w', Rw.In ⟨some ⟨g, 0, none⟩, cap, zs⟩ w' lo w'.heap.size → w.grownBy w' (some g0) → K (a.put o.dst (.slice (some ⟨g, 0, none⟩) n cap)) w') : if Region.wanted o (yielded ops a.tmps) = true then Oper.wp Tryd.prog o a w K Q else E := by
  obtain ⟨ti, hi0, hz0, hz1, hz2⟩ := info_parts infoF
  have hl := hI.1
  obtain ⟨b, off, rfl, _, h4⟩ := hI.2 (by omega)
  have hl2 : (zs.map (Value.int .i64)).length = n * 2 := by rw [List.length_map, hl]
  refine step_append_lies w hgd s x 61 ho lo 72 ti _ 2 16 Tryd.underlying61 hi0 hz0 hz1 hz2 rfl (by decide) (.slice (some ⟨g0, 0, none⟩) 0 0) 0 [] hs ⟨rfl, .inr ⟨g0, 0, #[], rfl, hlg, hg0, Nat.le_refl _, by unfold maxLen; omega, rfl, rfl⟩⟩ ⟨b, off, none⟩ n c (zs.map (Value.int .i64)) hx hl2
    (ints_newsF hI) (by simp [Value.oneCell']) hn0 (by unfold maxLen; omega) (by omega) hlo _ rfl ?_
  intro g cap w' h1 hg _ _
  rw [Nat.zero_add, List.nil_append] at h1
  rw [Nat.zero_add]
  exact h g cap w' (faces_row h1) hg

set_option maxRecDepth 100000 in
set_option maxHeartbeats 8000000 in
theorem own_spec (A : Option Addr) (n c : Nat) (T : List (List Int)) (w : World) (h : RdT w w.heap.size A n T) (hn : n ≤ 8) (h4 : Tr.Four T) :
    Calls Tryd.prog 45 #[.agg #[.slice A n c]] w (ResT w T) := by
  have LN := Lib.hid h.len
  have HT := Lib.hid h
  have H4 := Lib.hid h4
  clear h h4
  obtain ⟨U, hU⟩ : ∃ U, U = ((w.alloc (Obj.cells #[.slice A n c] 28)).alloc (Obj.cells #[.slice none 0 0] 28)).alloc (Obj.cells #[.slice none 0 0] 28) := ⟨_, rfl⟩
  have hB : Below w.heap.size w U := by rw [hU]; exact (al2 w _ _).trans ((al1 _ _).mono (by simp; omega))
  have z : U.heap.size = w.heap.size + 3 := by rw [hU]; simp
  have k0 : U.cell? ⟨w.heap.size, 0, none⟩ = some (.slice A n c) := by rw [hU]; simp [go_sem]
  have k1 : U.cell? ⟨w.heap.size + 1, 0, none⟩ = some (.slice none 0 0) := by rw [hU]; simp [go_sem]
  have k2 : U.cell? ⟨w.heap.size + 2, 0, none⟩ = some (.slice none 0 0) := by rw [hU]; simp [go_sem]
  have f1 : U.frozen? ⟨w.heap.size + 1, 0, none⟩ = false := by rw [hU]; simp [go_sem]
  have f2 : U.frozen? ⟨w.heap.size + 2, 0, none⟩ = false := by rw [hU]; simp [go_sem]
  have DU := Lib.hid hB
  clear hB
  go_enter Tryd.func45, Tryd.ntmps45
  go_wp2
  rw [← hU]
  clear hU
  go_loopw [4] (fun i W => ∃ (a : Nat) (A' : Option Addr) (c' : Nat) (rs : List Rw), a ≤ n ∧ i = .int .i64 a ∧ (W.cell? ⟨w.heap.size + 2, 0, none⟩ = some (.slice A' rs.length c') ∧ W.frozen? ⟨w.heap.size + 2, 0, none⟩ = false) ∧ OwnS W (w.heap.size + 3) W.heap.size A' c' rs ∧ vals rs = T.take a ∧ Below (w.heap.size + 2) U W) (fun i _ => n - (intOf i).toNat)
  case atStart => exact ⟨0, none, 0, [], Nat.zero_le _, rfl, ⟨k2, f2⟩, OwnS.nil _ _ _, rfl, Below.refl _ _⟩
  case round =>
    obtain ⟨a, A', c', rs, ha, rfl, ⟨hb2, hf2⟩, hO, hV, hbel⟩ := hrel
    have OW := Lib.hid hO
    have VL := Lib.hid hV
    have BW := Lib.hid hbel
    have kw := (hbel.cell (p := ⟨w.heap.size, 0, none⟩) (by dsimp only; omega)).trans k0
    have zW : U.heap.size ≤ wr.heap.size := hbel.size
    have i0 : (0 : Int) ≤ (a : Int) := by omega
    have rl : rs.length ≤ 8 := by
      have h1 := congrArg List.length hV
      rw [vals_len, List.length_take] at h1
      omega
    by_cases hlt : a < n
    case neg =>
      obtain rfl : a = n := by omega
      have i1 : ¬ (a : Int) < (a : Int) := by omega
      have kr := (hbel.cell (p := ⟨w.heap.size + 1, 0, none⟩) (by dsimp only; omega)).trans k1
      have fr1 := (hbel.frozen (p := ⟨w.heap.size + 1, 0, none⟩) (by dsimp only; omega)).trans f1
      clear hO hV hbel
      go_wp2
      refine bodyPost_ret (v := .agg #[.slice A' rs.length c']) (by simp [results, Tryd.results45, kr, go_sem]) rfl ?_
      exact ⟨A', c', rs, rfl, (OW.out.far (p := ⟨w.heap.size + 1, 0, none⟩) (.inl (by dsimp only; omega)) _).wide (by omega) (by simp [World.setCell]), by rw [VL.out, List.take_of_length_le (by rw [LN.out]; exact Nat.le_refl _)], (DU.out.trans (BW.out.mono (by omega))).setCell (by dsimp only; omega) _⟩
    have i1 : (a : Int) < (n : Int) := by omega
    clear hO hV hbel
    have RT := Lib.hid (HT.out.below (DU.out.trans (BW.out.mono (by omega))))
    have h8 := H4.out a (by rw [LN.out]; exact hlt)
    obtain ⟨b, off, Aj, cj, m, rfl, hb, hcr, h1, h2, h3, hi⟩ := RT.out.row a hlt
    obtain rfl : m = 4 := by omega
    obtain ⟨zs, hzs⟩ : ∃ zs, T.getD a [] = zs := ⟨_, rfl⟩
    rw [hzs] at hi h8
    have HI := Lib.hid hi
    have NX := Lib.hid (show T.take (a + 1) = T.take a ++ [zs] from by rw [← hzs, List.take_add_one, List.getD_eq_getElem?_getD, List.getElem?_eq_getElem (by rw [LN.out]; exact hlt)]; rfl)
    have SV := Lib.hid (fun (g7 cap7 : Nat) => show Rw.sv ⟨some ⟨g7, 0, none⟩, cap7, zs⟩ = .slice (some ⟨g7, 0, none⟩) 4 cap7 from by simp [Rw.sv, h8])
    clear hi hzs h3
    have l0 : w.heap.size < wr.heap.size := by omega
    have l1 : w.heap.size + 2 < wr.heap.size := by omega
    have l2 : w.heap.size + 1 + 1 < wr.heap.size := by omega
    have l3 : b < wr.heap.size := by omega
    go_wp2_with fail
    go_region_law (first
      | (refine step_copy_row (by rfl) _ _ (by rfl) wr.heap.size w.heap.size wr.heap.size 4 cj Aj zs (by rfl) (by exact heap_alloc_new wr _) (Nat.le_refl _) (by rfl) (by exact HI.out.below ((al1 wr _).drew.mono (by omega))) (by omega) (by omega) (by simp) ?_; intro g7 cap7 w7 h5 h6; have R7 := Lib.hid h5; have D7 := Lib.hid (((al1 wr (Obj.cells #[] 72)).drew).grown h6 (by simp) (fun k hk => by cases hk; exact Nat.le_refl _)); have s7 := D7.out.size; have e7 := (D7.out.cell (p := ⟨w.heap.size + 2, 0, none⟩) (by dsimp only; omega)).trans hb2; have m1 : w.heap.size + 2 < w7.heap.size := (by omega); have m2 : w.heap.size + 1 + 1 < w7.heap.size := (by omega); have f7 := (D7.out.frozen (p := ⟨w.heap.size + 2, 0, none⟩) (by dsimp only; omega)).trans hf2; clear h5 h6)
      | (refine step_push_row (by rfl) _ _ (by rfl) (w.heap.size + 3) wr.heap.size wr.heap.size c' rs.length w7.heap.size A' rs ⟨some ⟨g7, 0, none⟩, cap7, zs⟩ (by rfl) rfl (by exact OW.out.below (D7.out.trans ((al1 w7 _).mono s7)) (Nat.le_refl _)) (by rfl) (by rw [SV.out]; exact Wd.alloc_first _ _ _ _ rfl) (by exact (R7.out.below (al1 w7 _) (Nat.le_refl _)).wide (Nat.le_refl _) (by simp)) (Nat.le_refl _) (by omega) (by simp; omega) (by simp; omega) (by omega) ?_; intro A8 c8 w8 h5 h6; have O8 := Lib.hid h5; have K8 := Lib.hid h6; have s8 := h6.size; simp only [World.size_alloc] at s8; have e8 := (World.cell?_of_block (a := ⟨w.heap.size + 2, 0, none⟩) (h6.block (w.heap.size + 2) (by simp; omega) (by omega))).trans (((al1 w7 _).cell (p := ⟨w.heap.size + 2, 0, none⟩) (by dsimp only; omega)).trans e7); have f8 := (World.frozen?_of_block (a := ⟨w.heap.size + 2, 0, none⟩) (h6.block (w.heap.size + 2) (by simp; omega) (by omega))).trans (((al1 w7 _).frozen (p := ⟨w.heap.size + 2, 0, none⟩) (by dsimp only; omega)).trans f7); clear h5 h6))
    all_goals
      have B8 := Lib.hid (show Below (w.heap.size + 2) U w8 from (BW.out.trans (D7.out.mono (by omega))).trans (((al1 w7 _).mono (by omega)).trans (K8.out.below (by omega) (by simp; omega))))
      clear e7 f7 kw hb2 hf2 hcr
      go_wp2
      go_roundw
      case rel =>
        refine ⟨a + 1, A8, c8, rs ++ [⟨some ⟨g7, 0, none⟩, cap7, zs⟩], by omega, by go_num, ⟨by rw [List.length_append]; exact World.cell?_setCell_same' _ _ _ (by rw [e8]; rfl), (setCell_frozen _ _ _ _).trans f8⟩, (O8.out.far (p := ⟨w.heap.size + 2, 0, none⟩) (.inl (by dsimp only; omega)) _).wide (Nat.le_refl _) (by simp [World.setCell]), by rw [NX.out, ← VL.out, vals, List.map_append]; rfl, B8.out.setCell (Nat.le_refl _) _⟩
      case measure => simp [intOf]; omega

end Fc
end Go.Proofs.YtajbahfbldmckaaDoor

namespace Go.Proofs.YtajbahfbldmckaaDoor
open Go.RowKit
/-- What AddTetrahedron hands back. -/
def Tr.addT (T : List (List Int)) : List (List Int) := if Tr.Is T ∧ T.length ≠ 8 then T ++ [Fc.fr] else []
def Tr.addC (T : List (List Int)) : Int := if Tr.Is T then (if T.length = 8 then 3 else 0) else 1
namespace Fc

/-- A store into a block that neither the list nor its rows lie in. -/
theorem OwnS.far_off {w : World} {lo hi c : Nat} {A : Option Addr} {rs : List Rw} (h : OwnS w lo hi A c rs) {p : Addr} (ho : ∀ a, A = some a → a.block ≠ p.block) (hr : ∀ q ∈ rs, q.Off p.block) (u : Value) : OwnS (w.setCell p u) lo hi A c rs := by
  refine ⟨⟨h.row.1, ?_⟩, h.top, fun q hq => (h.mine q hq).set_ p (hr q hq) u, h.off, h.apart⟩
  rcases h.row.2 with h0 | ⟨g, cap, cur, hv, hb, hg, r⟩
  · exact .inl h0
  · refine .inr ⟨g, cap, cur, hv, hb, ?_, r⟩
    injection hv with h1 h2 h3
    rw [Below.heap_setCell w _ _ g ?_]
    · exact hg
    · intro e
      exact ho _ h1 (by first | exact e | exact e.symm)

/-- A row is appended at a step of a region that draws its order; what lies between stays apart. -/
theorem step_push_row2 {w : World} {ops : Array Oper} {o : Oper} {a : Act} {K : Act → World → Prop} {Q : Exit → Act → World → Prop} {E : Prop} (hgd : o.guard = none) (s x : Operand) (ho : o.op = .call { callee := .builtin .append, args := #[s, x], argTypes := #[26, 26] })
    (lo hi lo2 c n g : Nat) (A : Option Addr) (rs : List Rw) (r : Rw) (hs : a.eval s = .slice A n c) (hn : rs.length = n) (hown : OwnS w lo hi A c rs) (hx : a.eval x = .slice (some ⟨g, 0, none⟩) 1 1) (hc : w.cell? ⟨g, 0, none⟩ = some r.sv) (hr : r.In w lo2 w.heap.size) (h12 : hi ≤ lo2) (hlo2 : lo ≤ lo2) (hlo : lo ≤ w.heap.size) (hhi : hi ≤ w.heap.size) (hlen : n ≤ 1048576)
    (h : ∀ A' c' w', OwnS w' lo w'.heap.size A' c' (rs ++ [r]) → Kept lo hi w w' → (∀ b0, hi ≤ b0 → b0 < lo2 → b0 < w.heap.size → (∀ a, A' = some a → a.block ≠ b0) ∧ ∀ q ∈ rs ++ [r], q.Off b0) → K (a.put o.dst (.slice A' (n + 1) c')) w') : if Region.wanted o (yielded ops a.tmps) = true then Oper.wp Tryd.prog o a w K Q else E := by
  obtain ⟨ti, hi0, hz0, hz1, hz2⟩ := info_parts infoS
  subst hn
  refine step_append_lies w hgd s x 26 ho lo 61 ti _ 1 24 Tryd.underlying26 hi0 hz0 hz1 hz2 rfl (by decide) (.slice A rs.length c) rs.length (rs.map Rw.sv) hs hown.row ⟨g, 0, none⟩ 1 1 [r.sv] hx rfl
    (by intro j u hj; cases j with | zero => (simp at hj; subst hj; simpa [Addr.add] using hc) | succ j => simp at hj) (by intro u hu; simp at hu; subst hu; rfl) (by omega) (by unfold maxLen; omega) (by omega) hlo _ rfl ?_
  intro g' cap w' h1 hg hat hlt
  obtain ⟨q1, q2⟩ := hown.pushed hr h12 hlo2 hhi h1 hg hat hlt
  refine h _ _ _ q1 q2 (fun b0 h3 h4 h5 => ⟨fun a' ha' => ?_, fun q hq => ?_⟩)
  · cases ha'
    dsimp only
    rcases hat with hat | hat
    · cases A with
      | none => simp [Value.ownBlock] at hat
      | some p =>
        have h6 := hown.top p rfl
        simp [Value.ownBlock] at hat
        omega
    · omega
  · rcases List.mem_append.1 hq with hq | hq
    · exact (hown.mine q hq).off (.inr h3)
    · simp at hq; subst hq
      exact hr.off (.inl h4)

/-- What a call hands back: a triangulation in memory of its own, and a code. -/
def ResTC (w : World) (zss : List (List Int)) (k : Int) (e : Ending) (w' : World) : Prop :=
  ∃ A c rs, e = .returned (.tuple #[.agg #[.slice A rs.length c], .int .i64 k]) ∧ OwnS w' w.heap.size w'.heap.size A c rs ∧ vals rs = zss ∧ Below w.heap.size w w'

theorem free_spec (w : World) : Calls Tryd.prog 46 #[] w fun e w' => e = .returned (.slice (some ⟨w.heap.size, 0, none⟩) 4 4) ∧ BlkF w' w.heap.size fr ∧ Below w.heap.size w w' := by
  go_enter Tryd.func46, Tryd.ntmps46
  go_wp2
  go_ret
  exact ⟨rfl, BlkF.new w fr, al1 _ _⟩

set_option maxRecDepth 100000 in
set_option maxHeartbeats 8000000 in
theorem addTet_spec (A : Option Addr) (n c : Nat) (T : List (List Int)) (w : World) (h : RdT w w.heap.size A n T) (hn : n ≤ 1048576) :
    Calls Tryd.prog 14 #[.agg #[.slice A n c]] w (ResTC w (Tr.addT T) (Tr.addC T)) := by
  have LN := Lib.hid h.len
  have HT := Lib.hid h
  have TI := Lib.hid (fun (W : World) (hb : Below w.heap.size w W) => isTri_specT A n c T W (h.into hb) hn)
  clear h
  obtain ⟨U, hU⟩ : ∃ U, U = (w.alloc (Obj.cells #[.slice A n c] 28)).alloc (Obj.cells #[.slice none 0 0] 28) := ⟨_, rfl⟩
  have hB : Below w.heap.size w U := by rw [hU]; exact al2 w _ _
  have z : U.heap.size = w.heap.size + 2 := by rw [hU]; simp
  have k0 : U.cell? ⟨w.heap.size, 0, none⟩ = some (.slice A n c) := by rw [hU]; simp [go_sem]
  have k1 : U.cell? ⟨w.heap.size + 1, 0, none⟩ = some (.slice none 0 0) := by rw [hU]; simp [go_sem]
  have f1 : U.frozen? ⟨w.heap.size + 1, 0, none⟩ = false := by rw [hU]; simp [go_sem]
  have DU := Lib.hid hB
  clear hB
  go_enter Tryd.func14, Tryd.ntmps14
  go_upto_region 1 with fail
  rw [← hU]
  clear hU
  go_wp2_with fail
  refine (TI.out U DU.out).mono ?_
  rintro e w1 ⟨rfl, hb⟩
  have k0 := (hb.cell (p := ⟨w.heap.size, 0, none⟩) (by dsimp only; omega)).trans k0
  have k1 := (hb.cell (p := ⟨w.heap.size + 1, 0, none⟩) (by dsimp only; omega)).trans k1
  have f1 := (hb.frozen (p := ⟨w.heap.size + 1, 0, none⟩) (by dsimp only; omega)).trans f1
  have z1 : U.heap.size ≤ w1.heap.size := hb.size
  have D1 := Lib.hid (DU.out.trans (hb.mono (by omega)))
  clear hb TI DU
  by_cases hok : Tr.Is T
  case neg =>
    rw [decide_eq_false hok]
    have R := Lib.hid (show Tr.addT T = [] ∧ Tr.addC T = 1 from by unfold Tr.addT Tr.addC; rw [if_neg (fun e => hok e.1), if_neg hok]; exact ⟨rfl, rfl⟩)
    clear hok
    go_wp2
    refine bodyPost_ret (v := .tuple #[.agg #[.slice none 0 0], .int .i64 1]) (by simp [results, Tryd.results14, k1, go_sem]) rfl ?_
    rw [R.out.1, R.out.2]
    exact ⟨none, 0, [], rfl, OwnS.nil _ _ _, rfl, D1.out.setCell (by dsimp only; omega) _⟩
  rw [decide_eq_true hok]
  have h8 : n ≤ 8 := by rw [← LN.out]; exact hok.1
  have H4 := Lib.hid hok.2.1
  go_wp2_with fail
  refine (tets_spec A n c _).mono ?_
  rintro e w2 ⟨rfl, hb⟩
  have k0 := (hb.cell (p := ⟨w.heap.size, 0, none⟩) (by dsimp only; omega)).trans k0
  have k1 := (hb.cell (p := ⟨w.heap.size + 1, 0, none⟩) (by dsimp only; omega)).trans k1
  have f1 := (hb.frozen (p := ⟨w.heap.size + 1, 0, none⟩) (by dsimp only; omega)).trans f1
  have z2 : w1.heap.size ≤ w2.heap.size := hb.size
  have D2 := Lib.hid (D1.out.trans (hb.mono (by omega)))
  clear hb D1
  by_cases he : n = 8
  · have R := Lib.hid (show Tr.addT T = [] ∧ Tr.addC T = 3 from by unfold Tr.addT Tr.addC; rw [if_neg (fun e => e.2 (by rw [LN.out]; exact he)), if_pos hok, if_pos (by rw [LN.out]; exact he)]; exact ⟨rfl, rfl⟩)
    subst he
    clear hok
    go_wp2
    refine bodyPost_ret (v := .tuple #[.agg #[.slice none 0 0], .int .i64 3]) (by simp [results, Tryd.results14, k1, go_sem]) rfl ?_
    rw [R.out.1, R.out.2]
    exact ⟨none, 0, [], rfl, OwnS.nil _ _ _, rfl, D2.out.setCell (by dsimp only; omega) _⟩
  have R := Lib.hid (show Tr.addT T = T ++ [fr] ∧ Tr.addC T = 0 from by unfold Tr.addT Tr.addC; rw [if_pos ⟨hok, fun e => he (by rw [← LN.out]; exact e)⟩, if_pos hok, if_neg (fun e => he (by rw [← LN.out]; exact e))]; exact ⟨rfl, rfl⟩)
  have i1 : ¬ (n : Int) = 8 := by omega
  have b1 : ((n : Int) == 8) = false := by simpa using i1
  clear hok
  go_wp2_with fail
  refine (own_spec A n c T w2 (HT.out.into D2.out) h8 H4.out).mono ?_
  rintro e w3 ⟨A', c', rs, rfl, hO, hV, hb⟩
  have k1 := (hb.cell (p := ⟨w.heap.size + 1, 0, none⟩) (by dsimp only; omega)).trans k1
  have f1 := (hb.frozen (p := ⟨w.heap.size + 1, 0, none⟩) (by dsimp only; omega)).trans f1
  have z3 : w2.heap.size ≤ w3.heap.size := hb.size
  have D3 := Lib.hid (D2.out.trans (hb.mono (by omega)))
  have O3 := Lib.hid hO
  have V3 := Lib.hid hV
  have hl : rs.length ≤ 8 := by rw [← Fc.vals_len, hV, LN.out]; exact h8
  clear hb hO hV D2
  go_upto_region 6 with fail
  obtain ⟨V, hVW⟩ : ∃ V, V = w3.alloc (Obj.cells #[.slice A' rs.length c'] 28) := ⟨_, rfl⟩
  obtain ⟨zV1, zV2⟩ : V.heap.size ≤ w3.heap.size + 1 ∧ w3.heap.size + 1 ≤ V.heap.size := by rw [hVW]; simp
  have e0 : V.cell? ⟨w3.heap.size, 0, none⟩ = some (.slice A' rs.length c') := by rw [hVW]; simp [go_sem]
  have fv : V.frozen? ⟨w3.heap.size, 0, none⟩ = false := by rw [hVW]; simp [go_sem]
  have hBV : Below w3.heap.size w3 V := by rw [hVW]; exact al1 _ _
  have k1 := (hBV.cell (p := ⟨w.heap.size + 1, 0, none⟩) (by dsimp only; omega)).trans k1
  have f1 := (hBV.frozen (p := ⟨w.heap.size + 1, 0, none⟩) (by dsimp only; omega)).trans f1
  have OV := Lib.hid (O3.out.below hBV (Nat.le_refl _))
  have DV := Lib.hid (D3.out.trans (hBV.mono (by omega)))
  have ne : ¬ w.heap.size + 1 = w3.heap.size := by omega
  have lt : w3.heap.size < V.heap.size := by omega
  have lt1 : w.heap.size + 1 < V.heap.size := by omega
  rw [← hVW]
  clear hVW hBV
  go_region_law (first
    | (go_simp; go_at_call 46; (refine (free_spec _).mono ?_); rintro e w5 ⟨rfl, hF, hb5'⟩; have hb5 := undrew hb5'; have B5 := Lib.hid hb5; have F5 := Lib.hid hF; have z5 := hb5.size; have e5 := (hb5.cell (p := ⟨w3.heap.size, 0, none⟩) (by dsimp only; omega)).trans e0; have f5 := (hb5.frozen (p := ⟨w3.heap.size, 0, none⟩) (by dsimp only; omega)).trans fv; have l5 : w3.heap.size < w5.heap.size := (by omega); have y5 := hF.lt; clear hF hb5 hb5')
    | (refine step_push_row2 (by rfl) _ _ (by rfl) w2.heap.size w3.heap.size V.heap.size c' rs.length w5.heap.size A' rs ⟨some ⟨V.heap.size, 0, none⟩, 4, fr⟩ (by rfl) rfl (by exact OV.out.below (B5.out.trans ((al1 w5 _).mono z5)) (by omega)) (by rfl) (by rw [sv_fr]; exact Wd.alloc_first _ _ _ _ rfl) (by exact ⟨⟨by simp [fr], by simp [fr]⟩, by unfold maxLen; dsimp only; omega, (F5.out.alloc _).mine (Nat.le_refl _) (by simp; exact Nat.lt_succ_of_lt y5) rfl⟩) (by omega) (by omega) (by simp; omega) (by simp; omega) (by omega) ?_; intro A8 c8 w8 h5 h6 h7; have X8 := Lib.hid (h7 w3.heap.size (Nat.le_refl _) (by omega) (by simp; omega)); have O8 := Lib.hid h5; have K8 := Lib.hid h6; have s8 := h6.size; simp only [World.size_alloc] at s8; have e8 := (World.cell?_of_block (a := ⟨w3.heap.size, 0, none⟩) (h6.block w3.heap.size (by simp; omega) (by omega))).trans (((al1 w5 _).cell (p := ⟨w3.heap.size, 0, none⟩) (by dsimp only; omega)).trans e5); have f8 := (World.frozen?_of_block (a := ⟨w3.heap.size, 0, none⟩) (h6.block w3.heap.size (by simp; omega) (by omega))).trans (((al1 w5 _).frozen (p := ⟨w3.heap.size, 0, none⟩) (by dsimp only; omega)).trans f5); clear h5 h6 h7))
  all_goals
    have D8 := Lib.hid (show Below w.heap.size w w8 from ((DV.out.trans (B5.out.mono (by omega))).trans ((al1 w5 _).mono (by omega))).trans (K8.out.below (by omega) (by simp; omega)))
    have k8 := (World.cell?_of_block (a := ⟨w.heap.size + 1, 0, none⟩) (K8.out.block (w.heap.size + 1) (by simp; omega) (by omega))).trans (((al1 w5 _).cell (p := ⟨w.heap.size + 1, 0, none⟩) (by dsimp only; omega)).trans ((B5.out.cell (p := ⟨w.heap.size + 1, 0, none⟩) (by dsimp only; omega)).trans k1))
    have f9 := (World.frozen?_of_block (a := ⟨w.heap.size + 1, 0, none⟩) (K8.out.block (w.heap.size + 1) (by simp; omega) (by omega))).trans (((al1 w5 _).frozen (p := ⟨w.heap.size + 1, 0, none⟩) (by dsimp only; omega)).trans ((B5.out.frozen (p := ⟨w.heap.size + 1, 0, none⟩) (by dsimp only; omega)).trans f1))
    clear k0 k1 f1 e0 fv e5 f5 lt lt1
    go_wp2
    refine bodyPost_ret (v := .tuple #[.agg #[.slice A8 (rs.length + 1) c8], .int .i64 0]) (by simp [results, Tryd.results14, k8, go_sem]) rfl ?_
    rw [R.out.1, R.out.2]
    refine ⟨A8, c8, rs ++ [⟨some ⟨V.heap.size, 0, none⟩, 4, fr⟩], by simp, ((O8.out.far_off (p := ⟨w3.heap.size, 0, none⟩) X8.out.1 X8.out.2 _).far (p := ⟨w.heap.size + 1, 0, none⟩) (.inl (by dsimp only; omega)) _).wide (by omega) (by simp [World.setCell]), by rw [vals, List.map_append, ← V3.out]; rfl, (D8.out.setCell (by dsimp only; omega) _).setCell (by dsimp only; omega) _⟩

end Fc
end Go.Proofs.YtajbahfbldmckaaDoor

namespace Go.Proofs.YtajbahfbldmckaaDoor
open Go

section
variable {P : Program} {ops : Array Oper} {Q : Exit → Act → World → Prop} {md : Region.Mode} {S : World → Prop} {N : List Nat}

/-- Whether some load of N might come behind number j. -/
def asksS (md : Region.Mode) (ops : Array Oper) (N : List Nat) (j : Nat) : Bool := N.any fun k => !Region.waitsFor md ops j k
/-- Whatever order is drawn; behind each operation that a load may follow the world meets S. -/
def wpN (P : Program) (md : Region.Mode) (ops : Array Oper) (Q : Exit → Act → World → Prop) (S : World → Prop) (N : List Nat) : Nat → Array Bool → Act → World → Prop
  | 0, l, a, w => Region.ready md ops l = [] ∧ Q .normal a w
  | f + 1, l, a, w => (Region.ready md ops l = [] → Q .normal a w) ∧ ∀ j ∈ Region.ready md ops l, wpOp P ops Q j (fun a' w' => (asksS md ops N j = true → S w') ∧ wpN P md ops Q S N f (l.setIfInBounds j true) a' w') a w

theorem wpAny_of_N : ∀ (f : Nat) (l : Array Bool) (a : Act) (w : World), wpN P md ops Q S N f l a w → wpAny P md ops Q f l a w := by
  intro f
  induction f with
  | zero => exact fun _ _ _ h => h
  | succ f ih => exact fun l a w h => ⟨h.1, fun j hj => wpOp_mono (fun a' w' hk => ih _ a' w' hk.2) (h.2 j hj)⟩

theorem asks_of_ready {i j : Nat} {l : Array Bool} (hN : i ∈ N) (hi : i ∈ Region.ready md ops l) (hj : j ∈ Region.ready md ops l) : asksS md ops N j = true := by
  refine List.any_eq_true.2 ⟨i, hN, ?_⟩
  cases hw : Region.waitsFor md ops j i with
  | false => rfl
  | true =>
    obtain ⟨oj, hoj, e, he, hb, hon⟩ := Region.waitsFor_spec hw
    obtain ⟨_, oj', hoj', hall⟩ := mem_ready.1 hj
    obtain rfl : oj = oj' := Option.some.inj (hoj.symm.trans hoj')
    have h1 := hall e he hb
    rw [hon, getD_both (mem_ready.1 hi).1] at h1
    cases h1

/-- A load of N is taken first. -/
theorem wpN_first {i : Nat} {oi : Oper} {v : Value} (hi : ops[i]? = some oi) (hN : i ∈ N) (hsel : ∀ (j : Nat) (o : Oper) cs b, ops[j]? = some o → o.op ≠ .select cs b)
    (hQ : ∀ c a w, Q (.panic c) (a.put oi.dst v) w → Q (.panic c) a w) (f : Nat) :
    ∀ (l : Array Bool) (a : Act) (w : World), (∀ j oj, ops[j]? = some oj → j ≠ i → l.getD j true = false → (∀ e ∈ oj.after, Region.binds md e = true → e.on ≠ i) → oi.apart ops oj = true) →
      i ∈ Region.ready md ops l → YieldsIf P ops S oi v a → S w → wpN P md ops Q S N f (l.setIfInBounds i true) (a.put oi.dst v) w → wpN P md ops Q S N (f + 1) l a w := by
  induction f with
  | zero =>
    intro l a w _ hr hy hS H
    refine ⟨fun h => absurd hr (by rw [h]; exact List.not_mem_nil), fun j hj => ?_⟩
    by_cases e : j = i
    · rw [e]
      exact hy.wpOp hi hS ⟨fun _ => hS, H⟩
    · have h2 := ready_mono hj e
      rw [H.1] at h2
      exact absurd h2 List.not_mem_nil
  | succ f ih =>
    intro l a w hf hr hy hS H
    refine ⟨fun h => absurd hr (by rw [h]; exact List.not_mem_nil), fun j hj => ?_⟩
    by_cases e : j = i
    · rw [e]
      exact hy.wpOp hi hS ⟨fun _ => hS, H⟩
    have hask := asks_of_ready hN hr hj
    obtain ⟨hlj, oj, hoj, hall⟩ := mem_ready.1 hj
    have hfree : ∀ x ∈ oj.after, Region.binds md x = true → x.on ≠ i := fun x hx hb hon => by
      have h1 := hall x hx hb
      rw [hon, getD_both (mem_ready.1 hr).1] at h1
      cases h1
    refine wpOp_mono (fun a' w' hk => ?_) (wpOp_putIf hoj (hf j oj hoj e hlj hfree) (fun cs b => hsel i oi cs b hi) (fun cs b => hsel j oj cs b hoj) hQ hy (H.2 j (ready_mono hj e)))
    refine ⟨fun _ => hk.2.1 hask, ih _ a' w' (fun k ok hk1 hk2 hk3 hk4 => hf k ok hk1 hk2 ?_ hk4) (ready_mono hr (Ne.symm e)) hk.1 (hk.2.1 hask) ?_⟩
    · by_cases e2 : j = k
      · rw [← e2]; exact hlj
      · rw [getD_set_ne true e2] at hk3; exact hk3
    · rw [Array.setIfInBounds_comm _ _ e]
      exact hk.2.2
theorem wpN_take {i : Nat} {oi : Oper} {v : Value} {f : Nat} {l : Array Bool} {a : Act} {w : World} (hi : ops[i]? = some oi) (hN : N.contains i = true) (hs : Region.noSelect ops = true) (hf : Region.free md ops l i = true) (hr : (Region.ready md ops l).contains i = true)
    (hQ : ∀ c a w, Q (.panic c) (a.put oi.dst v) w → Q (.panic c) a w) (hy : YieldsIf P ops S oi v a) (hS : S w) (h : wpN P md ops Q S N f (l.setIfInBounds i true) (a.put oi.dst v) w) : wpN P md ops Q S N (f + 1) l a w :=
  wpN_first hi (by simpa using hN) (Region.noSelect_spec hs) hQ f l a w (Region.free_spec hi hf) (by simpa using hr) hy hS h
/-- One operation alone may come up. -/
theorem wpN_one {j : Nat} {o : Oper} {f : Nat} {l : Array Bool} {a : Act} {w : World} (hr : Region.ready md ops l = [j]) (ho : ops[j]? = some o)
    (h : ∀ K : Act → World → Prop, (∀ a' w', (asksS md ops N j = true → S w') → wpN P md ops Q S N f (l.setIfInBounds j true) a' w' → K a' w') → if Region.wanted o (yielded ops a.tmps) = true then Oper.wp P o a w K Q else K (a.put o.dst undef) w) : wpN P md ops Q S N (f + 1) l a w := by
  refine ⟨(fun h0 => by rw [hr] at h0; cases h0), fun k hk => ?_⟩
  rw [hr] at hk
  obtain rfl : k = j := by simpa using hk
  have h1 := h (fun a' w' => (asksS md ops N k = true → S w') ∧ wpN P md ops Q S N f (l.setIfInBounds k true) a' w') (fun a' w' h2 h3 => ⟨h2, h3⟩)
  unfold wpOp
  simp only [ho]
  split
  · rename_i hw; rw [if_pos hw] at h1; exact .inl h1
  · rename_i hw; rw [if_neg hw] at h1; exact h1
/-- All have come up. -/
theorem wpN_done {f : Nat} {l : Array Bool} {a : Act} {w : World} (hr : Region.ready md ops l = []) (h : Q .normal a w) : wpN P md ops Q S N f l a w := by
  cases f with
  | zero => exact ⟨hr, h⟩
  | succ f => exact ⟨fun _ => h, (fun k hk => by rw [hr] at hk; cases hk)⟩
/-- The beginning, in a program under 'wide'. -/
theorem wp_region_N (S : World → Prop) (N : List Nat) {id : Nat} {a : Act} {w : World} (hm : P.follows .mixedOrders = true) (h : wpN P .any ops Q S N ops.size (Array.replicate ops.size false) a w.drew) : (Code.region id ops true).wp P Q a w :=
  wp_region_any hm (wpAny_of_N _ _ _ _ h)
end

end Go.Proofs.YtajbahfbldmckaaDoor

namespace Go.Proofs.YtajbahfbldmckaaDoor
namespace Tc
open Tr
/-- Some face of u is glued to b. -/
def Adj (T : List (List Int)) (u b : Nat) : Prop := ∃ f, f < 4 ∧ tt T u f = (b : Int)
/-- What is reached from v through places that are negative. -/
inductive Reach (T : List (List Int)) (c : List Int) (v : Nat) : Nat → Prop
  | refl : Reach T c v v
  | step {u b : Nat} : Reach T c v u → Adj T u b → c.getD b 0 < 0 → Reach T c v b
open Classical in
/-- All that is reached gets the number k. -/
noncomputable def mark (T : List (List Int)) (c : List Int) (v : Nat) (k : Int) : List Int := (List.range c.length).map fun u => if Reach T c v u then k else c.getD u 0
theorem mark_len (T : List (List Int)) (c : List Int) (v : Nat) (k : Int) : (mark T c v k).length = c.length := by simp [mark]
theorem mark_at {T : List (List Int)} {c : List Int} {v : Nat} {k : Int} {u : Nat} (hu : u < c.length) : (Reach T c v u → (mark T c v k).getD u 0 = k) ∧ (¬ Reach T c v u → (mark T c v k).getD u 0 = c.getD u 0) := by
  have h : (mark T c v k)[u]? = some (@ite _ (Reach T c v u) (Classical.propDecidable _) k (c.getD u 0)) := by
    unfold mark
    rw [List.getElem?_map, List.getElem?_range hu]
    rfl
  constructor
  · intro hr; rw [List.getD_eq_getElem?_getD, h, if_pos hr]; rfl
  · intro hr; rw [List.getD_eq_getElem?_getD, h, if_neg hr]; rfl
/-- What numbering the component of v leaves. -/
structure Post (T : List (List Int)) (c : List Int) (v : Nat) (k : Int) (d : List Int) : Prop where
  len : d.length = c.length
  old : ∀ u, u < c.length → d.getD u 0 = c.getD u 0 ∨ (Reach T c v u ∧ d.getD u 0 = k)
  at_ : d.getD v 0 = k
  closed : ∀ u, u < c.length → Reach T c v u → d.getD u 0 = k → ∀ b, b < c.length → Adj T u b → 0 ≤ d.getD b 0
/-- Glued faces lie within the table. -/
def Within (T : List (List Int)) (n : Nat) : Prop := ∀ u, u < n → ∀ f, f < 4 → tt T u f < (n : Int)
theorem Within.adj {T : List (List Int)} {n : Nat} (h : Within T n) {u b : Nat} (hu : u < n) (ha : Adj T u b) : b < n := by
  obtain ⟨f, hf, e⟩ := ha
  have := h u hu f hf
  omega
theorem Reach.lt {T : List (List Int)} {c : List Int} {v : Nat} (hW : Within T c.length) (hv : v < c.length) {u : Nat} (h : Reach T c v u) : u < c.length := by
  induction h with
  | refl => exact hv
  | step _ ha _ ih => exact hW.adj ih ha
theorem Reach.neg {T : List (List Int)} {c : List Int} {v : Nat} (hv : c.getD v 0 < 0) {u : Nat} (h : Reach T c v u) : c.getD u 0 < 0 := by
  cases h with
  | refl => exact hv
  | step _ _ hb => exact hb
theorem ext_getD {c d : List Int} (h : c.length = d.length) (h2 : ∀ u, u < c.length → c.getD u 0 = d.getD u 0) : c = d := by
  refine List.ext_getElem h fun u h1 h3 => ?_
  have := h2 u h1
  rw [List.getD_eq_getElem?_getD, List.getD_eq_getElem?_getD, List.getElem?_eq_getElem h1, List.getElem?_eq_getElem h3] at this
  exact this
theorem Post.eq {T : List (List Int)} {c d : List Int} {v : Nat} {k : Int} (h : Post T c v k d) (hW : Within T c.length) (hv : v < c.length) : d = mark T c v k := by
  refine ext_getD (by rw [mark_len]; exact h.len) fun u hu => ?_
  rw [h.len] at hu
  have hr : ∀ u, Reach T c v u → d.getD u 0 = k := fun u hr => by
    induction hr with
    | refl => exact h.at_
    | @step u b hr ha hb ih =>
      have hul := hr.lt hW hv
      have hbl := hW.adj hul ha
      have h1 := h.closed u hul hr ih b hbl ha
      rcases h.old b hbl with h2 | h2
      · omega
      · exact h2.2
  by_cases hx : Reach T c v u
  · rw [hr u hx, (mark_at hu).1 hx]
  · rw [(mark_at hu).2 hx]
    rcases h.old u hu with h2 | h2
    · exact h2
    · exact absurd h2.1 hx
theorem mark_post {T : List (List Int)} {c : List Int} {v : Nat} {k : Int} (hk : 0 ≤ k) (hv : v < c.length) : Post T c v k (mark T c v k) := by
  refine ⟨mark_len _ _ _ _, fun u hu => ?_, (mark_at hv).1 .refl, fun u hu hr _ b hb ha => ?_⟩
  · by_cases hx : Reach T c v u
    · exact .inr ⟨hx, (mark_at hu).1 hx⟩
    · exact .inl ((mark_at hu).2 hx)
  · by_cases hx : Reach T c v b
    · rw [(mark_at hb).1 hx]; exact hk
    · rw [(mark_at hb).2 hx]
      by_cases hn : c.getD b 0 < 0
      · exact absurd (.step hr ha hn) hx
      · omega

/-- How many places are negative. -/
def neg : List Int → Nat
  | [] => 0
  | x :: c => (if x < 0 then 1 else 0) + neg c
theorem neg_le : ∀ c : List Int, neg c ≤ c.length
  | [] => Nat.le_refl _
  | x :: c => by have := neg_le c; simp only [neg, List.length_cons]; split <;> omega
theorem neg_mono : ∀ (c d : List Int), c.length = d.length → (∀ u, u < c.length → c.getD u 0 < 0 → d.getD u 0 < 0) → neg c ≤ neg d
  | [], [], _, _ => Nat.le_refl _
  | [], _ :: _, h, _ => by simp at h
  | _ :: _, [], h, _ => by simp at h
  | x :: c, y :: d, h, h2 => by
    have h3 := neg_mono c d (by simpa using h) fun u hu hn => by
      have := h2 (u + 1) (by simp; omega) (by simpa using hn)
      simpa using this
    have h4 := h2 0 (by simp)
    simp at h4
    simp only [neg]
    split
    · rw [if_pos (by omega)]; omega
    · omega
theorem neg_set : ∀ (c : List Int) (v : Nat) (k : Int), v < c.length → c.getD v 0 < 0 → 0 ≤ k → neg (c.set v k) + 1 = neg c
  | [], _, _, h, _, _ => by simp at h
  | x :: c, 0, k, _, h, hk => by
    simp at h
    simp only [List.set_cons_zero, neg]
    rw [if_pos h, if_neg (by omega)]
    omega
  | x :: c, v + 1, k, hl, h, hk => by
    have := neg_set c v k (by simpa using hl) (by simpa using h) hk
    simp only [List.set_cons_succ, neg]
    omega
theorem getD_set (c : List Int) (v u : Nat) (k : Int) (hv : v < c.length) : (c.set v k).getD u 0 = if u = v then k else c.getD u 0 := by
  rw [List.getD_eq_getElem?_getD, List.getD_eq_getElem?_getD, List.getElem?_set]
  by_cases h : v = u
  · subst h; rw [if_pos rfl, if_pos hv, if_pos rfl]; rfl
  · rw [if_neg h, if_neg (fun e => h e.symm)]

/-- Behind m faces of v in depth: what v's own call knows. -/
structure Deep (T : List (List Int)) (c : List Int) (v : Nat) (k : Int) (m : Nat) (d : List Int) : Prop where
  len : d.length = c.length
  old : ∀ u, u < c.length → d.getD u 0 = c.getD u 0 ∨ (Reach T c v u ∧ d.getD u 0 = k)
  at_ : d.getD v 0 = k
  closed : ∀ u, u < c.length → u ≠ v → Reach T c v u → d.getD u 0 = k → ∀ b, b < c.length → Adj T u b → 0 ≤ d.getD b 0
  mine : ∀ f, f < m → ∀ b : Nat, b < c.length → tt T v f = (b : Int) → 0 ≤ d.getD b 0
theorem Deep.start {T : List (List Int)} {c : List Int} {v : Nat} {k : Int} (hv : v < c.length) (hn : c.getD v 0 < 0) (hk : 0 ≤ k) : Deep T c v k 0 (c.set v k) := by
  refine ⟨List.length_set .., fun u hu => ?_, by rw [getD_set _ _ _ _ hv, if_pos rfl], fun u hu hne hr hd => ?_, fun f hf => absurd hf (Nat.not_lt_zero _)⟩
  · rw [getD_set _ _ _ _ hv]
    by_cases h : u = v
    · subst h; exact .inr ⟨.refl, if_pos rfl⟩
    · exact .inl (if_neg h)
  · rw [getD_set _ _ _ _ hv, if_neg hne] at hd
    have := hr.neg hn
    omega
theorem Deep.skip {T : List (List Int)} {c d : List Int} {v m : Nat} {k : Int} (h : Deep T c v k m d) (h2 : ∀ b : Nat, b < c.length → tt T v m = (b : Int) → 0 ≤ d.getD b 0) : Deep T c v k (m + 1) d :=
  ⟨h.len, h.old, h.at_, h.closed, fun f hf b hb e => by
    by_cases hfm : f = m
    · subst hfm; exact h2 b hb e
    · exact h.mine f (by omega) b hb e⟩
theorem Deep.into {T : List (List Int)} {c d : List Int} {v m b : Nat} {k : Int} (h : Deep T c v k m d) (hW : Within T c.length) (hv : v < c.length) (hk : 0 ≤ k) (hm : m < 4) (hb : b < c.length) (e : tt T v m = (b : Int)) (hn : d.getD b 0 < 0) : Deep T c v k (m + 1) (mark T d b k) := by
  have hb' : b < d.length := by rw [h.len]; exact hb
  have P := mark_post (T := T) (c := d) (v := b) hk hb'
  have back : ∀ u, u < c.length → d.getD u 0 < 0 → c.getD u 0 < 0 := fun u hu hd => by
    rcases h.old u hu with h1 | h1
    · omega
    · omega
  have hcb : Reach T c v b := .step .refl ⟨m, hm, e⟩ (back b hb hn)
  have sub : ∀ u, Reach T d b u → Reach T c v u := fun u hr => by
    induction hr with
    | refl => exact hcb
    | @step u x hr ha hx ih => exact .step ih ha (back x (hW.adj (ih.lt hW hv) ha) hx)
  have up : ∀ u, u < c.length → 0 ≤ d.getD u 0 → 0 ≤ (mark T d b k).getD u 0 := fun u hu h0 => by
    rcases P.old u (by rw [h.len]; exact hu) with h1 | h1 <;> omega
  refine ⟨by rw [P.len, h.len], fun u hu => ?_, ?_, fun u hu hne hr hd x hx ha => ?_, fun f hf x hx ex => ?_⟩
  · rcases P.old u (by rw [h.len]; exact hu) with h1 | h1
    · rw [h1]; exact h.old u hu
    · exact .inr ⟨sub u h1.1, h1.2⟩
  · rcases P.old v (by rw [h.len]; exact hv) with h1 | h1
    · rw [h1]; exact h.at_
    · exact h1.2
  · by_cases hdu : d.getD u 0 = k
    · exact up x hx (h.closed u hu hne hr hdu x hx ha)
    · rcases P.old u (by rw [h.len]; exact hu) with h1 | h1
      · omega
      · exact P.closed u (by rw [h.len]; exact hu) h1.1 h1.2 x (by rw [h.len]; exact hx) ha
  · by_cases hfm : f = m
    · subst hfm
      rw [ex] at e
      have : x = b := by omega
      subst this
      rw [P.at_]; exact hk
    · exact up x hx (h.mine f (by omega) x hx ex)
theorem Deep.post {T : List (List Int)} {c d : List Int} {v : Nat} {k : Int} (h : Deep T c v k 4 d) : Post T c v k d :=
  ⟨h.len, h.old, h.at_, fun u hu hr hd b hb ha => by
    by_cases hne : u = v
    · subst hne
      obtain ⟨f, hf, e⟩ := ha
      exact h.mine f hf b hb e
    · exact h.closed u hu hne hr hd b hb ha⟩
theorem Deep.neg {T : List (List Int)} {c d : List Int} {v m : Nat} {k : Int} (h : Deep T c v k m d) (hv : v < c.length) (hn : c.getD v 0 < 0) (hk : 0 ≤ k) : Tc.neg d + 1 ≤ Tc.neg c := by
  have h1 := neg_set c v k hv hn hk
  have h2 := neg_mono d (c.set v k) (by rw [List.length_set]; exact h.len) fun u hu hd => by
    rw [h.len] at hu
    rw [getD_set _ _ _ _ hv]
    by_cases hne : u = v
    · subst hne; rw [h.at_] at hd; omega
    · rw [if_neg hne]
      rcases h.old u hu with h3 | h3 <;> omega
  omega

/-- In breadth: the list of those that are numbered, i of them done, f faces of the next. -/
structure Wide (T : List (List Int)) (c : List Int) (v : Nat) (k : Int) (l : List Nat) (i f : Nat) (d : List Int) : Prop where
  len : d.length = c.length
  old : ∀ u, u < c.length → d.getD u 0 = c.getD u 0 ∨ (Reach T c v u ∧ d.getD u 0 = k)
  at_ : d.getD v 0 = k
  in_ : ∀ u ∈ l, u < c.length ∧ Reach T c v u
  all : ∀ u, u < c.length → Reach T c v u → d.getD u 0 = k → u ∈ l
  done : ∀ j, j < i → ∀ u, l[j]? = some u → ∀ b, b < c.length → Adj T u b → 0 ≤ d.getD b 0
  here : ∀ u, l[i]? = some u → ∀ g, g < f → ∀ b : Nat, b < c.length → tt T u g = (b : Int) → 0 ≤ d.getD b 0
  room : l.length + Tc.neg d ≤ c.length
theorem Wide.start {T : List (List Int)} {c : List Int} {v : Nat} {k : Int} (hv : v < c.length) (hn : c.getD v 0 < 0) (hk : 0 ≤ k) : Wide T c v k [v] 0 0 (c.set v k) := by
  have D := Deep.start (T := T) hv hn hk
  refine ⟨D.len, D.old, D.at_, fun u hu => ?_, fun u hu hr hd => ?_, fun j hj => absurd hj (Nat.not_lt_zero _), fun u _ g hg => absurd hg (Nat.not_lt_zero _), ?_⟩
  · simp at hu; subst hu; exact ⟨hv, .refl⟩
  · by_cases h : u = v
    · simp [h]
    · rw [getD_set _ _ _ _ hv, if_neg h] at hd
      have := hr.neg hn
      omega
  · have := neg_set c v k hv hn hk
    have := neg_le c
    simp
    omega
theorem Wide.skip {T : List (List Int)} {c d : List Int} {v i f u : Nat} {k : Int} {l : List Nat} (h : Wide T c v k l i f d) (hu : l[i]? = some u) (h2 : ∀ b : Nat, b < c.length → tt T u f = (b : Int) → 0 ≤ d.getD b 0) : Wide T c v k l i (f + 1) d :=
  ⟨h.len, h.old, h.at_, h.in_, h.all, h.done, fun x hx g hg b hb e => by
    rw [hu] at hx
    cases hx
    by_cases hgf : g = f
    · subst hgf; exact h2 b hb e
    · exact h.here u hu g (by omega) b hb e, h.room⟩
theorem Wide.next {T : List (List Int)} {c d : List Int} {v i u : Nat} {k : Int} {l : List Nat} (h : Wide T c v k l i 4 d) (hu : l[i]? = some u) : Wide T c v k l (i + 1) 0 d :=
  ⟨h.len, h.old, h.at_, h.in_, h.all, fun j hj x hx b hb ha => by
    by_cases hji : j = i
    · subst hji
      rw [hu] at hx
      cases hx
      obtain ⟨f, hf, e⟩ := ha
      exact h.here u hu f hf b hb e
    · exact h.done j (by omega) x hx b hb ha, fun x _ g hg => absurd hg (Nat.not_lt_zero _), h.room⟩
theorem Wide.into {T : List (List Int)} {c d : List Int} {v i f u b : Nat} {k : Int} {l : List Nat} (h : Wide T c v k l i f d) (hk : 0 ≤ k) (hu : l[i]? = some u) (hf : f < 4) (hb : b < c.length) (e : tt T u f = (b : Int)) (hn : d.getD b 0 < 0) : Wide T c v k (l ++ [b]) i (f + 1) (d.set b k) := by
  have hb' : b < d.length := by rw [h.len]; exact hb
  have hul := h.in_ u (List.mem_of_getElem? hu)
  have hil : i < l.length := (List.getElem?_eq_some_iff.1 hu).1
  have hcb : c.getD b 0 < 0 := by
    rcases h.old b hb with h1 | h1 <;> omega
  have hrb : Reach T c v b := .step hul.2 ⟨f, hf, e⟩ hcb
  have up : ∀ x, 0 ≤ d.getD x 0 → 0 ≤ (d.set b k).getD x 0 := fun x h0 => by
    rw [getD_set _ _ _ _ hb']
    split <;> omega
  refine ⟨by rw [List.length_set, h.len], fun x hx => ?_, ?_, fun x hx => ?_, fun x hx hr hd => ?_, fun j hj x hx y hy ha => ?_, fun x hx g hg y hy ey => ?_, ?_⟩
  · rw [getD_set _ _ _ _ hb']
    by_cases hxb : x = b
    · subst hxb; rw [if_pos rfl]; exact .inr ⟨hrb, rfl⟩
    · rw [if_neg hxb]; exact h.old x hx
  · rw [getD_set _ _ _ _ hb']
    split
    · rfl
    · exact h.at_
  · rcases List.mem_append.1 hx with hx | hx
    · exact h.in_ x hx
    · simp at hx; subst hx; exact ⟨hb, hrb⟩
  · rw [getD_set _ _ _ _ hb'] at hd
    by_cases hxb : x = b
    · simp [hxb]
    · rw [if_neg hxb] at hd
      exact List.mem_append_left _ (h.all x hx hr hd)
  · rw [List.getElem?_append_left (by omega)] at hx
    exact up y (h.done j hj x hx y hy ha)
  · rw [List.getElem?_append_left hil, hu] at hx
    cases hx
    by_cases hgf : g = f
    · subst hgf
      rw [ey] at e
      have : y = b := by omega
      subst this
      rw [getD_set _ _ _ _ hb', if_pos rfl]; exact hk
    · exact up y (h.here u hu g (by omega) y hy ey)
  · have h1 := neg_set d b k hb' hn hk
    have h2 := h.room
    simp
    omega
theorem Wide.post {T : List (List Int)} {c d : List Int} {v i : Nat} {k : Int} {l : List Nat} (h : Wide T c v k l i 0 d) (hi : l.length ≤ i) : Post T c v k d :=
  ⟨h.len, h.old, h.at_, fun u hu hr hd b hb ha => by
    obtain ⟨j, hj, e⟩ := List.getElem_of_mem (h.all u hu hr hd)
    exact h.done j (by omega) u (by rw [List.getElem?_eq_getElem hj, e]) b hb ha⟩

/-- The components of the first a tetrahedra are numbered; the next number. -/
noncomputable def prt (T : List (List Int)) : Nat → List Int × Int
  | 0 => (List.replicate T.length (-1), 0)
  | a + 1 => if (prt T a).1.getD a 0 < 0 then (mark T (prt T a).1 a (prt T a).2, (prt T a).2 + 1) else prt T a
theorem prt_yes {T : List (List Int)} {a : Nat} (h : (prt T a).1.getD a 0 < 0) : prt T (a + 1) = (mark T (prt T a).1 a (prt T a).2, (prt T a).2 + 1) := by simp only [prt]; rw [if_pos h]
theorem prt_no {T : List (List Int)} {a : Nat} (h : ¬ (prt T a).1.getD a 0 < 0) : prt T (a + 1) = prt T a := by simp only [prt]; rw [if_neg h]
theorem prt_len (T : List (List Int)) (a : Nat) : (prt T a).1.length = T.length := by
  induction a with
  | zero => simp [prt]
  | succ a ih =>
    by_cases h : (prt T a).1.getD a 0 < 0
    · rw [prt_yes h, mark_len, ih]
    · rw [prt_no h, ih]
theorem prt_num (T : List (List Int)) (a : Nat) : 0 ≤ (prt T a).2 ∧ (prt T a).2 ≤ a := by
  induction a with
  | zero => simp [prt]
  | succ a ih =>
    by_cases h : (prt T a).1.getD a 0 < 0
    · rw [prt_yes h]; dsimp only; omega
    · rw [prt_no h]; omega
/-- What TetComponents hands back. -/
noncomputable def cmp (T : List (List Int)) : List Int := if Is T then (prt T T.length).1 else []
theorem cmp_len (T : List (List Int)) : (cmp T).length ≤ 8 := by
  unfold cmp
  split
  · rename_i h
    rw [prt_len]; exact h.1
  · simp
theorem within {T : List (List Int)} (h : Is T) : Within T T.length := fun u hu f hf => by
  rcases (h.2.2 u hu f hf).ok with e | ⟨⟨_, t1⟩, _⟩
  · have := e.1; omega
  · exact t1
end Tc
end Go.Proofs.YtajbahfbldmckaaDoor

namespace Go.Proofs.YtajbahfbldmckaaDoor
open Go.RowKit
namespace Fc
set_option maxRecDepth 100000 in
set_option maxHeartbeats 8000000 in
theorem number_impl (A : Option Addr) (n cA g B : Nat) (T : List (List Int)) (k : Int) (hIs : Tr.Is T) (hln : T.length = n) (hBg : B ≤ g) (hB1 : 3 < B) (hk : 0 ≤ k) : ∀ fuel : Nat, ∀ (c : List Int) (v : Nat) (w : World), Tc.neg c ≤ fuel → c.length = n → v < n → c.getD v 0 < 0 → RdT w B A n T → Vs w → Blk w g c →
    Calls Tryd.prog 68 #[.agg #[.slice A n cA], .slice (some ⟨g, 0, none⟩) n n, .int .i64 (v : Int), .int .i64 k] w fun e w' => e = .returned (.tuple #[]) ∧ Blk w' g (Tc.mark T c v k) ∧ Kept g (g + 1) w w' := by
  intro fuel
  induction fuel with
  | zero =>
    intro c v w hf hc hv hn
    have := Tc.neg_set c v k (by omega) hn hk
    omega
  | succ fuel ih =>
    intro c v w hf hc hv hn hR hV hG
    have gl := hG.lt
    have h8 : n ≤ 8 := by rw [← hln]; exact hIs.1
    have LN := Lib.hid hln
    have IS := Lib.hid hIs
    have NF := Lib.hid hf
    have LC := Lib.hid hc
    have HN := Lib.hid hn
    obtain ⟨U, hU⟩ : ∃ U, U = w.alloc (Obj.cells #[.slice A n cA] 28) := ⟨_, rfl⟩
    have hB : Below w.heap.size w U := by rw [hU]; exact al1 w _
    have z : U.heap.size = w.heap.size + 1 := by rw [hU]; simp
    have k0 : U.cell? ⟨w.heap.size, 0, none⟩ = some (.slice A n cA) := by rw [hU]; simp [go_sem]
    have GU := Lib.hid (hG.below hB gl)
    have c0 : U.cell? ⟨g, v, none⟩ = some (.int .i64 (c.getD v 0)) := GU.out.cell (by omega)
    have c1 : U.frozen? ⟨g, v, none⟩ = false := GU.out.frozen v
    have RU := Lib.hid (hR.below (hB.mono (by omega)))
    have VU := Lib.hid (hV.below (hB.mono (show B ≤ w.heap.size by omega)) hB1)
    have KU := Lib.hid (Kept.of_below hB g (g + 1))
    have iv0 : (0 : Int) ≤ (v : Int) := by omega
    have iv1 : (v : Int) < (n : Int) := by omega
    clear hR hV hG hB hIs hln hc hf
    go_enter Tryd.func68, Tryd.ntmps68
    go_upto_region 1 with fail
    rw [← hU]
    clear hU
    go_upto_region 2 with fail
    obtain ⟨V, hVV⟩ : ∃ V, V = U.setCell ⟨g, v, none⟩ (.int .i64 k) := ⟨_, rfl⟩
    have zV : V.heap.size = U.heap.size := by rw [hVV]; simp [World.setCell]
    have BUV : Below B U V := by rw [hVV]; exact (Below.refl B U).setCell (by dsimp only; omega) _
    have k0 : V.cell? ⟨w.heap.size, 0, none⟩ = some (.slice A n cA) := by rw [hVV, World.cell?_setCell_other _ _ _ _ (by first | (simp; done) | (simp; omega))]; exact k0
    have GV := Lib.hid (show Blk V g (c.set v k) from by rw [hVV]; exact GU.out.set_ v k)
    have RV := Lib.hid (RU.out.below BUV)
    have VV := Lib.hid (VU.out.below BUV hB1)
    have KV := Lib.hid (show Kept g (g + 1) w V from by rw [hVV]; exact KU.out.set_ (Nat.le_refl _) (Nat.lt_succ_self _) _)
    have D0 := Lib.hid (Tc.Deep.start (T := T) (c := c) (v := v) (k := k) (by rw [LC.out]; exact hv) HN.out hk)
    rw [← hVV]
    clear hVV BUV c0 c1 GU RU VU KU
    obtain ⟨b, off, gr, o, cj, rfl, hb, hgr, hcr, h4, hcm, hcf⟩ := RV.out.row4 hv (IS.out.2.1 v (by rw [LN.out]; exact hv))
    have FC := Lib.hid hcf
    clear hcf
    go_wp2
    go_loopw [20] (fun i W => ∃ (m : Nat) (d : List Int), m ≤ 4 ∧ i = .int .i64 m ∧ Tc.Deep T c v k m d ∧ Blk W g d ∧ Kept g (g + 1) V W) (fun i _ => 4 - (intOf i).toNat)
    case atStart => exact ⟨0, _, by omega, rfl, D0.out, GV.out, Kept.refl _ _ _⟩
    case round =>
      obtain ⟨W, rfl⟩ : ∃ W : World, W = wr := ⟨_, rfl⟩
      obtain ⟨m, d, hm, rfl, hD, hGd, hKd⟩ := hrel
      have DD := Lib.hid hD
      have GD := Lib.hid hGd
      have KD := Lib.hid hKd
      have zW : V.heap.size ≤ W.heap.size := hKd.size
      have BW := Lib.hid (hKd.below (B := B) hBg (by omega))
      have k0 := (World.cell?_of_block (a := ⟨w.heap.size, 0, none⟩) (hKd.block w.heap.size (by omega) (by omega))).trans k0
      have i0 : (0 : Int) ≤ (m : Int) := by omega
      clear hD hGd hKd
      by_cases hlt : m < 4
      case neg =>
        obtain rfl : m = 4 := by omega
        have PE := Lib.hid (DD.out.post.eq (by rw [LC.out, ← LN.out]; exact Tc.within IS.out) (by rw [LC.out]; exact hv))
        go_wp2
        refine bodyPost_end (results_none rfl _ _ _) rfl ?_
        exact ⟨rfl, by rw [← PE.out]; exact GD.out, KV.out.trans KD.out⟩
      have i1 : (m : Int) < 4 := by omega
      obtain ⟨q0, q1⟩ := FC.out m hlt
      have q0 := (BW.out.cell (p := ⟨gr, o + m * 2, none⟩) (by dsimp only; omega)).trans q0
      have q1 := (BW.out.cell (p := ⟨gr, o + m * 2 + 1, none⟩) (by dsimp only; omega)).trans q1
      obtain ⟨tv, htv⟩ : ∃ tv, Tr.tt T v m = tv := ⟨_, rfl⟩
      obtain ⟨pv, hpv⟩ : ∃ pv, Tr.pp T v m = pv := ⟨_, rfl⟩
      rw [htv] at q0
      rw [hpv] at q1
      obtain ⟨X, hX⟩ : ∃ X, X = W.alloc (Obj.cells #[.int .i64 tv, .int .i64 pv] 72) := ⟨_, rfl⟩
      have zX : X.heap.size = W.heap.size + 1 := by rw [hX]; simp
      have BX := Lib.hid (show Below W.heap.size W X from by rw [hX]; exact al1 _ _)
      go_upto_region 5 with fail
      rw [← hX]
      have k0 := (BX.out.cell (p := ⟨w.heap.size, 0, none⟩) (by dsimp only; omega)).trans k0
      have x0 : X.cell? ⟨W.heap.size, 0, none⟩ = some (.int .i64 tv) := by rw [hX]; simp [go_sem]
      have x1 : X.cell? ⟨W.heap.size, 1, none⟩ = some (.int .i64 pv) := by rw [hX]; simp [go_sem]
      have GX := Lib.hid (GD.out.below BX.out (by omega))
      have KX := Lib.hid (KD.out.trans (Kept.of_below BX.out _ _))
      have BVX := Lib.hid (BW.out.trans (BX.out.mono (by omega)))
      obtain ⟨v0, v1⟩ := (VV.out.below BVX.out hB1).2
      clear hX q0 q1 BX GD KD BW
      by_cases hbd : tv = -1 ∧ pv = 0
      · have FE : ∀ Z, (Op.equalIn 10000 72 (.agg #[.int .i64 tv, .int .i64 pv]) (.agg #[.int .i64 (-1), .int .i64 0])).run Tryd.prog Z = .ok true Z := fun Z => by
          rw [face_eq, hbd.1, hbd.2]; rfl
        have DN := Lib.hid (DD.out.skip (m := m) (fun b' hb' e => by rw [htv, hbd.1] at e; omega))
        clear htv hpv hbd
        go_wp2
        go_roundw
        case rel => exact ⟨m + 1, d, by omega, by go_num, DN.out, GX.out, KX.out⟩
        case measure => simp [intOf]; omega
      have hnb : ¬ Tr.Bd T v m := fun e => hbd ⟨by rw [← htv]; exact e.1, by rw [← hpv]; exact e.2⟩
      obtain ⟨tb, p, ht, hp, htn, hp24, -, -, -, -, -⟩ := IS.out.glued (a := v) (f := m) (by rw [LN.out]; exact hv) hlt hnb
      have E1 := Lib.hid ht
      rw [htv] at ht
      subst ht
      have FE : ∀ Z, (Op.equalIn 10000 72 (.agg #[.int .i64 (tb : Int), .int .i64 pv]) (.agg #[.int .i64 (-1), .int .i64 0])).run Tryd.prog Z = .ok false Z := fun Z => by
        rw [face_eq, show (((tb : Nat) : Int) == -1) = false from by first | (simp; done) | (simp; omega)]; rfl
      have htn' : tb < n := by rw [← LN.out]; exact htn
      have it0 : (0 : Int) ≤ (tb : Int) := by omega
      have it1 : (tb : Int) < (n : Int) := by omega
      obtain ⟨dv, hdv⟩ : ∃ dv, d.getD tb 0 = dv := ⟨_, rfl⟩
      have LD := Lib.hid DD.out.len
      have y0 : X.cell? ⟨g, tb, none⟩ = some (.int .i64 dv) := by rw [← hdv]; exact GX.out.cell (by rw [LD.out, LC.out]; exact htn')
      clear htv hpv hbd hnb htn hp
      by_cases hneg : dv < 0
      case neg =>
        have DN := Lib.hid (DD.out.skip (m := m) (fun b' hb' e => by rw [E1.out] at e; have : b' = tb := by omega
                                                                     subst this; rw [hdv]; omega))
        have t0 : decide (dv < 0) = false := by simp; omega
        clear hdv hneg
        go_wp2
        go_roundw
        case rel => exact ⟨m + 1, d, by omega, by go_num, DN.out, GX.out, KX.out⟩
        case measure => simp [intOf]; omega
      have t0 : decide (dv < 0) = true := by simpa using hneg
      have DN := Lib.hid (DD.out.into (by rw [LC.out, ← LN.out]; exact Tc.within IS.out) (by rw [LC.out]; exact hv) hk hlt (by rw [LC.out]; exact htn') E1.out (by rw [hdv]; exact hneg))
      have CALL := Lib.hid (ih d tb X (by have h1 := DD.out.neg (by rw [LC.out]; exact hv) HN.out hk; have h2 := NF.out; omega) (by rw [LD.out, LC.out]) htn' (by rw [hdv]; exact hneg) (RV.out.below BVX.out) (VV.out.below BVX.out hB1) GX.out)
      clear hdv hneg
      go_wp2_with fail
      refine CALL.out.mono ?_
      rintro e Y ⟨rfl, hGY, hKY⟩
      have GY := Lib.hid hGY
      have KY := Lib.hid (KX.out.trans hKY)
      clear hGY hKY CALL
      go_wp2
      go_roundw
      case rel => exact ⟨m + 1, _, by omega, by go_num, DN.out, GY.out, KY.out⟩
      case measure => simp [intOf]; omega
end Fc
end Go.Proofs.YtajbahfbldmckaaDoor

namespace Go.Proofs.YtajbahfbldmckaaDoor
open Go.RowKit
namespace Tc
theorem ints_newsT {w : World} {B n : Nat} {ad : Addr} {zs : List Int} (h : Ints w B (some ad) n zs) : ∀ j u, (zs.map (Value.int .i64))[j]? = some u → w.cell? (ad.add j) = some u := by
  intro j u hu
  have hj : j < zs.length := by
    have := (List.getElem?_eq_some_iff.1 hu).1
    simpa using this
  have hl := h.1
  obtain ⟨b, off, e, _, h4⟩ := h.2 (by omega)
  cases e
  have h5 := h4 j (by omega)
  have e5 : (⟨b, off, none⟩ : Addr).add j = ⟨b, off + j, none⟩ := by unfold Addr.add; split <;> simp_all
  rw [e5, h5, ← hu, List.getElem?_map, List.getElem?_eq_getElem hj]
  simp [List.getElem?_eq_getElem hj]
theorem copy_front {w : World} {ops : Array Oper} {rest : List Oper} {o : Oper} {a : Act} {Q : Exit → Act → World → Prop} (hgd : o.guard = none) (d s : Operand) (ho : o.op = .call { callee := .builtin .copy, args := #[d, s], argTypes := #[39, 39] })
    (g n N c B : Nat) (A : Option Addr) (zs : List Int) (hd : a.eval d = .slice (some ⟨g, 0, none⟩) N N) (hs : a.eval s = .slice A n c) (hg : Blk w g (List.replicate N 0)) (hi : Ints w B A n zs) (hn : n ≤ N) (B0 : Nat) (w0 : World) (hb : Below B0 w0 w) (hB : B0 ≤ g)
    (h : ∀ w', Blk w' g (zs ++ List.replicate (N - n) 0) → Below B0 w0 w' → wpList Tryd.prog ops Q rest (a.put o.dst (goInt n)) w') : wpList Tryd.prog ops Q (o :: rest) a w := by
  have hl : (zs.map (Value.int .i64)).length = n := by simp [hi.1]
  refine wpList_copy_splice hgd d s _ _ ho 2 Tryd.underlying39 (by kernel_rfl) (some ⟨g, 0, none⟩) A N N n c hd hs g 0 ((List.replicate N 0).map (Value.int .i64)) 2 hg (zs.map (Value.int .i64)) (by rw [hl]; exact (Nat.min_eq_left hn).symm) (fun h0 => ⟨rfl, ?_⟩) (by rw [hl]; simp; omega) (by simp [Value.oneCell']) B0 w0 hb hB ?_
  · obtain ⟨b, off, e, _, hc⟩ := hi.2 (by omega)
    subst e
    exact ⟨_, rfl, ints_newsT hi⟩
  · intro w' hg' hb'
    rw [hl]
    refine h w' ?_ hb'
    have := hg'.out
    unfold Blk
    rw [this, splice, hl]
    simp

set_option maxRecDepth 100000 in
set_option maxHeartbeats 4000000 in
theorem mul64_small (n : Nat) (hn : n ≤ 8) (w : World) : Calls Tryd.prog 120 #[.int .u64 1, .int .u64 (n : Int)] w fun e w' => e = .returned (.tuple #[.int .u64 0, .int .u64 (n : Int)]) ∧ w = w' := by
  have m1 : bits .and .u64 1 4294967295 = 1 := by kernel_rfl
  have h : n = 0 ∨ n = 1 ∨ n = 2 ∨ n = 3 ∨ n = 4 ∨ n = 5 ∨ n = 6 ∨ n = 7 ∨ n = 8 := by omega
  clear hn
  have a0 : bits .and .u64 0 4294967295 = 0 := by kernel_rfl
  have a2 : bits .and .u64 2 4294967295 = 2 := by kernel_rfl
  have a3 : bits .and .u64 3 4294967295 = 3 := by kernel_rfl
  have a4 : bits .and .u64 4 4294967295 = 4 := by kernel_rfl
  have a5 : bits .and .u64 5 4294967295 = 5 := by kernel_rfl
  have a6 : bits .and .u64 6 4294967295 = 6 := by kernel_rfl
  have a7 : bits .and .u64 7 4294967295 = 7 := by kernel_rfl
  have a8 : bits .and .u64 8 4294967295 = 8 := by kernel_rfl
  rcases h with rfl | rfl | rfl | rfl | rfl | rfl | rfl | rfl | rfl
  all_goals
    go_enter Tryd.func120, Tryd.ntmps120
    go_wp2
    first
      | exact bodyPost_ret (v := .tuple #[.int .u64 0, .int .u64 0]) (by simp [results, Tryd.results120, go_sem]) rfl ⟨rfl, rfl⟩
      | exact bodyPost_ret (v := .tuple #[.int .u64 0, .int .u64 1]) (by simp [results, Tryd.results120, go_sem]) rfl ⟨rfl, rfl⟩
      | exact bodyPost_ret (v := .tuple #[.int .u64 0, .int .u64 2]) (by simp [results, Tryd.results120, go_sem]) rfl ⟨rfl, rfl⟩
      | exact bodyPost_ret (v := .tuple #[.int .u64 0, .int .u64 3]) (by simp [results, Tryd.results120, go_sem]) rfl ⟨rfl, rfl⟩
      | exact bodyPost_ret (v := .tuple #[.int .u64 0, .int .u64 4]) (by simp [results, Tryd.results120, go_sem]) rfl ⟨rfl, rfl⟩
      | exact bodyPost_ret (v := .tuple #[.int .u64 0, .int .u64 5]) (by simp [results, Tryd.results120, go_sem]) rfl ⟨rfl, rfl⟩
      | exact bodyPost_ret (v := .tuple #[.int .u64 0, .int .u64 6]) (by simp [results, Tryd.results120, go_sem]) rfl ⟨rfl, rfl⟩
      | exact bodyPost_ret (v := .tuple #[.int .u64 0, .int .u64 7]) (by simp [results, Tryd.results120, go_sem]) rfl ⟨rfl, rfl⟩
      | exact bodyPost_ret (v := .tuple #[.int .u64 0, .int .u64 8]) (by simp [results, Tryd.results120, go_sem]) rfl ⟨rfl, rfl⟩
set_option maxRecDepth 100000 in
set_option maxHeartbeats 4000000 in
theorem mul_small (n : Nat) (hn : n ≤ 8) (w : World) : Calls Tryd.prog 103 #[.int .u64 1, .int .u64 (n : Int)] w fun e w' => e = .returned (.tuple #[.int .u64 0, .int .u64 (n : Int)]) ∧ w = w' := by
  go_enter Tryd.func103, Tryd.ntmps103
  go_wp2_with fail
  refine (mul64_small n hn _).mono ?_
  rintro e w1 ⟨rfl, rfl⟩
  go_wp2
  refine bodyPost_ret (v := .tuple #[.int .u64 0, .int .u64 (n : Int)]) (by simp [results, Tryd.results103, go_sem]) rfl ⟨rfl, rfl⟩

theorem splice_rep (n k j : Nat) (h : k + j ≤ n) : splice ((List.replicate k (-1 : Int) ++ List.replicate (n - k) 0).map (Value.int .i64)) k ((List.replicate j (-1 : Int)).map (Value.int .i64)) = (List.replicate (k + j) (-1 : Int) ++ List.replicate (n - (k + j)) 0).map (Value.int .i64) := by
  unfold splice
  rw [← List.map_take, List.length_map, List.length_replicate, ← List.map_drop, ← List.map_append, ← List.map_append]
  congr 1
  rw [List.take_append_of_le_length (by simp), List.take_of_length_le (by simp), List.drop_append, List.drop_eq_nil_of_le (by simp), List.nil_append, List.length_replicate, List.drop_replicate, ← List.append_assoc, List.replicate_append_replicate]
  congr 2
  omega

set_option maxRecDepth 100000 in
set_option maxHeartbeats 8000000 in
theorem repeat_impl (n : Nat) (hn : n ≤ 8) (A : Option Addr) (c : Nat) (w : World) (h : Ints w w.heap.size A 1 [-1]) :
    Calls Tryd.prog 67 #[.slice A 1 c, .int .i64 (n : Int)] w fun e w' => ∃ g, e = .returned (.slice (some ⟨g, 0, none⟩) n n) ∧ Blk w' g (List.replicate n (-1)) ∧ w.heap.size ≤ g ∧ Below w.heap.size w w' := by
  have H := Lib.hid h
  have hmk := run_make_ints n (by omega)
  have u1 : IntKind.u64.wrap (n : Int) = (n : Int) := by rw [IntKind.wrap_u64]; omega
  have u2 : IntKind.i64.wrap (n : Int) = (n : Int) := IntWalk.i64_in _ (by omega)
  have u3 : decide ((n : Int) < 0) = false := by simp
  have u4 : decide (9223372036854775807 < (n : Int)) = false := by simp; omega
  have u5 : ¬ (9223372036854775807 : Int) < (n : Int) := by omega
  clear h
  by_cases h0 : n = 0
  · subst h0
    have hmk0 : ∀ W, (Instr.makeSlice 39 (.int .i64 0) (.int .i64 0)).run Tryd.prog W = .ok (.slice (some ⟨W.heap.size, 0, none⟩) 0 0) (W.alloc (.cells ((List.replicate 0 (0 : Int)).map (Value.int .i64)).toArray 2)) := fun W => run_make_ints 0 (by omega) W
    clear hmk
    have BZ := Lib.hid (show Blk (w.alloc (.cells ((List.replicate 0 (0 : Int)).map (Value.int .i64)).toArray 2)) w.heap.size (List.replicate 0 (-1)) from Blk.new w [])
    go_enter Tryd.func67, Tryd.ntmps67
    go_wp2_with fail
    refine (mul_small 0 (by omega) _).mono ?_
    rintro e w1 ⟨rfl, rfl⟩
    go_wp2_with (refine wpList_copy_nothing (by rfl) _ _ _ _ (by rfl) 2 Tryd.underlying39 (by kernel_rfl) _ _ _ _ _ _ rfl rfl rfl ?_)
    obtain ⟨V, hV⟩ : ∃ V, V = (w.alloc (.cells ((List.replicate 0 (0 : Int)).map (Value.int .i64)).toArray 2)) := ⟨_, rfl⟩
    have BV := Lib.hid (show Below w.heap.size w V from by rw [hV]; exact al1 _ _)
    rw [← hV] at BZ
    go_upto_region 8 with fail
    first | rw [← hV] | (simp only [List.replicate, List.map_nil] at hV; rw [← hV])
    clear hV
    go_wp2
    go_loopw [8] (fun i W => i = .int .i64 0 ∧ W = V) (fun i _ => 0)
    case atStart => exact ⟨rfl, rfl⟩
    case round =>
      obtain ⟨rfl, rfl⟩ := hrel
      go_wp2
      go_ret
      exact ⟨w.heap.size, rfl, BZ.out, Nat.le_refl _, BV.out⟩
  have hn1 : 1 ≤ n := by omega
  obtain ⟨V, hV⟩ : ∃ V, V = w.alloc (.cells (Array.replicate n (Value.int .i64 0)) 2) := ⟨_, rfl⟩
  have GV := Lib.hid (show Blk V w.heap.size (List.replicate n 0) from by rw [hV]; exact Blk.zeros w n)
  have BV := Lib.hid (show Below w.heap.size w V from by rw [hV]; exact al1 _ _)
  have IV := Lib.hid (H.out.below BV.out)
  go_enter Tryd.func67, Tryd.ntmps67
  go_wp2_with fail
  refine (mul_small n hn _).mono ?_
  rintro e w1 ⟨rfl, rfl⟩
  go_upto_region 7 with fail
  rw [← hV]
  clear hV hmk
  go_wp2_with (refine copy_front (by rfl) _ _ (by rfl) w.heap.size 1 n c w.heap.size A [-1] rfl rfl GV.out IV.out hn1 w.heap.size w BV.out (Nat.le_refl _) ?_)
  intro w2 hg2 hb2
  have G2 := Lib.hid (show Blk w2 w.heap.size (List.replicate 1 (-1) ++ List.replicate (n - 1) 0) from hg2)
  have B2 := Lib.hid hb2
  clear hg2 hb2
  go_wp2
  go_loopw [8] (fun i W => ∃ k : Nat, (1 ≤ k ∧ k ≤ n) ∧ i = .int .i64 k ∧ Blk W w.heap.size (List.replicate k (-1) ++ List.replicate (n - k) 0) ∧ Below w.heap.size w W) (fun i _ => n - (intOf i).toNat)
  case atStart => exact ⟨1, ⟨Nat.le_refl _, hn1⟩, rfl, G2.out, B2.out⟩
  case round =>
    obtain ⟨W, rfl⟩ : ∃ W : World, W = wr := ⟨_, rfl⟩
    obtain ⟨k, ⟨hk1, hk2⟩, rfl, hG, hB⟩ := hrel
    have GW := Lib.hid hG
    have BW := Lib.hid hB
    clear hG hB
    by_cases hlt : k < n
    case neg =>
      obtain rfl : k = n := by omega
      have GE := Lib.hid (show Blk W w.heap.size (List.replicate k (-1)) from by have := GW.out; rw [Nat.sub_self] at this; simpa using this)
      have i1 : ¬ (k : Int) < (k : Int) := by omega
      go_wp2
      go_ret
      exact ⟨w.heap.size, rfl, GE.out, Nat.le_refl _, BW.out⟩
    have i1 : (k : Int) < (n : Int) := by omega
    have i0 : (0 : Int) ≤ (k : Int) := by omega
    have i2 : (k : Int) ≤ (n : Int) := by omega
    have ne1 : ¬ n = k := by omega
    have ne2 : ¬ k = n := by omega
    obtain ⟨j, hj⟩ : ∃ j, Nat.min k (n - k) = j := ⟨_, rfl⟩
    have jl : j ≤ k ∧ j ≤ n - k ∧ 1 ≤ j := by rw [← hj]; exact ⟨Nat.min_le_left _ _, Nat.min_le_right _ _, by have := Nat.le_min (a := 1) (b := k) (c := n - k); simp only [Nat.min_def] at *; omega⟩
    go_upto_region 9 with fail
    refine wp_region_N (fun _ : World => True) [0, 1, 2, 3, 4, 5, 6] (by kernel_rfl) ?_
    have hS : (fun _ : World => True) W.drew := trivial
    refine wpN_take (i := 0) (oi := { dst := some 38, op := .move (.tmp 8), type := _, pos := _, after := _, guard := _ }) (v := ?_) rfl (by kernel_rfl) (by kernel_rfl) (by kernel_rfl) (by kernel_rfl) (fun _ _ _ h => h) (Or.inl ⟨by rfl, ?_⟩) hS ?_
    rotate_left
    · intro Z hZ
      go_simp
      try with_reducible rfl
    try simp only [Act.put, List.setIfInBounds_toArray, List.set_cons_zero, List.set_cons_succ]
    refine wpN_take (i := 1) (oi := { dst := some 39, op := .move (.tmp 7), type := _, pos := _, after := _, guard := _ }) (v := ?_) rfl (by kernel_rfl) (by kernel_rfl) (by kernel_rfl) (by kernel_rfl) (fun _ _ _ h => h) (Or.inl ⟨by rfl, ?_⟩) hS ?_
    rotate_left
    · intro Z hZ
      go_simp
      try with_reducible rfl
    try simp only [Act.put, List.setIfInBounds_toArray, List.set_cons_zero, List.set_cons_succ]
    refine wpN_take (i := 2) (oi := { dst := some 40, op := .move (.tmp 8), type := _, pos := _, after := _, guard := _ }) (v := ?_) rfl (by kernel_rfl) (by kernel_rfl) (by kernel_rfl) (by kernel_rfl) (fun _ _ _ h => h) (Or.inl ⟨by rfl, ?_⟩) hS ?_
    rotate_left
    · intro Z hZ
      go_simp
      try with_reducible rfl
    try simp only [Act.put, List.setIfInBounds_toArray, List.set_cons_zero, List.set_cons_succ]
    refine wpN_take (i := 3) (oi := { dst := some 41, op := .slice _ (.tmp 39) (some (.tmp 40)) none none, type := _, pos := _, after := _, guard := _ }) (v := ?_) rfl (by kernel_rfl) (by kernel_rfl) (by kernel_rfl) (by kernel_rfl) (fun _ _ _ h => h) (Or.inl ⟨by rfl, ?_⟩) hS ?_
    rotate_left
    · intro Z hZ
      go_simp
      try with_reducible rfl
    try simp only [Act.put, List.setIfInBounds_toArray, List.set_cons_zero, List.set_cons_succ]
    refine wpN_take (i := 4) (oi := { dst := some 42, op := .move (.tmp 7), type := _, pos := _, after := _, guard := _ }) (v := ?_) rfl (by kernel_rfl) (by kernel_rfl) (by kernel_rfl) (by kernel_rfl) (fun _ _ _ h => h) (Or.inl ⟨by rfl, ?_⟩) hS ?_
    rotate_left
    · intro Z hZ
      go_simp
      try with_reducible rfl
    try simp only [Act.put, List.setIfInBounds_toArray, List.set_cons_zero, List.set_cons_succ]
    refine wpN_take (i := 5) (oi := { dst := some 43, op := .move (.tmp 8), type := _, pos := _, after := _, guard := _ }) (v := ?_) rfl (by kernel_rfl) (by kernel_rfl) (by kernel_rfl) (by kernel_rfl) (fun _ _ _ h => h) (Or.inl ⟨by rfl, ?_⟩) hS ?_
    rotate_left
    · intro Z hZ
      go_simp
      try with_reducible rfl
    try simp only [Act.put, List.setIfInBounds_toArray, List.set_cons_zero, List.set_cons_succ]
    refine wpN_take (i := 6) (oi := { dst := some 44, op := .slice _ (.tmp 42) none (some (.tmp 43)) none, type := _, pos := _, after := _, guard := _ }) (v := ?_) rfl (by kernel_rfl) (by kernel_rfl) (by kernel_rfl) (by kernel_rfl) (fun _ _ _ h => h) (Or.inl ⟨by rfl, ?_⟩) hS ?_
    rotate_left
    · intro Z hZ
      go_simp
      try with_reducible rfl
    try simp only [Act.put, List.setIfInBounds_toArray, List.set_cons_zero, List.set_cons_succ]
    refine wpN_one (j := 7) (o := { dst := some 45, op := _, type := _, pos := _, after := _, guard := _ }) (by kernel_rfl) rfl ?_
    intro K hK
    have hl9 : ((List.replicate j (-1 : Int)).map (Value.int .i64)).length = j := by simp
    refine step_copy_splice (by rfl) _ _ _ _ (by rfl) 2 Tryd.underlying39 (by kernel_rfl) (some ⟨w.heap.size, k, none⟩) (some ⟨w.heap.size, 0, none⟩) (n - k) (n - k) k n (by rfl) (by rfl) w.heap.size k ((List.replicate k (-1) ++ List.replicate (n - k) 0).map (Value.int .i64)) 2 (by exact GW.out) ((List.replicate j (-1 : Int)).map (Value.int .i64)) (by rw [hl9]; exact hj.symm) (fun _ => ⟨rfl, _, rfl, ?_⟩) (by rw [hl9]; simp; omega) (by simp [Value.oneCell']) w.heap.size w (by exact BW.out.drew) (Nat.le_refl _) ?_
    · intro i v hv
      have hi : i < j := by simpa using (List.getElem?_eq_some_iff.1 hv).1
      rw [List.getElem?_map, List.getElem?_replicate, if_pos hi] at hv
      simp at hv
      subst hv
      have h9 := GW.out.cell (i := i) (by simp; omega)
      rw [List.getD_eq_getElem?_getD, List.getElem?_append_left (by simp; omega), List.getElem?_replicate, if_pos (by omega)] at h9
      rw [show (⟨w.heap.size, 0, none⟩ : Addr).add i = ⟨w.heap.size, i, none⟩ from by unfold Addr.add; split <;> simp_all]
      exact h9
    intro w9 hg9 hb9
    have G9 := Lib.hid (show Blk w9 w.heap.size (List.replicate (k + j) (-1) ++ List.replicate (n - (k + j)) 0) from by have h9 := hg9.out; rw [splice_rep n k j (by omega)] at h9; exact h9)
    have B9 := Lib.hid hb9
    rw [hl9]
    have wj : IntKind.i64.wrap ((k : Int) + (j : Int)) = (k : Int) + (j : Int) := IntWalk.i64_in _ (by omega)
    refine hK _ _ (fun _ => trivial) ?_
    clear hK K hg9 hb9 hS hl9
    try simp only [goInt]
    try simp only [Act.put, List.setIfInBounds_toArray, List.set_cons_zero, List.set_cons_succ]
    refine wpN_one (j := 8) (o := { dst := some 46, op := _, type := _, pos := _, after := _, guard := _ }) (by kernel_rfl) rfl ?_
    intro K hK
    go_simp
    refine hK _ _ (fun _ => trivial) ?_
    clear hK K
    try simp only [Act.put, List.setIfInBounds_toArray, List.set_cons_zero, List.set_cons_succ]
    refine wpN_one (j := 9) (o := { dst := some 8, op := _, type := _, pos := _, after := _, guard := _ }) (by kernel_rfl) rfl ?_
    intro K hK
    go_simp
    refine hK _ _ (fun _ => trivial) ?_
    clear hK K
    refine wpN_done (by kernel_rfl) ?_
    go_wp2
    go_roundw
    case rel => exact ⟨k + j, ⟨by omega, by omega⟩, by go_num, G9.out, B9.out⟩
    case measure => simp [intOf]; omega
end Tc
end Go.Proofs.YtajbahfbldmckaaDoor

namespace Go.Proofs.YtajbahfbldmckaaDoor
open Go.RowKit
namespace Fc
set_option maxRecDepth 100000 in
set_option maxHeartbeats 8000000 in
theorem comps_impl (A : Option Addr) (n c : Nat) (T : List (List Int)) (w : World) (h : RdT w w.heap.size A n T) (hv : Vs w) (hn : n ≤ 1048576) :
    Calls Tryd.prog 25 #[.agg #[.slice A n c]] w (ResLM w (Tc.cmp T)) := by
  have h0 := hv.pos
  have LN := Lib.hid h.len
  have HT := Lib.hid h
  have HV := Lib.hid hv
  clear h hv
  obtain ⟨U, hU⟩ : ∃ U, U = w.alloc (Obj.cells #[.slice A n c] 28) := ⟨_, rfl⟩
  have hB : Below w.heap.size w U := by rw [hU]; exact al1 w _
  have z : U.heap.size = w.heap.size + 1 := by rw [hU]; simp
  have k0 : U.cell? ⟨w.heap.size, 0, none⟩ = some (.slice A n c) := by rw [hU]; simp [go_sem]
  have DU := Lib.hid hB
  have TI := Lib.hid (isTri_implT A n c T U (HT.out.into hB) (HV.out.below hB h0.1) hn)
  clear hB
  go_enter Tryd.func25, Tryd.ntmps25
  go_upto_region 1 with fail
  rw [← hU]
  clear hU
  go_wp2_with fail
  refine TI.out.mono ?_
  rintro e w1 ⟨rfl, hb⟩
  have k0 := (hb.cell (p := ⟨w.heap.size, 0, none⟩) (by dsimp only; omega)).trans k0
  have z1 : U.heap.size ≤ w1.heap.size := hb.size
  have D1 := Lib.hid (DU.out.trans (hb.mono (by omega)))
  clear hb TI DU
  by_cases hok : Tr.Is T
  case neg =>
    rw [decide_eq_false hok]
    have R := Lib.hid (show Tc.cmp T = [] from by unfold Tc.cmp; rw [if_neg hok])
    clear hok
    go_wp2
    go_ret
    rw [R.out]
    exact ⟨none, 0, rfl, ⟨Nat.le_refl _, Nat.zero_le _⟩, Mine.none_ _ _ _ _, D1.out⟩
  rw [decide_eq_true hok]
  have h8 : n ≤ 8 := by rw [← LN.out]; exact hok.1
  have IS := Lib.hid hok
  have R := Lib.hid (show Tc.cmp T = (Tc.prt T n).1 from by unfold Tc.cmp; rw [if_pos hok, LN.out])
  clear hok
  obtain ⟨V, hV⟩ : ∃ V, V = w1.alloc (.cells #[.int .i64 (-1)] 2) := ⟨_, rfl⟩
  have zV : V.heap.size = w1.heap.size + 1 := by rw [hV]; simp
  have BV := Lib.hid (show Below w1.heap.size w1 V from by rw [hV]; exact al1 _ _)
  have GV := Lib.hid (show Blk V w1.heap.size [-1] from by rw [hV]; exact Blk.new w1 [-1])
  have DV := Lib.hid (D1.out.trans (BV.out.mono (by omega)))
  have k0V := (BV.out.cell (p := ⟨w.heap.size, 0, none⟩) (by dsimp only; omega)).trans k0
  have l1 : w.heap.size < w1.heap.size := by omega
  go_wp2_with fail
  rw [← hV]
  refine (Tc.repeat_impl n h8 (some ⟨w1.heap.size, 0, none⟩) 1 V (GV.out.ints rfl)).mono ?_
  rintro e w2 ⟨g, rfl, hG, hg, hb⟩
  clear hV
  have k0 := (hb.cell (p := ⟨w.heap.size, 0, none⟩) (by dsimp only; omega)).trans k0V
  have D2 := Lib.hid (DV.out.trans (hb.mono (by omega)))
  have G2 := Lib.hid (show Blk w2 g (Tc.prt T 0).1 from by simp only [Tc.prt]; rw [LN.out]; exact hG)
  have z2 : V.heap.size ≤ w2.heap.size := hb.size
  clear hG hb k0V BV GV DV
  go_wp2
  go_loopw [4, 16] (fun cc i W => ∃ a : Nat, a ≤ n ∧ i = .int .i64 a ∧ cc = .int .i64 (Tc.prt T a).2 ∧ Blk W g (Tc.prt T a).1 ∧ Kept g (g + 1) w2 W) (fun _ i _ => n - (intOf i).toNat)
  case atStart => exact ⟨0, Nat.zero_le _, rfl, rfl, G2.out, Kept.refl _ _ _⟩
  case round =>
    obtain ⟨W, rfl⟩ : ∃ W : World, W = wr := ⟨_, rfl⟩
    obtain ⟨a, ha, rfl, rfl, hG, hK⟩ := hrel
    have GW := Lib.hid hG
    have KW := Lib.hid hK
    have zW : w2.heap.size ≤ W.heap.size := hK.size
    have BW := Lib.hid (hK.below (B := w.heap.size) (by omega) (by omega))
    have k0 := (World.cell?_of_block (a := ⟨w.heap.size, 0, none⟩) (hK.block w.heap.size (by omega) (by omega))).trans k0
    have DW := Lib.hid (D2.out.trans BW.out)
    have i0 : (0 : Int) ≤ (a : Int) := by omega
    have PL := Lib.hid (Tc.prt_len T a)
    have PN := Lib.hid (Tc.prt_num T a)
    clear hG hK
    by_cases hlt : a < n
    case neg =>
      obtain rfl : a = n := by omega
      have i1 : ¬ (a : Int) < (a : Int) := by omega
      have ll : (Tc.prt T a).1.length = a := by rw [PL.out, LN.out]
      have LL := Lib.hid ll
      clear ll
      go_wp2
      go_ret
      rw [R.out]
      refine ⟨some ⟨g, 0, none⟩, a, ?_, by rw [LL.out]; exact ⟨Nat.le_refl _, by unfold maxLen; omega⟩, Mine.of_blk GW.out (by omega) GW.out.lt rfl, DW.out⟩
      rw [LL.out]
      rfl
    have i1 : (a : Int) < (n : Int) := by omega
    obtain ⟨dv, hdv⟩ : ∃ dv, (Tc.prt T a).1.getD a 0 = dv := ⟨_, rfl⟩
    have c0 : W.cell? ⟨g, a, none⟩ = some (.int .i64 dv) := by rw [← hdv]; exact GW.out.cell (by rw [PL.out, LN.out]; exact hlt)
    by_cases hneg : dv < 0
    case neg =>
      have t0 : decide (dv < 0) = false := by simp; omega
      have NX := Lib.hid (Tc.prt_no (T := T) (a := a) (by rw [hdv]; exact hneg))
      clear hdv hneg
      go_wp2
      go_roundw
      case rel => exact ⟨a + 1, by omega, by go_num, by rw [NX.out], by rw [NX.out]; exact GW.out, KW.out⟩
      case measure => simp [intOf]; omega
    have t0 : decide (dv < 0) = true := by simpa using hneg
    have NX := Lib.hid (Tc.prt_yes (T := T) (a := a) (by rw [hdv]; exact hneg))
    have CALL := Lib.hid (number_impl A n c g w.heap.size T (Tc.prt T a).2 IS.out LN.out (by omega) h0.1 PN.out.1 (Tc.neg (Tc.prt T a).1) (Tc.prt T a).1 a W (Nat.le_refl _) (by rw [PL.out, LN.out]) hlt (by rw [hdv]; exact hneg) (HT.out.below DW.out) (HV.out.below DW.out h0.1) GW.out)
    obtain ⟨kk, hkk⟩ : ∃ kk, (Tc.prt T a).2 = kk := ⟨_, rfl⟩
    have KB := Lib.hid (show 0 ≤ kk ∧ kk ≤ a from by rw [← hkk]; exact PN.out)
    have wr1 : IntKind.i64.wrap (kk + 1) = kk + 1 := IntWalk.i64_in _ (by have := KB.out; omega)
    rw [hkk] at CALL NX ⊢
    clear hdv hneg hkk
    go_wp2_with fail
    refine CALL.out.mono ?_
    rintro e Y ⟨rfl, hGY, hKY⟩
    have GY := Lib.hid hGY
    have KY := Lib.hid (KW.out.trans hKY)
    clear hGY hKY CALL
    go_wp2
    go_roundw
    case rel => exact ⟨a + 1, by omega, by go_num, by rw [NX.out], by rw [NX.out]; exact GY.out, KY.out⟩
    case measure => simp [intOf]; omega
end Fc
end Go.Proofs.YtajbahfbldmckaaDoor

namespace Go.Proofs.YtajbahfbldmckaaDoor
open Go.RowKit
/-- A list of places as numbers. -/
def Tc.lin (l : List Nat) : List Int := l.map fun u : Nat => (u : Int)
theorem Tc.lin_snoc (l : List Nat) (b : Nat) : Tc.lin (l ++ [b]) = Tc.lin l ++ [(b : Int)] := by simp [Tc.lin]
theorem Tc.lin_at {l : List Nat} {j u : Nat} (h : l[j]? = some u) : (Tc.lin l).getD j 0 = (u : Int) := by
  unfold Tc.lin
  rw [List.getD_eq_getElem?_getD, List.getElem?_map, h]
  rfl
namespace Fc
theorem keep_over {lo hi B : Nat} {a b d : World} (h : Kept lo hi a b) (k : Below B b d) (hB : a.heap.size ≤ B) (_hs : b.heap.size ≤ d.heap.size) : Kept lo hi a d :=
  ⟨k.os.trans h.os, k.tape.trans h.tape, k.output.trans h.output, Nat.le_trans h.size k.size, fun g h1 h2 => (k.block g (by omega)).trans (h.block g h1 h2)⟩
theorem rep_set (n a : Nat) (h : a < n) : (List.replicate a (-1 : Int) ++ List.replicate (n - a) 0).set a (-1) = List.replicate (a + 1) (-1 : Int) ++ List.replicate (n - (a + 1)) 0 := by
  rw [List.set_append_right _ _ (by simp), List.length_replicate, Nat.sub_self, show n - a = (n - (a + 1)) + 1 from by omega, List.replicate_succ, List.set_cons_zero, show List.replicate (a + 1) (-1 : Int) = List.replicate a (-1) ++ [-1] from by rw [List.replicate_succ'], List.append_assoc]
  rfl
set_option maxRecDepth 100000 in
set_option maxHeartbeats 16000000 in
theorem parts_spec (A : Option Addr) (n cA : Nat) (T : List (List Int)) (w : World) (h : RdT w w.heap.size A n T) (hIs : Tr.Is T) :
    Calls Tryd.prog 66 #[.agg #[.slice A n cA]] w (ResLM w (Tc.prt T n).1) := by
  have LN := Lib.hid h.len
  have h8 : n ≤ 8 := by rw [← LN.out]; exact hIs.1
  have IS := Lib.hid hIs
  have HT := Lib.hid h
  have hmk := run_make_ints n (by omega)
  obtain ⟨U, hU⟩ : ∃ U, U = w.alloc (Obj.cells #[.slice A n cA] 28) := ⟨_, rfl⟩
  have hB : Below w.heap.size w U := by rw [hU]; exact al1 w _
  have z : U.heap.size = w.heap.size + 1 := by rw [hU]; simp
  have k0 : U.cell? ⟨w.heap.size, 0, none⟩ = some (.slice A n cA) := by rw [hU]; simp [go_sem]
  obtain ⟨V, hV⟩ : ∃ V, V = U.alloc (Obj.cells (Array.replicate n (Value.int .i64 0)) 2) := ⟨_, rfl⟩
  have zV : V.heap.size = w.heap.size + 2 := by rw [hV]; simp; omega
  have BV : Below U.heap.size U V := by rw [hV]; exact al1 U _
  have DV := Lib.hid (hB.trans (BV.mono (by omega)))
  have k0V := (BV.cell (p := ⟨w.heap.size, 0, none⟩) (by dsimp only; omega)).trans k0
  have GV0 : Blk V U.heap.size (List.replicate n 0) := by rw [hV]; exact Blk.zeros U n
  rw [z] at GV0
  have GV := Lib.hid GV0
  clear h hIs hB BV GV0
  go_enter Tryd.func66, Tryd.ntmps66
  go_upto_region 1 with fail
  rw [← hU]
  clear hU
  go_upto_region 2 with fail
  rw [← hV]
  clear hV hmk k0
  go_wp2
  go_loopw [4] (fun i W => ∃ a : Nat, a ≤ n ∧ i = .int .i64 a ∧ Blk W (w.heap.size + 1) (List.replicate a (-1) ++ List.replicate (n - a) 0) ∧ Kept (w.heap.size + 1) (w.heap.size + 2) V W) (fun i _ => n - (intOf i).toNat)
  case atStart => exact ⟨0, Nat.zero_le _, rfl, by simpa using GV.out, Kept.refl _ _ _⟩
  case round =>
    obtain ⟨W0, rfl⟩ : ∃ W : World, W = wr := ⟨_, rfl⟩
    obtain ⟨a, ha, rfl, hG, hK⟩ := hrel
    have GW := Lib.hid hG
    have KW := Lib.hid hK
    have zW := hK.size
    have i0 : (0 : Int) ≤ (a : Int) := by omega
    clear hG hK
    by_cases hlt : a < n
    case pos =>
      have i1 : (a : Int) < (n : Int) := by omega
      have c0 : W0.cell? ⟨w.heap.size + 1, a, none⟩ = some (.int .i64 ((List.replicate a (-1) ++ List.replicate (n - a) 0).getD a 0)) := GW.out.cell (by simp; omega)
      have c1 := GW.out.frozen a
      have GN := Lib.hid (show Blk (W0.setCell ⟨w.heap.size + 1, a, none⟩ (.int .i64 (-1))) (w.heap.size + 1) (List.replicate (a + 1) (-1) ++ List.replicate (n - (a + 1)) 0) from by rw [← rep_set n a hlt]; exact GW.out.set_ a (-1))
      obtain ⟨cv, hcv⟩ : ∃ cv, (List.replicate a (-1 : Int) ++ List.replicate (n - a) 0).getD a 0 = cv := ⟨_, rfl⟩
      rw [hcv] at c0
      clear hcv
      go_wp2
      go_roundw
      case rel => exact ⟨a + 1, by omega, by go_num, GN.out, KW.out.set_ (Nat.le_refl _) (by dsimp only; omega) _⟩
      case measure => simp [intOf]; omega
    obtain rfl : n = a := by omega
    have i1 : ¬ (n : Int) < (n : Int) := by omega
    have G1 := Lib.hid (show Blk W0 (w.heap.size + 1) (Tc.prt T 0).1 from by simp only [Tc.prt]; rw [LN.out]; have := GW.out; rw [Nat.sub_self] at this; simpa using this)
    have k0 := (World.cell?_of_block (a := ⟨w.heap.size, 0, none⟩) (KW.out.block w.heap.size (by omega) (by omega))).trans k0V
    have D1 := Lib.hid (DV.out.trans (KW.out.below (B := w.heap.size) (by omega) (by omega)))
    clear GW GV
    go_wp2
    go_loopw [5, 6] (fun c5 i W => ∃ a : Nat, a ≤ n ∧ i = .int .i64 a ∧ c5 = .int .i64 (Tc.prt T a).2 ∧ Blk W (w.heap.size + 1) (Tc.prt T a).1 ∧ Kept (w.heap.size + 1) (w.heap.size + 2) W0 W) (fun _ i _ => n - (intOf i).toNat)
    case atStart => exact ⟨0, Nat.zero_le _, rfl, rfl, G1.out, Kept.refl _ _ _⟩
    case round =>
      obtain ⟨W1, rfl⟩ : ∃ W : World, W = wr := ⟨_, rfl⟩
      obtain ⟨a, ha, rfl, rfl, hG, hK⟩ := hrel
      have PL := Lib.hid (Tc.prt_len T a)
      have PN := Lib.hid (Tc.prt_num T a)
      have k1 := (World.cell?_of_block (a := ⟨w.heap.size, 0, none⟩) (hK.block w.heap.size (by omega) (by omega))).trans k0
      have GW := Lib.hid hG
      have KW1 := Lib.hid hK
      have zW1 := hK.size
      have iz0 : (0 : Int) ≤ (a : Int) := by omega
      clear hG hK
      go_wp2_with fail
      refine (tets_spec A n cA _).mono ?_
      rintro e W2 ⟨rfl, hb⟩
      have k2 := (hb.cell (p := ⟨w.heap.size, 0, none⟩) (by dsimp only; omega)).trans k1
      have G2 := Lib.hid (GW.out.below hb (by omega))
      have K2 := Lib.hid (KW1.out.trans (Kept.of_below hb _ _))
      have z2 := hb.size
      clear hb GW KW1 k1
      by_cases hlt : a < n
      case neg =>
        obtain rfl : n = a := by omega
        have i1 : ¬ (n : Int) < (n : Int) := by omega
        have LL := Lib.hid (show (Tc.prt T n).1.length = n from by rw [PL.out, LN.out])
        have DE := Lib.hid (D1.out.trans (K2.out.below (B := w.heap.size) (by omega) (by omega)))
        go_wp2
        go_ret
        refine ⟨some ⟨w.heap.size + 1, 0, none⟩, n, ?_, by rw [LL.out]; exact ⟨Nat.le_refl _, by unfold maxLen; omega⟩, Mine.of_blk G2.out (by omega) G2.out.lt rfl, DE.out⟩
        rw [LL.out]
        rfl
      have i1 : (a : Int) < (n : Int) := by omega
      obtain ⟨dv, hdv⟩ : ∃ dv, (Tc.prt T a).1.getD a 0 = dv := ⟨_, rfl⟩
      have c0 : W2.cell? ⟨w.heap.size + 1, a, none⟩ = some (.int .i64 dv) := by rw [← hdv]; exact G2.out.cell (by rw [PL.out, LN.out]; exact hlt)
      have c1 := G2.out.frozen a
      by_cases hneg : dv < 0
      case neg =>
        have t0 : decide (0 ≤ dv) = true := by simp; omega
        have NX := Lib.hid (Tc.prt_no (T := T) (a := a) (by rw [hdv]; exact hneg))
        clear hdv hneg
        go_wp2
        go_roundw
        case rel => exact ⟨a + 1, by omega, by go_num, by rw [NX.out], by rw [NX.out]; exact G2.out, K2.out⟩
        case measure => simp [intOf]; omega
      have t0 : decide (0 ≤ dv) = false := by simp; omega
      have NX := Lib.hid (Tc.prt_yes (T := T) (a := a) (by rw [hdv]; exact hneg))
      obtain ⟨c, hc⟩ : ∃ c, (Tc.prt T a).1 = c := ⟨_, rfl⟩
      obtain ⟨kk, hkk⟩ : ∃ kk, (Tc.prt T a).2 = kk := ⟨_, rfl⟩
      rw [hc] at hdv G2 PL NX
      rw [hkk] at PN NX ⊢
      have WS := Lib.hid (Tc.Wide.start (T := T) (c := c) (v := a) (k := kk) (by rw [PL.out, LN.out]; exact hlt) (by rw [hdv]; exact hneg) PN.out.1)
      have KB := Lib.hid (show 0 ≤ kk ∧ kk ≤ a from PN.out)
      have wr1 : IntKind.i64.wrap (kk + 1) = kk + 1 := IntWalk.i64_in _ (by have := KB.out; omega)
      clear hc hkk PN hdv hneg
      obtain ⟨W3, hW3⟩ : ∃ W3, W3 = W2.setCell ⟨w.heap.size + 1, a, none⟩ (.int .i64 kk) := ⟨_, rfl⟩
      obtain ⟨z3, z3b⟩ : W3.heap.size ≤ W2.heap.size ∧ W2.heap.size ≤ W3.heap.size := by rw [hW3]; simp [World.setCell]
      have G3 := Lib.hid (show Blk W3 (w.heap.size + 1) (c.set a kk) from by rw [hW3]; exact G2.out.set_ a kk)
      have K3 := Lib.hid (show Kept (w.heap.size + 1) (w.heap.size + 2) W0 W3 from by rw [hW3]; exact K2.out.set_ (Nat.le_refl _) (by dsimp only; omega) _)
      go_upto_region 12 with fail
      rw [← hW3]
      clear hW3 G2 K2 c0 c1 k2
      obtain ⟨W4, hW4⟩ : ∃ W4, W4 = W3.alloc (Obj.cells #[.int .i64 a] 2) := ⟨_, rfl⟩
      obtain ⟨z4, z4b⟩ : W4.heap.size ≤ W3.heap.size + 1 ∧ W3.heap.size + 1 ≤ W4.heap.size := by rw [hW4]; simp
      have B4 : Below W3.heap.size W3 W4 := by rw [hW4]; exact al1 _ _
      have L4 := Lib.hid (show Own W4 W3.heap.size W4.heap.size (some ⟨W3.heap.size, 0, none⟩) 1 1 [(a : Int)] from by rw [hW4]; exact Own.of_blk (Blk.new W3 [(a : Int)]) (Nat.le_refl _) (by simp) rfl (by unfold maxLen; omega))
      have G4 := Lib.hid (G3.out.below B4 (by omega))
      have K4 := Lib.hid (K3.out.trans (Kept.of_below B4 _ _))
      go_upto_region 13 with fail
      rw [← hW4]
      clear hW4 G3 K3 B4
      go_wp2
      go_loopw [7, 8] (fun li i W => ∃ (l : List Nat) (j : Nat) (A' : Option Addr) (c' : Nat) (d : List Int), j ≤ l.length ∧ i = .int .i64 j ∧ li = .slice A' l.length c' ∧ Tc.Wide T c a kk l j 0 d ∧ Blk W (w.heap.size + 1) d ∧ Own W W3.heap.size W.heap.size A' l.length c' (Tc.lin l) ∧ Kept (w.heap.size + 1) (w.heap.size + 2) W0 W ∧ W3.heap.size < W.heap.size) (fun _ i _ => n - (intOf i).toNat)
      case atStart => exact ⟨[a], 0, _, _, _, Nat.zero_le _, rfl, rfl, WS.out, G4.out, L4.out, K4.out, by omega⟩
      case round =>
        obtain ⟨W5, rfl⟩ : ∃ W : World, W = wr := ⟨_, rfl⟩
        obtain ⟨l, j, A', c', d, hj, rfl, rfl, hW, hG, hO, hK, zs⟩ := hrel
        have WD := Lib.hid hW
        have G5 := Lib.hid hG
        have O5 := Lib.hid hO
        have K5 := Lib.hid hK
        have rm := hW.room
        have ij0 : (0 : Int) ≤ (j : Int) := by omega
        have lb : l.length ≤ n := by rw [PL.out, LN.out] at rm; omega
        clear hW hG hO hK rm
        by_cases hjl : j < l.length
        case neg =>
          obtain rfl : j = l.length := by omega
          have ij1 : ¬ (l.length : Int) < (l.length : Int) := by omega
          have PE := Lib.hid ((WD.out.post (Nat.le_refl _)).eq (by rw [PL.out]; exact Tc.within IS.out) (by rw [PL.out, LN.out]; exact hlt))
          go_wp2
          go_roundw
          case rel => exact ⟨a + 1, by omega, by go_num, by rw [NX.out], by rw [NX.out, ← PE.out]; exact G5.out, K5.out⟩
          case measure => simp [intOf]; omega
        have ij1 : (j : Int) < (l.length : Int) := by omega
        obtain ⟨u, hu⟩ : ∃ u, l[j]? = some u := ⟨_, List.getElem?_eq_getElem hjl⟩
        have UL := Lib.hid hu
        have un : u < n := by have := (WD.out.in_ u (List.mem_of_getElem? hu)).1; rw [PL.out, LN.out] at this; exact this
        clear hu
        go_wp2
        go_loopw [7, 9] (fun li i W => ∃ (l : List Nat) (f : Nat) (A' : Option Addr) (c' : Nat) (d : List Int), (f ≤ 4 ∧ j < l.length ∧ l[j]? = some u) ∧ i = .int .i64 f ∧ li = .slice A' l.length c' ∧ Tc.Wide T c a kk l j f d ∧ Blk W (w.heap.size + 1) d ∧ Own W W3.heap.size W.heap.size A' l.length c' (Tc.lin l) ∧ Kept (w.heap.size + 1) (w.heap.size + 2) W0 W ∧ W3.heap.size < W.heap.size) (fun _ i _ => 4 - (intOf i).toNat)
        case atStart => exact ⟨l, 0, A', c', d, ⟨by omega, hjl, UL.out⟩, rfl, rfl, WD.out, G5.out, O5.out, K5.out, zs⟩
        case round =>
          clear WD G5 O5 K5 zs ij1 hjl lb hj UL
          obtain ⟨W6, rfl⟩ : ∃ W : World, W = wr := ⟨_, rfl⟩
          obtain ⟨l, f, A', c', d, ⟨hf, hjl, hu⟩, rfl, rfl, hW, hG, hO, hK, zs⟩ := hrel
          have WD := Lib.hid hW
          have G6 := Lib.hid hG
          have O6 := Lib.hid hO
          have K6 := Lib.hid hK
          have z6 := hK.size
          have rm := hW.room
          have lb : l.length ≤ n := by rw [PL.out, LN.out] at rm; omega
          have LD := Lib.hid (show d.length = n from by rw [hW.len, PL.out, LN.out])
          have if0 : (0 : Int) ≤ (f : Int) := by omega
          have ij1 : (j : Int) < (l.length : Int) := by omega
          have k6 := (World.cell?_of_block (a := ⟨w.heap.size, 0, none⟩) (hK.block w.heap.size (by omega) (by omega))).trans k0
          have D6 := Lib.hid (D1.out.trans (hK.below (B := w.heap.size) (by omega) (by omega)))
          clear hW hG hK rm
          by_cases hf4 : f < 4
          case neg =>
            obtain rfl : f = 4 := by omega
            have WN := Lib.hid (WD.out.next hu)
            clear hO
            go_wp2
            go_roundw
            case rel => exact ⟨l, j + 1, A', c', d, by omega, by go_num, rfl, WN.out, G6.out, O6.out, K6.out, zs⟩
            case measure => simp [intOf]; omega
          have if1 : (f : Int) < 4 := by omega
          obtain ⟨gl, zl, rfl, hgl1, hgl2, hzl, c0, _⟩ := hO.at_ (k := j) hjl
          have hzu : zl = (u : Int) := by
            rw [← hzl, Tc.lin_at hu]
          subst hzu
          have iu0 : (0 : Int) ≤ (u : Int) := by omega
          have iu1 : (u : Int) < (n : Int) := by omega
          obtain ⟨b, off, gr, o, cj, rfl, hb, hgr, hcr, h4, hcm, hcf⟩ := (HT.out.below D6.out).row4 un (IS.out.2.1 u (by rw [LN.out]; exact un))
          obtain ⟨q0, q1⟩ := hcf f hf4
          obtain ⟨tv, htv⟩ : ∃ tv, Tr.tt T u f = tv := ⟨_, rfl⟩
          rw [htv] at q0
          clear hcf hzl hO q1
          go_upto_region 19 with fail
          go_still (by kernel_rfl)
          change Exit.then _ _ Exit.normal _ W6.drew
          have GX := Lib.hid (show Blk W6.drew (w.heap.size + 1) d from G6.out)
          have OX := Lib.hid (show Own W6.drew W3.heap.size W6.heap.size (some ⟨gl, 0, none⟩) l.length c' (Tc.lin l) from O6.out.keep fun _ _ _ => rfl)
          have KX := Lib.hid (K6.out.trans (Kept.of_below (Below.refl _ _).drew (w.heap.size + 1) (w.heap.size + 2)))
          obtain ⟨W7, hW7⟩ : ∃ W7, W7 = W6.drew := ⟨_, rfl⟩
          have sz7 : W6.heap.size = W7.heap.size := by rw [hW7]; rfl
          rw [← hW7] at GX OX KX
          rw [← hW7]
          have z7 := sz7
          rw [sz7] at OX zs hgl2
          clear hW7 sz7 q0 c0 hcr k6 G6 O6 K6 D6 z6
          obtain ⟨z7a, z7b⟩ : W6.heap.size ≤ W7.heap.size ∧ W7.heap.size ≤ W6.heap.size := by omega
          clear z7
          by_cases hneg : tv < 0
          · have t1 : decide (0 ≤ tv) = false := by simp; omega
            have WN := Lib.hid (WD.out.skip hu (fun b' hb' e => by rw [htv] at e; omega))
            clear htv hneg
            go_wp2
            go_roundw
            case rel => exact ⟨l, f + 1, _, c', d, ⟨by omega, hjl, hu⟩, by go_num, rfl, WN.out, GX.out, OX.out, KX.out, zs⟩
            case measure => simp [intOf]; omega
          obtain ⟨tb, rfl⟩ := Int.eq_ofNat_of_zero_le (show 0 ≤ tv by omega)
          have t1 : decide (0 ≤ (tb : Int)) = true := by simp
          have htn : tb < n := by
            have := Tc.within IS.out u (by rw [LN.out]; exact un) f hf4
            rw [htv, LN.out] at this
            omega
          have it0 : (0 : Int) ≤ (tb : Int) := by omega
          have it1 : (tb : Int) < (n : Int) := by omega
          obtain ⟨ev, hev⟩ : ∃ ev, d.getD tb 0 = ev := ⟨_, rfl⟩
          have y0 : W7.cell? ⟨w.heap.size + 1, tb, none⟩ = some (.int .i64 ev) := by rw [← hev]; exact GX.out.cell (by rw [LD.out]; exact htn)
          have y1 := GX.out.frozen tb
          by_cases hen : ev < 0
          case neg =>
            have t2 : decide (ev < 0) = false := by simp; omega
            have WN := Lib.hid (WD.out.skip hu (fun b' hb' e => by rw [htv] at e; have : b' = tb := by omega
                                                                   subst this; rw [hev]; omega))
            clear htv hneg hev hen
            go_wp2
            go_roundw
            case rel => exact ⟨l, f + 1, _, c', d, ⟨by omega, hjl, hu⟩, by go_num, rfl, WN.out, GX.out, OX.out, KX.out, zs⟩
            case measure => simp [intOf]; omega
          have t2 : decide (ev < 0) = true := by simpa using hen
          have WN := Lib.hid (WD.out.into KB.out.1 hu hf4 (by rw [PL.out, LN.out]; exact htn) htv (by rw [hev]; exact hen))
          have UN := Lib.hid (show (l ++ [tb])[j]? = some u from by rw [List.getElem?_append_left hjl]; exact hu)
          clear htv hneg hev hen
          obtain ⟨W8, hW8⟩ : ∃ W8, W8 = W7.setCell ⟨w.heap.size + 1, tb, none⟩ (.int .i64 kk) := ⟨_, rfl⟩
          obtain ⟨z8, z8b⟩ : W8.heap.size ≤ W7.heap.size ∧ W7.heap.size ≤ W8.heap.size := by rw [hW8]; simp [World.setCell]
          have G8 := Lib.hid (show Blk W8 (w.heap.size + 1) (d.set tb kk) from by rw [hW8]; exact GX.out.set_ tb kk)
          have K8 := Lib.hid (show Kept (w.heap.size + 1) (w.heap.size + 2) W0 W8 from by rw [hW8]; exact KX.out.set_ (Nat.le_refl _) (by dsimp only; omega) _)
          have O8 := Lib.hid (show Own W8 W3.heap.size W7.heap.size (some ⟨gl, 0, none⟩) l.length c' (Tc.lin l) from by rw [hW8]; exact OX.out.keep fun k h1 h2 => Below.heap_setCell _ _ _ k (by dsimp only; omega))
          go_upto_region 22 with fail
          rw [← hW8]
          clear hW8 GX OX KX y0 y1
          go_wp2_with (at_builtin; refine Wd.push_int rfl _ _ rfl W3.heap.size W7.heap.size c' W8.heap.size l.length (some ⟨gl, 0, none⟩) _ (tb : Int) rfl (by exact O8.out.below (al1 W8 _) (by omega)) rfl (by exact Wd.alloc_first _ _ _ _ rfl) (by simp; omega) (by omega) ?_; intro A9 c9 w9 h5 h6; have O9 := Lib.hid h5; have s9 := h6.size; have G9 := Lib.hid ((G8.out.below (al1 W8 _) (by omega)).below (h6.below (B := W3.heap.size) (Nat.le_refl _) (by simp; omega)) (by omega)); have K9 := Lib.hid (keep_over (K8.out.trans (Kept.of_below (al1 W8 _) _ _)) (h6.below (B := W3.heap.size) (Nat.le_refl _) (by simp; omega)) (by omega) s9); clear h5 h6)
          go_wp2
          go_roundw
          case rel => exact ⟨l ++ [tb], f + 1, A9, c9, _, ⟨by omega, by rw [List.length_append]; omega, UN.out⟩, by go_num, by rw [List.length_append]; rfl, WN.out, G9.out, by rw [List.length_append, Tc.lin_snoc]; exact O9.out, K9.out, by simp at s9; omega⟩
          case measure => simp [intOf]; omega

set_option maxRecDepth 100000 in
set_option maxHeartbeats 4000000 in
theorem comps_spec (A : Option Addr) (n c : Nat) (T : List (List Int)) (w : World) (h : RdT w w.heap.size A n T) (hn : n ≤ 1048576) :
    Calls Tryd.prog 24 #[.agg #[.slice A n c]] w (ResLM w (Tc.cmp T)) := by
  have LN := Lib.hid h.len
  have HT := Lib.hid h
  clear h
  obtain ⟨U, hU⟩ : ∃ U, U = w.alloc (Obj.cells #[.slice A n c] 28) := ⟨_, rfl⟩
  have hB : Below w.heap.size w U := by rw [hU]; exact al1 w _
  have z : U.heap.size = w.heap.size + 1 := by rw [hU]; simp
  have k0 : U.cell? ⟨w.heap.size, 0, none⟩ = some (.slice A n c) := by rw [hU]; simp [go_sem]
  have DU := Lib.hid hB
  have TI := Lib.hid (isTri_specT A n c T U (HT.out.into hB) hn)
  clear hB
  go_enter Tryd.func24, Tryd.ntmps24
  go_upto_region 1 with fail
  rw [← hU]
  clear hU
  go_wp2_with fail
  refine TI.out.mono ?_
  rintro e w1 ⟨rfl, hb⟩
  have k0 := (hb.cell (p := ⟨w.heap.size, 0, none⟩) (by dsimp only; omega)).trans k0
  have z1 : U.heap.size ≤ w1.heap.size := hb.size
  have D1 := Lib.hid (DU.out.trans (hb.mono (by omega)))
  clear hb TI DU
  by_cases hok : Tr.Is T
  case neg =>
    rw [decide_eq_false hok]
    have R := Lib.hid (show Tc.cmp T = [] from by unfold Tc.cmp; rw [if_neg hok])
    clear hok
    go_wp2
    go_ret
    rw [R.out]
    exact ⟨none, 0, rfl, ⟨Nat.le_refl _, Nat.zero_le _⟩, Mine.none_ _ _ _ _, D1.out⟩
  rw [decide_eq_true hok]
  have R := Lib.hid (show Tc.cmp T = (Tc.prt T n).1 from by unfold Tc.cmp; rw [if_pos hok, LN.out])
  have PS := Lib.hid (parts_spec A n c T w1 (HT.out.into D1.out) hok)
  clear hok
  go_wp2_with fail
  refine PS.out.mono ?_
  rintro e w2 ⟨A2, c2, rfl, hc, hM, hb⟩
  have M2 := Lib.hid hM
  have C2 := Lib.hid hc
  have D2 := Lib.hid (D1.out.trans (hb.mono (by omega)))
  clear hM hc hb
  go_wp2
  go_ret
  rw [R.out]
  exact ⟨A2, c2, rfl, C2.out, M2.out.wide (by omega) (Nat.le_refl _), D2.out⟩
end Fc
end Go.Proofs.YtajbahfbldmckaaDoor

namespace Go.Proofs.YtajbahfbldmckaaDoor
open Go Go.ChangeShapes Go.WideShapes Go.ChangeAt Go.RowKit

/-- A box of one cell. -/
structure Box1 (w : World) (b : Nat) (x : Value) : Prop where
  c : w.cell? ⟨b, 0, none⟩ = some x
theorem Box1.below {w w' : World} {b : Nat} {x : Value} {B : Nat} (h : Box1 w b x) (hb : Below B w w') (hg : b < B) : Box1 w' b x := ⟨(hb.cell (p := ⟨b, 0, none⟩) hg).trans h.c⟩
theorem Box1.new (w : World) (t : TypeId) (x : Value) : Box1 (w.alloc (.cells #[x] t)) w.heap.size x := ⟨by simp [go_sem]⟩
theorem Box1.kept {w w' : World} {lo hi b : Nat} {x : Value} (h : Box1 w b x) (hk : Kept lo hi w w') (hg : b < w.heap.size) (hn : ¬ (lo ≤ b ∧ b < hi)) : Box1 w' b x := ⟨(World.cell?_of_block (a := ⟨b, 0, none⟩) (hk.block b hg hn)).trans h.c⟩
theorem Box1.set_ {W : World} {b : Nat} {x u : Value} (h : Box1 W b x) : Box1 (W.setCell ⟨b, 0, none⟩ u) b u := ⟨by simp [h.c, go_sem]⟩

/-- An answer of at most eight tetrahedra. -/
def Fc.Szd (T : List (List Int)) : Prop := T.length ≤ 8 ∧ ∀ z ∈ T, z.length ≤ 8
theorem Fc.Szd.nil : Fc.Szd [] := ⟨by simp, by simp⟩
theorem Fc.Szd.len {T : List (List Int)} {rs : List Fc.Rw} (h : Fc.Szd T) (hv : Fc.vals rs = T) : rs.length ≤ 1048576 := by have := h.1; rw [← hv, Fc.vals_len] at this; omega
theorem Fc.Szd.row0 {T : List (List Int)} {rs : List Fc.Rw} (h : Fc.Szd T) (hv : Fc.vals rs = T) : ∀ r ∈ rs, r.zs.length ≤ 8 := fun r hr => h.2 _ (by rw [← hv]; exact List.mem_map_of_mem hr)
theorem Fc.Szd.row {T : List (List Int)} {rs : List Fc.Rw} (h : Fc.Szd T) (hv : Fc.vals rs = T) : ∀ r ∈ rs, r.zs.length / 2 ≤ 1048576 := fun r hr => by have := h.row0 hv r hr; omega
theorem Fc.tot_le8 : ∀ rs : List Fc.Rw, (∀ r ∈ rs, r.zs.length ≤ 8) → Fc.tot rs ≤ 8 * rs.length
  | [], _ => by simp [Fc.tot]
  | r :: rs, h => by
    have h1 := h r (List.mem_cons_self ..)
    have h2 := tot_le8 rs fun q hq => h q (List.mem_cons_of_mem _ hq)
    simp only [Fc.tot, List.length_cons]
    omega
theorem Fc.Szd.tot {T : List (List Int)} {rs : List Fc.Rw} (h : Fc.Szd T) (hv : Fc.vals rs = T) : rs.length + Fc.tot rs ≤ 2097152 := by
  have h1 := Fc.tot_le8 rs (h.row0 hv)
  have h2 := h.1
  rw [← hv, Fc.vals_len] at h2
  omega

theorem Tr.Four.mem {T : List (List Int)} (h : Tr.Four T) {z : List Int} (hz : z ∈ T) : z.length = 8 := by
  obtain ⟨i, hi, rfl⟩ := List.getElem_of_mem hz
  have := h i hi
  rwa [List.getD_eq_getElem?_getD, List.getElem?_eq_getElem hi] at this
theorem Tr.Is.szd {T : List (List Int)} (h : Tr.Is T) : Fc.Szd T := ⟨h.1, fun _ hz => Nat.le_of_eq (Tr.Four.mem h.2.1 hz)⟩

end Go.Proofs.YtajbahfbldmckaaDoor

namespace Go.Proofs.YtajbahfbldmckaaDoor
open Go Go.ChangeShapes Go.WideShapes Go.ChangeAt Go.RowKit

set_option maxRecDepth 100000 in
set_option maxHeartbeats 16000000 in
theorem exactTetComponents (Aa : Option Addr) (ca : Nat) (rsa : List Fc.Rw) (ll : List Int) (w : World) (ha : Fc.RdS w w.heap.size Aa rsa) (hna : rsa.length + Fc.cnt rsa ≤ 1048576) (hz : ll.length ≤ 1048576)
    (hs : ∀ (W : World) (A : Option Addr) (c : Nat) (qs : List Fc.Rw), Fc.RdS W W.heap.size A qs → Fc.vals qs = Fc.vals rsa → Below w.heap.size w W → Calls Tryd.prog 24 #[.agg #[.slice A qs.length c]] W (ResLM W ll))
    (hi : ∀ (W : World) (A : Option Addr) (c : Nat) (qs : List Fc.Rw), Fc.RdS W W.heap.size A qs → Fc.vals qs = Fc.vals rsa → Below w.heap.size w W → Calls Tryd.prog 25 #[.agg #[.slice A qs.length c]] W (ResLM W ll)) :
    Calls Tryd.prog 6 #[.agg #[.slice Aa rsa.length ca]] w fun e w' => e = .returned (.bool true) ∧ Below w.heap.size w w' := by
  have HS := Lib.hid hs
  have HI := Lib.hid hi
  clear hs hi
  have HB := Lib.hid (Below.refl w.heap.size w)
  have Ha := Lib.hid ha
  have hzl := hz
  clear ha hz
  have hnl : rsa.length ≤ 1048576 := by omega
  have hml : rsa.length ≤ maxLen := Nat.le_trans hnl (by unfold maxLen; omega)
  have ROW := Lib.hid (show ∀ r ∈ rsa, r.zs.length / 2 ≤ 1048576 from fun r hr => by have := Fc.row_le_cnt hr; omega)
  have EV := Lib.hid (show ∀ r ∈ rsa, r.zs.length % 2 = 0 from fun r hr => (Ha.out.1 r hr).le.2)
  have TT := Lib.hid (show Fc.tot rsa = 2 * Fc.cnt rsa from Fc.tot_cnt EV.out)
  have tl0 : decide ((1048576 : Int) - (rsa.length : Int) - (Fc.cnt rsa : Int) < 0) = false := by simp; omega
  go_enter Tryd.func6, Tryd.ntmps6
  go_wp2_with fail
  refine (Fc.szT_any Aa ca rsa _ _ (Ha.out.into (al1 _ _)) hml (by omega) (by omega)).mono ?_
  rintro e w1 ⟨rfl, hb⟩
  rw [if_neg (by omega)]
  have D1 := Lib.hid (on1 _ hb)
  have s1 : w.heap.size + 1 ≤ w1.heap.size := by have := hb.size; (try simp at this); omega
  have aa_1 := Lib.hid ((Box1.new w 24 (.slice Aa rsa.length ca)).below hb (by simp))
  have HB1 := Lib.hid (HB.out.trans (D1.out.mono (by omega)))
  clear HB
  have HB := HB1
  clear HB1 hb
  have z_aa : w.heap.size < w1.heap.size := by omega
  obtain ⟨qaa0⟩ := aa_1.out
  go_wp2_with fail
  refine (Fc.toT_any Aa ca rsa _ (Ha.out.into HB.out) hnl ROW.out).mono ?_
  rintro e w2 ⟨g2, c2, rs2, rfl, hk, hv, hb⟩
  clear qaa0
  have X2_2 := Lib.hid (hk.wide (lo' := w1.heap.size) (hi' := w2.heap.size) (by simp) (Nat.le_refl _))
  have V2 := Lib.hid hv
  clear hk hv
  have D2 := Lib.hid (hb)
  have s2 : w1.heap.size + 0 ≤ w2.heap.size := by have := hb.size; (try simp at this); omega
  have aa_2 := Lib.hid (aa_1.out.below D2.out (by omega))
  clear aa_1
  have HB2 := Lib.hid (HB.out.trans (D2.out.mono (by omega)))
  clear HB
  have HB := HB2
  clear HB2 hb
  clear z_aa
  have z_aa : w.heap.size < w2.heap.size := by omega
  obtain ⟨qaa0⟩ := aa_2.out
  go_wp2_with fail
  refine (HS.out _ _ _ _ (X2_2.out.rd.more (by (try simp) <;> omega)) V2.out HB.out).mono ?_
  rintro e w3 ⟨R3, t3, rfl, _, hown, hb⟩
  clear qaa0
  have Y3_3 := Lib.hid (hown.wide (lo' := w2.heap.size) (hi' := w3.heap.size) (by simp) (Nat.le_refl _))
  clear hown
  have D3 := Lib.hid (hb)
  have s3 : w2.heap.size + 0 ≤ w3.heap.size := by have := hb.size; (try simp at this); omega
  have aa_3 := Lib.hid (aa_2.out.below D3.out (by omega))
  clear aa_2
  have X2_3 := Lib.hid (X2_2.out.below D3.out (by omega))
  clear X2_2
  have HB3 := Lib.hid (HB.out.trans (D3.out.mono (by omega)))
  clear HB
  have HB := HB3
  clear HB3 hb
  clear z_aa
  have z_aa : w.heap.size < w3.heap.size := by omega
  clear X2_3
  as_aux_lemma =>
    obtain ⟨qaa0⟩ := aa_3.out
    go_wp2_with fail
    refine (Fc.toT_any Aa ca rsa _ (Ha.out.into HB.out) hnl ROW.out).mono ?_
    rintro e w4 ⟨g4, c4, rs4, rfl, hk, hv, hb⟩
    clear qaa0
    have X4_4 := Lib.hid (hk.wide (lo' := w3.heap.size) (hi' := w4.heap.size) (by simp) (Nat.le_refl _))
    have V4 := Lib.hid hv
    clear hk hv
    have D4 := Lib.hid (hb)
    have s4 : w3.heap.size + 0 ≤ w4.heap.size := by have := hb.size; (try simp at this); omega
    have aa_4 := Lib.hid (aa_3.out.below D4.out (by omega))
    clear aa_3
    have Y3_4 := Lib.hid (Y3_3.out.below D4.out (by omega))
    clear Y3_3
    have HB4 := Lib.hid (HB.out.trans (D4.out.mono (by omega)))
    clear HB
    have HB := HB4
    clear HB4 hb
    clear z_aa
    have z_aa : w.heap.size < w4.heap.size := by omega
    obtain ⟨qaa0⟩ := aa_4.out
    go_wp2_with fail
    refine (HI.out _ _ _ _ ((X4_4.out.al (by omega) (al1 _ _)).rd.more (by (try simp) <;> omega)) V4.out (HB.out.trans ((al1 _ _).mono (by omega)))).mono ?_
    rintro e w5 ⟨R5, t5, rfl, _, hown, hb⟩
    clear qaa0
    have Y5_5 := Lib.hid (hown.wide (lo' := w4.heap.size + 1) (hi' := w5.heap.size) (by simp) (Nat.le_refl _))
    clear hown
    have D5 := Lib.hid (on1 _ hb)
    have s5 : w4.heap.size + 1 ≤ w5.heap.size := by have := hb.size; (try simp at this); omega
    have aa_5 := Lib.hid (aa_4.out.below D5.out (by omega))
    clear aa_4
    have bx_5 := Lib.hid ((Box1.new w4 28 (.slice (some ⟨g4, 0, none⟩) rs4.length c4)).below hb (by simp))
    have Y3_5 := Lib.hid (Y3_4.out.below D5.out (by omega))
    clear Y3_4
    have X4_5 := Lib.hid (X4_4.out.below D5.out (by omega))
    clear X4_4
    have HB5 := Lib.hid (HB.out.trans (D5.out.mono (by omega)))
    clear HB
    have HB := HB5
    clear HB5 hb
    clear z_aa
    have z_aa : w.heap.size < w5.heap.size := by omega
    have z_bx : w4.heap.size < w5.heap.size := by omega
    obtain ⟨qaa0⟩ := aa_5.out
    obtain ⟨qbx0⟩ := bx_5.out
    go_wp2_with fail
    refine (eqInts_any _ _ _ _ _ ll (w5.heap.size) (w3.heap.size) _ Y5_5.out.ints Y3_5.out.ints hzl).mono ?_
    rintro e w6 ⟨rfl, hm⟩
    have hb : Below w5.heap.size w5 w6 := by obtain ⟨m, rfl⟩ := hm; exact Go.Joins.below_draws _ _ _
    clear hm
    clear qaa0 qbx0
    have D6 := Lib.hid (hb)
    have s6 : w5.heap.size + 0 ≤ w6.heap.size := by have := hb.size; (try simp at this); omega
    have aa_6 := Lib.hid (aa_5.out.below D6.out (by omega))
    clear aa_5
    have bx_6 := Lib.hid (bx_5.out.below D6.out (by omega))
    clear bx_5
    have Y3_6 := Lib.hid (Y3_5.out.below D6.out (by omega))
    clear Y3_5
    have X4_6 := Lib.hid (X4_5.out.below D6.out (by omega))
    clear X4_5
    have Y5_6 := Lib.hid (Y5_5.out.below D6.out (by omega))
    clear Y5_5
    have HB6 := Lib.hid (HB.out.trans (D6.out.mono (by omega)))
    clear HB
    have HB := HB6
    clear HB6 hb
    clear z_aa
    have z_aa : w.heap.size < w6.heap.size := by omega
    clear z_bx
    have z_bx : w4.heap.size < w6.heap.size := by omega
    as_aux_lemma =>
      obtain ⟨qaa0⟩ := aa_6.out
      obtain ⟨qbx0⟩ := bx_6.out
      go_wp2_with fail
      go_region_held3 (fun W => (W.cell? ⟨w4.heap.size, 0, none⟩ = some (.slice (some ⟨g4, 0, none⟩) rs4.length c4)) ∧ (W.cell? ⟨w.heap.size, 0, none⟩ = some (.slice Aa rsa.length ca))) (go_keep)
        (first
          | (go_at_call 15; (with_reducible refine (Fc.toT_any Aa ca rsa _ (by exact Ha.out.into HB.out.drew) hnl ROW.out).mono ?_); rintro e w7 ⟨g7, c7, rs7, rfl, hk6, hv6, hb6'⟩; have hb6 := undrew hb6'; have K6 := Lib.hid hk6; have B6 := Lib.hid hb6; have V6 := Lib.hid hv6; have z6 := hb6.size; have e0 := (hb6.cell (p := ⟨w4.heap.size, 0, none⟩) (by dsimp only; omega)).trans bx_6.out.c; have f0 := (hb6.cell (p := ⟨w.heap.size, 0, none⟩) (by dsimp only; omega)).trans aa_6.out.c; clear hk6 hv6 hb6 hb6')
          | (go_at_call 17; (with_reducible refine (Fc.eqT_any _ _ _ _ rs4 _ (w4.heap.size) _ _ (by exact X4_6.out.rd.below (B6.out.mono (by omega))) (by exact K6.out.rd) (V4.out.trans V6.out.symm) (by have := B6.out.size; omega) (Nat.le_refl _) (by have := Fc.vals_same V4.out; omega) (Fc.rows_same V4.out ROW.out)).mono ?_); rintro e w8 ⟨rfl, hb7⟩; have m0 := (hb7.cell (p := ⟨w4.heap.size, 0, none⟩) (by dsimp only; omega)).trans e0; have y0 := (hb7.cell (p := ⟨w.heap.size, 0, none⟩) (by dsimp only; omega)).trans f0))
      clear e0 f0 m0 y0 K6 V6
      clear qaa0 qbx0
      have hb6 := B6.out
      clear B6
      have D7 := Lib.hid (hb6)
      have s7 : w6.heap.size + 0 ≤ w7.heap.size := by have := hb6.size; (try simp at this); omega
      have aa_7 := Lib.hid (aa_6.out.below D7.out (by omega))
      clear aa_6
      have bx_7 := Lib.hid (bx_6.out.below D7.out (by omega))
      clear bx_6
      have Y3_7 := Lib.hid (Y3_6.out.below D7.out (by omega))
      clear Y3_6
      have X4_7 := Lib.hid (X4_6.out.below D7.out (by omega))
      clear X4_6
      have Y5_7 := Lib.hid (Y5_6.out.below D7.out (by omega))
      clear Y5_6
      have HB7 := Lib.hid (HB.out.trans (D7.out.mono (by omega)))
      clear HB
      have HB := HB7
      clear HB7 hb6
      clear z_aa
      have z_aa : w.heap.size < w7.heap.size := by omega
      clear z_bx
      have z_bx : w4.heap.size < w7.heap.size := by omega
      have D8 := Lib.hid (hb7)
      have s8 : w7.heap.size + 0 ≤ w8.heap.size := by have := hb7.size; (try simp at this); omega
      have aa_8 := Lib.hid (aa_7.out.below D8.out (by omega))
      clear aa_7
      have bx_8 := Lib.hid (bx_7.out.below D8.out (by omega))
      clear bx_7
      have Y3_8 := Lib.hid (Y3_7.out.below D8.out (by omega))
      clear Y3_7
      have X4_8 := Lib.hid (X4_7.out.below D8.out (by omega))
      clear X4_7
      have Y5_8 := Lib.hid (Y5_7.out.below D8.out (by omega))
      clear Y5_7
      have HB8 := Lib.hid (HB.out.trans (D8.out.mono (by omega)))
      clear HB
      have HB := HB8
      clear HB8 hb7
      clear z_aa
      have z_aa : w.heap.size < w8.heap.size := by omega
      clear z_bx
      have z_bx : w4.heap.size < w8.heap.size := by omega
      as_aux_lemma =>
        obtain ⟨qaa0⟩ := aa_8.out
        obtain ⟨qbx0⟩ := bx_8.out
        go_wp2_with fail
        have tx := Fc.tot_vals V4.out
        have lx := Fc.vals_same V4.out
        have tt2 := TT.out
        refine (Fc.markT_any (some ⟨g4, 0, none⟩) c4 1 rs4 (w3.heap.size) (w4.heap.size) _ X4_8.out (by omega) (by omega) (by omega) (by omega)).mono ?_
        rintro e w9 ⟨rfl, hown, hk⟩
        have TX := Lib.hid (show Fc.tot rs4 ≤ 2097152 from by omega)
        clear X4_8 hown lx tx tt2
        clear qaa0 qbx0
        have D9 := Lib.hid (hk)
        have s9 : w8.heap.size ≤ w9.heap.size := hk.size
        have aa_9 := Lib.hid (aa_8.out.kept D9.out (by omega) (by omega))
        clear aa_8
        have bx_9 := Lib.hid (bx_8.out.kept D9.out (by omega) (by omega))
        clear bx_8
        have Y3_9 := Lib.hid (Y3_8.out.kept D9.out (by omega) (by omega))
        clear Y3_8
        have Y5_9 := Lib.hid (Y5_8.out.kept D9.out (by omega) (by omega))
        clear Y5_8
        have HB9 := Lib.hid (HB.out.trans (D9.out.below (by omega) (by omega)))
        clear HB
        have HB := HB9
        clear HB9 hk
        clear z_aa
        have z_aa : w.heap.size < w9.heap.size := by omega
        clear z_bx
        have z_bx : w4.heap.size < w9.heap.size := by omega
        have tx9 : Fc.tot rs4 ≤ 2097152 := TX.out
        have tx1 : decide ((1 : Int) + (Fc.tot rs4 : Int) < 0) = false := by simp; omega
        clear tx9
        obtain ⟨qaa0⟩ := aa_9.out
        obtain ⟨qbx0⟩ := bx_9.out
        go_wp2_with fail
        refine (eqInts_any _ _ _ _ _ ll (w5.heap.size) (w3.heap.size) _ Y5_9.out.ints Y3_9.out.ints hzl).mono ?_
        rintro e w10 ⟨rfl, hm⟩
        have hb : Below w9.heap.size w9 w10 := by obtain ⟨m, rfl⟩ := hm; exact Go.Joins.below_draws _ _ _
        clear hm
        clear qaa0 qbx0
        have D10 := Lib.hid (hb)
        have s10 : w9.heap.size + 0 ≤ w10.heap.size := by have := hb.size; (try simp at this); omega
        have aa_10 := Lib.hid (aa_9.out.below D10.out (by omega))
        clear aa_9
        have bx_10 := Lib.hid (bx_9.out.below D10.out (by omega))
        clear bx_9
        have Y3_10 := Lib.hid (Y3_9.out.below D10.out (by omega))
        clear Y3_9
        have Y5_10 := Lib.hid (Y5_9.out.below D10.out (by omega))
        clear Y5_9
        have HB10 := Lib.hid (HB.out.trans (D10.out.mono (by omega)))
        clear HB
        have HB := HB10
        clear HB10 hb
        clear z_aa
        have z_aa : w.heap.size < w10.heap.size := by omega
        clear z_bx
        have z_bx : w4.heap.size < w10.heap.size := by omega
        as_aux_lemma =>
          obtain ⟨qaa0⟩ := aa_10.out
          obtain ⟨qbx0⟩ := bx_10.out
          go_wp2_with fail
          refine (markMine_any R5 ll.length _ 1 ll (w4.heap.size + 1) (w5.heap.size) _ Y5_10.out hzl (by omega) (by omega)).mono ?_
          rintro e w11 ⟨rfl, hown, hk⟩
          have Y5_11 := Lib.hid hown
          clear Y5_10 hown
          clear qaa0 qbx0
          have D11 := Lib.hid (hk)
          have s11 : w10.heap.size ≤ w11.heap.size := hk.size
          have aa_11 := Lib.hid (aa_10.out.kept D11.out (by omega) (by omega))
          clear aa_10
          have bx_11 := Lib.hid (bx_10.out.kept D11.out (by omega) (by omega))
          clear bx_10
          have Y3_11 := Lib.hid (Y3_10.out.kept D11.out (by omega) (by omega))
          clear Y3_10
          have HB11 := Lib.hid (HB.out.trans (D11.out.below (by omega) (by omega)))
          clear HB
          have HB := HB11
          clear HB11 hk
          clear z_aa
          have z_aa : w.heap.size < w11.heap.size := by omega
          clear z_bx
          have z_bx : w4.heap.size < w11.heap.size := by omega
          have tq : decide ((1 : Int) + (ll.length : Int) < 0) = false := by simp; omega
          obtain ⟨qaa0⟩ := aa_11.out
          obtain ⟨qbx0⟩ := bx_11.out
          go_wp2_with fail
          refine (heldInts_any R5 ll.length _ 1 (w5.heap.size) _ Y5_11.out.ints hzl (by omega) (by omega)).mono ?_
          rintro e w' ⟨rfl, rfl⟩
          clear qaa0 qbx0
          as_aux_lemma =>
            obtain ⟨qaa0⟩ := aa_11.out
            obtain ⟨qbx0⟩ := bx_11.out
            go_wp2_with fail
            refine (Fc.toT_any Aa ca rsa _ (Ha.out.into HB.out) hnl ROW.out).mono ?_
            rintro e w12 ⟨g12, c12, rs12, rfl, hk, hv, hb⟩
            clear qaa0 qbx0
            have X12_12 := Lib.hid (hk.wide (lo' := w11.heap.size) (hi' := w12.heap.size) (by simp) (Nat.le_refl _))
            have V12 := Lib.hid hv
            clear hk hv
            have D12 := Lib.hid (hb)
            have s12 : w11.heap.size + 0 ≤ w12.heap.size := by have := hb.size; (try simp at this); omega
            have aa_12 := Lib.hid (aa_11.out.below D12.out (by omega))
            clear aa_11
            have bx_12 := Lib.hid (bx_11.out.below D12.out (by omega))
            clear bx_11
            have Y3_12 := Lib.hid (Y3_11.out.below D12.out (by omega))
            clear Y3_11
            have Y5_12 := Lib.hid (Y5_11.out.below D12.out (by omega))
            clear Y5_11
            have HB12 := Lib.hid (HB.out.trans (D12.out.mono (by omega)))
            clear HB
            have HB := HB12
            clear HB12 hb
            clear z_aa
            have z_aa : w.heap.size < w12.heap.size := by omega
            clear z_bx
            have z_bx : w4.heap.size < w12.heap.size := by omega
            obtain ⟨qaa0⟩ := aa_12.out
            obtain ⟨qbx0⟩ := bx_12.out
            go_wp2_with fail
            refine (HI.out _ _ _ _ (X12_12.out.rd.more (by (try simp) <;> omega)) V12.out HB.out).mono ?_
            rintro e w13 ⟨R13, t13, rfl, _, hown, hb⟩
            clear qaa0 qbx0
            have Y13_13 := Lib.hid (hown.wide (lo' := w12.heap.size) (hi' := w13.heap.size) (by simp) (Nat.le_refl _))
            clear hown
            have D13 := Lib.hid (hb)
            have s13 : w12.heap.size + 0 ≤ w13.heap.size := by have := hb.size; (try simp at this); omega
            have aa_13 := Lib.hid (aa_12.out.below D13.out (by omega))
            clear aa_12
            have bx_13 := Lib.hid (bx_12.out.below D13.out (by omega))
            clear bx_12
            have Y3_13 := Lib.hid (Y3_12.out.below D13.out (by omega))
            clear Y3_12
            have Y5_13 := Lib.hid (Y5_12.out.below D13.out (by omega))
            clear Y5_12
            have X12_13 := Lib.hid (X12_12.out.below D13.out (by omega))
            clear X12_12
            have HB13 := Lib.hid (HB.out.trans (D13.out.mono (by omega)))
            clear HB
            have HB := HB13
            clear HB13 hb
            clear z_aa
            have z_aa : w.heap.size < w13.heap.size := by omega
            clear z_bx
            have z_bx : w4.heap.size < w13.heap.size := by omega
            clear X12_13
            obtain ⟨qaa0⟩ := aa_13.out
            obtain ⟨qbx0⟩ := bx_13.out
            go_wp2_with fail
            refine (eqInts_any _ _ _ _ _ ll (w13.heap.size) (w3.heap.size) _ Y13_13.out.ints Y3_13.out.ints hzl).mono ?_
            rintro e w14 ⟨rfl, hm⟩
            have hb : Below w13.heap.size w13 w14 := by obtain ⟨m, rfl⟩ := hm; exact Go.Joins.below_draws _ _ _
            clear hm
            clear qaa0 qbx0
            have D14 := Lib.hid (hb)
            have s14 : w13.heap.size + 0 ≤ w14.heap.size := by have := hb.size; (try simp at this); omega
            have aa_14 := Lib.hid (aa_13.out.below D14.out (by omega))
            clear aa_13
            have bx_14 := Lib.hid (bx_13.out.below D14.out (by omega))
            clear bx_13
            have Y3_14 := Lib.hid (Y3_13.out.below D14.out (by omega))
            clear Y3_13
            have Y5_14 := Lib.hid (Y5_13.out.below D14.out (by omega))
            clear Y5_13
            have Y13_14 := Lib.hid (Y13_13.out.below D14.out (by omega))
            clear Y13_13
            have HB14 := Lib.hid (HB.out.trans (D14.out.mono (by omega)))
            clear HB
            have HB := HB14
            clear HB14 hb
            clear z_aa
            have z_aa : w.heap.size < w14.heap.size := by omega
            clear z_bx
            have z_bx : w4.heap.size < w14.heap.size := by omega
            as_aux_lemma =>
              obtain ⟨qaa0⟩ := aa_14.out
              obtain ⟨qbx0⟩ := bx_14.out
              go_wp2_with fail
              refine (heldInts_any R5 ll.length _ 1 (w5.heap.size) _ Y5_14.out.ints hzl (by omega) (by omega)).mono ?_
              rintro e w' ⟨rfl, rfl⟩
              clear qaa0 qbx0
              go_wp2
              go_ret
              exact ⟨rfl, HB.out⟩

end Go.Proofs.YtajbahfbldmckaaDoor

