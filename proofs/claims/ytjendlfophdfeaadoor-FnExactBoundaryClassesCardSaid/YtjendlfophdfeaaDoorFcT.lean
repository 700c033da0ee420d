/- The builder of a triangulation: its tetrahedra. No condition but those that each theorem names. -/
import Derived.Test.YtjendlfophdfeaaDoorFcP
import Derived.Test.YtjendlfophdfeaaDoorFcD
import Derived.Deep.RegionHeld3
namespace Go.Proofs.YtjendlfophdfeaaDoor
open Go.RowKit
namespace Fc

theorem OwnS.pushed {w w' : World} {lo hi lo2 c g' cap : Nat} {A : Option Addr} {rs : List Rw} {r : Rw} (hown : OwnS w lo hi A c rs) (hr : r.In w lo2 w.heap.size) (h12 : hi ≤ lo2) (hlo2 : lo ≤ lo2) (hhi : hi ≤ w.heap.size)
    (h1 : w'.ownsRow lo 84 1 (.slice (some ⟨g', 0, none⟩) (rs.length + 1) cap) (rs.length + 1) (rs.map Rw.sv ++ [r.sv])) (hg : w.grownBy w' (Value.slice A rs.length c).ownBlock) (hat : (Value.slice A rs.length c).ownBlock = some g' ∨ g' = w.heap.size) (hlt : g' < w'.heap.size) :
    OwnS w' lo w'.heap.size (some ⟨g', 0, none⟩) cap (rs ++ [r]) ∧ Kept lo hi w w' := by
  have hob : ∀ k, (Value.slice A rs.length c).ownBlock = some k → lo ≤ k ∧ k < hi ∧ ∀ q ∈ rs, q.Off k := fun k hk => by
    cases A with
    | none => simp [Value.ownBlock] at hk
    | some p =>
      have h2 := hown.top p rfl
      have h3 := fun q hq => hown.off q hq p rfl
      have h4 := (World.ownsRow.lt hown.row k hk).1
      simp [Value.ownBlock] at hk
      subst hk
      exact ⟨h4, h2, h3⟩
  have hk : Kept lo hi w w' := Wd.kept_grown hg fun k hk => ⟨(hob k hk).1, (hob k hk).2.1⟩
  have hrw : r.In w' lo w'.heap.size := (hr.grown hg fun k hk => hr.off (.inl (by have := (hob k hk).2.1; omega))).wide hlo2 hg.size
  refine ⟨⟨?_, (fun a ha => by cases ha; exact hlt), fun q hq => ?_, fun q hq a ha => ?_, ?_⟩, hk⟩
  · rw [List.length_append, List.map_append]
    exact h1
  · rcases List.mem_append.1 hq with hq | hq
    · exact ((hown.mine q hq).grown hg fun k hk => (hob k hk).2.2 q hq).wide (Nat.le_refl _) (Nat.le_trans hhi hg.size)
    · simp at hq; subst hq
      exact hrw
  · cases ha
    dsimp only
    rcases hat with hat | hat
    · rcases List.mem_append.1 hq with hq | hq
      · exact (hob _ hat).2.2 q hq
      · simp at hq; subst hq
        exact hr.off (.inl (by have := (hob _ hat).2.1; omega))
    · rcases List.mem_append.1 hq with hq | hq
      · exact (hown.mine q hq).off (.inr (by omega))
      · simp at hq; subst hq
        exact hr.off (.inr (by omega))
  · rw [List.pairwise_append]
    exact ⟨hown.apart, List.pairwise_singleton _ _, fun q hq q' hq' => by simp at hq'; subst hq'; exact Apart.of_in (hown.mine q hq) hr (.inl h12)⟩

/-- A row is appended at a step of a region that draws its order. -/
theorem step_push_row {w : World} {ops : Array Oper} {o : Oper} {a : Act} {K : Act → World → Prop} {Q : Exit → Act → World → Prop} {E : Prop} (hgd : o.guard = none) (s x : Operand) (ho : o.op = .call { callee := .builtin .append, args := #[s, x], argTypes := #[27, 27] })
    (lo hi lo2 c n g : Nat) (A : Option Addr) (rs : List Rw) (r : Rw) (hs : a.eval s = .slice A n c) (hn : rs.length = n) (hown : OwnS w lo hi A c rs) (hx : a.eval x = .slice (some ⟨g, 0, none⟩) 1 1) (hc : w.cell? ⟨g, 0, none⟩ = some r.sv) (hr : r.In w lo2 w.heap.size) (h12 : hi ≤ lo2) (hlo2 : lo ≤ lo2) (hlo : lo ≤ w.heap.size) (hhi : hi ≤ w.heap.size) (hlen : n ≤ 1048576)
    (h : ∀ A' c' w', OwnS w' lo w'.heap.size A' c' (rs ++ [r]) → Kept lo hi w w' → K (a.put o.dst (.slice A' (n + 1) c')) w') : if Region.wanted o (yielded ops a.tmps) = true then Oper.wp Tryd.prog o a w K Q else E := by
  obtain ⟨ti, hi0, hz0, hz1, hz2⟩ := info_parts infoS
  subst hn
  refine step_append_lies w hgd s x 27 ho lo 84 ti _ 1 24 Tryd.underlying27 hi0 hz0 hz1 hz2 rfl (by decide) (.slice A rs.length c) rs.length (rs.map Rw.sv) hs hown.row ⟨g, 0, none⟩ 1 1 [r.sv] hx rfl
    (by intro j u hj; cases j with | zero => (simp at hj; subst hj; simpa [Addr.add] using hc) | succ j => simp at hj) (by intro u hu; simp at hu; subst hu; rfl) (by omega) (by unfold maxLen; omega) (by omega) hlo _ rfl ?_
  intro g' cap w' h1 hg hat hlt
  obtain ⟨q1, q2⟩ := hown.pushed hr h12 hlo2 hhi h1 hg hat hlt
  exact h _ _ _ q1 q2


/-- A row is appended at a step of a region that draws its order; what lies apart stays apart. -/
theorem step_push_row3 {w : World} {ops : Array Oper} {o : Oper} {a : Act} {K : Act → World → Prop} {Q : Exit → Act → World → Prop} {E : Prop} (hgd : o.guard = none) (s x : Operand) (ho : o.op = .call { callee := .builtin .append, args := #[s, x], argTypes := #[27, 27] })
    (lo hi lo2 c n g : Nat) (A : Option Addr) (rs : List Rw) (r : Rw) (hs : a.eval s = .slice A n c) (hn : rs.length = n) (hown : OwnS w lo hi A c rs) (hx : a.eval x = .slice (some ⟨g, 0, none⟩) 1 1) (hc : w.cell? ⟨g, 0, none⟩ = some r.sv) (hr : r.In w lo2 w.heap.size) (h12 : hi ≤ lo2) (hlo2 : lo ≤ lo2) (hlo : lo ≤ w.heap.size) (hhi : hi ≤ w.heap.size) (hlen : n ≤ 1048576)
    (F : Nat → Prop) (hF : ∀ b0, F b0 → b0 < lo2 ∧ b0 < w.heap.size ∧ (∀ a, A = some a → a.block ≠ b0) ∧ ∀ q ∈ rs, q.Off b0)
    (h : ∀ A' c' w', OwnS w' lo w'.heap.size A' c' (rs ++ [r]) → Kept lo hi w w' → (∀ b0, F b0 → w'.heap[b0]? = w.heap[b0]? ∧ (∀ a, A' = some a → a.block ≠ b0) ∧ ∀ q ∈ rs ++ [r], q.Off b0) → K (a.put o.dst (.slice A' (n + 1) c')) w') : if Region.wanted o (yielded ops a.tmps) = true then Oper.wp Tryd.prog o a w K Q else E := by
  obtain ⟨ti, hi0, hz0, hz1, hz2⟩ := info_parts infoS
  subst hn
  refine step_append_lies w hgd s x 27 ho lo 84 ti _ 1 24 Tryd.underlying27 hi0 hz0 hz1 hz2 rfl (by decide) (.slice A rs.length c) rs.length (rs.map Rw.sv) hs hown.row ⟨g, 0, none⟩ 1 1 [r.sv] hx rfl
    (by intro j u hj; cases j with | zero => (simp at hj; subst hj; simpa [Addr.add] using hc) | succ j => simp at hj) (by intro u hu; simp at hu; subst hu; rfl) (by omega) (by unfold maxLen; omega) (by omega) hlo _ rfl ?_
  intro g' cap w' h1 hg hat hlt
  obtain ⟨q1, q2⟩ := hown.pushed hr h12 hlo2 hhi h1 hg hat hlt
  refine h _ _ _ q1 q2 (fun b0 h3 => ?_)
  obtain ⟨f1, f2, f3, f4⟩ := hF b0 h3
  have hnb : ∀ k, (Value.slice A rs.length c).ownBlock = some k → k ≠ b0 := fun k hk => by
    cases A with
    | none => simp [Value.ownBlock] at hk
    | some p =>
      have h6 := f3 p rfl
      simp [Value.ownBlock] at hk
      subst hk
      exact h6
  refine ⟨hg.block b0 f2 (fun e => hnb b0 e.symm rfl), fun a' ha' => ?_, fun q hq => ?_⟩
  · cases ha'
    dsimp only
    rcases hat with hat | hat
    · exact hnb _ hat
    · omega
  · rcases List.mem_append.1 hq with hq | hq
    · exact f4 q hq
    · simp at hq; subst hq
      exact hr.off (.inl f1)

/-- A tetrahedron with four boundary faces. -/
def fr : List Int := [-1, 0, -1, 0, -1, 0, -1, 0]
theorem sv_fr (g : Nat) : Rw.sv ⟨some ⟨g, 0, none⟩, 4, fr⟩ = .slice (some ⟨g, 0, none⟩) 4 4 := by simp [Rw.sv, fr]
/-- Blocks that a list and its rows keep off. -/
def Apt (F : Nat → Prop) (A : Option Addr) (rs : List Rw) : Prop := ∀ b0, F b0 → (∀ a, A = some a → a.block ≠ b0) ∧ ∀ q ∈ rs, q.Off b0
/-- The builder lies in block bb, its rows behind it. -/
structure Bld (w : World) (bb mb : Nat) (A : Option Addr) (c : Nat) (rs : List Rw) : Prop where
  cell : w.cell? ⟨bb, 0, none⟩ = some (.slice A rs.length c)
  map : w.cell? ⟨bb, 1, none⟩ = some (.map (some mb))
  free : w.frozen? ⟨bb, 0, none⟩ = false
  own : OwnS w (bb + 1) w.heap.size A c rs
theorem Bld.lt {w : World} {bb mb c : Nat} {A : Option Addr} {rs : List Rw} (h : Bld w bb mb A c rs) : bb < w.heap.size := World.block_lt_of_cell? w ⟨bb, 0, none⟩ h.cell
theorem Bld.below {w w' : World} {bb mb c : Nat} {A : Option Addr} {rs : List Rw} (h : Bld w bb mb A c rs) (hb : Below w.heap.size w w') : Bld w' bb mb A c rs :=
  ⟨(hb.cell (p := ⟨bb, 0, none⟩) h.lt).trans h.cell, (hb.cell (p := ⟨bb, 1, none⟩) h.lt).trans h.map, (hb.frozen (p := ⟨bb, 0, none⟩) h.lt).trans h.free, (h.own.below hb (Nat.le_refl _)).wide (Nat.le_refl _) hb.size⟩

theorem free_in (w : World) (o : Obj) : Rw.In ⟨some ⟨w.heap.size, 0, none⟩, 4, fr⟩ ((w.alloc (Obj.cells #[.int .i64 (-1), .int .i64 0, .int .i64 (-1), .int .i64 0, .int .i64 (-1), .int .i64 0, .int .i64 (-1), .int .i64 0] 83)).alloc o) w.heap.size (w.heap.size + 1) := by
  have h : BlkF ((w.alloc (Obj.cells #[.int .i64 (-1), .int .i64 0, .int .i64 (-1), .int .i64 0, .int .i64 (-1), .int .i64 0, .int .i64 (-1), .int .i64 0] 83)).alloc o) w.heap.size fr := by
    have := BlkF.new w fr
    simp only [fr, List.map_cons, List.map_nil] at this
    exact this.alloc _
  exact ⟨⟨by simp [fr], by simp [fr]⟩, by unfold maxLen; dsimp only; omega, h.mine (Nat.le_refl _) (Nat.lt_succ_self _) rfl⟩

end Fc
end Go.Proofs.YtjendlfophdfeaaDoor
