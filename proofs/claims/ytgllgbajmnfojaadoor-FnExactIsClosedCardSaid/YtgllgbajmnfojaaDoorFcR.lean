/- Rows that are collected in a loop over the faces. No condition but those that each theorem names. -/
import Derived.Test.YtgllgbajmnfojaaDoorFcN
import Derived.Test.YtgllgbajmnfojaaDoorFcP
namespace Go.Proofs.YtgllgbajmnfojaaDoor
open Go.RowKit Go.Shelf

theorem OwnS.grownC {w w' : World} {lo hi c : Nat} {A : Option Addr} {rs : List Rw} {row : Option Nat} (h : OwnS w lo hi A c rs) (hg : w.grownBy w' row) (hr : ∀ k, row = some k → ∃ o : Obj, w.heap[k]? = some o ∧ o.isCells = false) : OwnS w' lo hi A c rs := by
  refine ⟨⟨h.row.1, ?_⟩, h.top, fun r hr' => ?_, h.off, h.apart⟩
  · rcases h.row.2 with h0 | ⟨g, cap, cur, hv, hb, hgg, q⟩
    · exact .inl h0
    · refine .inr ⟨g, cap, cur, hv, hb, ?_, q⟩
      rw [hg.block g (Array.getElem?_eq_some_iff.1 hgg).1 (fun e => by
        obtain ⟨o, ho, hc⟩ := hr g e.symm
        rw [hgg] at ho
        cases ho
        cases hc)]
      exact hgg
  · have hm := h.mine r hr'
    exact ⟨hm.le, hm.cap, hm.mine.1, fun h0 => by
      obtain ⟨g, off, e, h1, h2, h3⟩ := hm.mine.2 h0
      exact ⟨g, off, e, h1, h2, fun j hj => ⟨cell_kept (h3 j hj).1 hg hr, (frozen_kept (h3 j hj).1 hg hr).trans (h3 j hj).2⟩⟩⟩

/-- A row is appended to a slice of slices of the call's own, inside a fence. -/
theorem push_rowI {F : Fence} {m : Nat} {w : World} {ops : Array Oper} {rest : List Oper} {o : Oper} {a : Act} {Q : Exit → Act → World → Prop} (hgd : o.guard = none) (s x : Operand) (ho : o.op = .call { callee := .builtin .append, args := #[s, x], argTypes := #[33, 33] })
    (lo hi lo2 c n g : Nat) (A : Option Addr) (rs : List Rw) (r : Rw) (hs : a.eval s = .slice A n c) (hn : rs.length = n) (hown : OwnS w lo hi A c rs) (hx : a.eval x = .slice (some ⟨g, 0, none⟩) 1 1) (hc : w.cell? ⟨g, 0, none⟩ = some r.sv) (hr : r.In w lo2 w.heap.size) (h12 : hi ≤ lo2) (hlo2 : lo ≤ lo2) (hlo : lo ≤ w.heap.size) (hhi : hi ≤ w.heap.size) (hlen : n ≤ 1048576)
    (h : ∀ A' c' w', OwnS w' lo w'.heap.size A' c' (rs ++ [r]) → w.grownBy w' (Value.slice A n c).ownBlock → (∀ k, (Value.slice A n c).ownBlock = some k → lo ≤ k ∧ k < hi ∧ ∃ o : Obj, w.heap[k]? = some o ∧ o.isCells = true) → wpListIn F m Tryd.prog ops Q rest (a.put o.dst (.slice A' (n + 1) c')) w') : wpListIn F m Tryd.prog ops Q (o :: rest) a w := by
  obtain ⟨ti, hi0, hz0, hz1, hz2⟩ := info_parts infoS
  subst hn
  refine wpListIn_plain hgd fun K hK' => ?_
  obtain ⟨g', cap, w', hrun, h1, hg, hat, hlt⟩ := run_append_lies (P := Tryd.prog) w 33 o.type lo 44 ti _ 1 24 Tryd.underlying33 hi0 hz0 hz1 hz2 rfl (by decide) (.slice A rs.length c) rs.length (rs.map Rw.sv) hown.row ⟨g, 0, none⟩ 1 1 [r.sv] rfl
    (by intro j u hj; cases j with | zero => (simp at hj; subst hj; simpa [Addr.add] using hc) | succ j => simp at hj) (by intro u hu; simp at hu; subst hu; rfl) (by omega) (by unfold maxLen; omega) (by omega) hlo _ rfl
  unfold Oper.wpIn
  refine ⟨?_, ?_⟩
  · simp [Oper.about, ho, resolve, Target.leads, Sem.run_pure]
  rw [Oper.semAt_plain F _ _ (by rw [ho]; intro c hc'; cases hc')]
  simp [execOp, ho, resolve, invoke, builtin, hs, hx, hrun, Result.andThen]
  have hob : ∀ k, (Value.slice A rs.length c).ownBlock = some k → lo ≤ k ∧ k < hi ∧ ∀ q ∈ rs, q.Off k := fun k hk => by
    cases A with
    | none => simp [Value.ownBlock] at hk
    | some p =>
      have h2 := hown.top p rfl
      have h3 := fun q hq => hown.off q hq p rfl
      have h4 := (World.ownsRow.lt hown.row k hk).1
      simp [Value.ownBlock] at hk
      subst hk
      exact ⟨h4, h2, h3⟩
  have hcl : ∀ k, (Value.slice A rs.length c).ownBlock = some k → ∃ o : Obj, w.heap[k]? = some o ∧ o.isCells = true := fun k hk => by
    rcases hown.row.2 with ⟨h0, _⟩ | ⟨g2, cap2, cur2, hv, hb2, hg2, _⟩
    · rw [h0] at hk; simp [Value.ownBlock] at hk
    · rw [hv] at hk
      simp [Value.ownBlock] at hk
      subst hk
      exact ⟨_, hg2, rfl⟩
  have hrw : r.In w' lo w'.heap.size := (hr.grown hg fun k hk => hr.off (.inl (by have := (hob k hk).2.1; omega))).wide hlo2 hg.size
  refine hK' _ _ (h (some ⟨g', 0, none⟩) cap w' ⟨?_, (fun a ha => by cases ha; exact hlt), fun q hq => ?_, fun q hq a ha => ?_, ?_⟩ hg fun k hk => ⟨(hob k hk).1, (hob k hk).2.1, hcl k hk⟩)
  · rw [List.length_append, List.map_append]
    exact h1
  · rcases List.mem_append.1 hq with hq | hq
    · exact ((hown.mine q hq).grown hg fun k hk => (hob k hk).2.2 q hq).wide (Nat.le_refl _) (Nat.le_trans hhi hg.size)
    · simp at hq; subst hq
      exact hrw
  · cases ha
    dsimp only
    rcases hat with hat | hat
    · rcases List.mem_append.1 hq with hq | hq
      · exact (hob _ hat).2.2 q hq
      · simp at hq; subst hq
        exact hr.off (.inl (by have := (hob _ hat).2.1; omega))
    · rcases List.mem_append.1 hq with hq | hq
      · exact (hown.mine q hq).off (.inr (by omega))
      · simp at hq; subst hq
        exact hr.off (.inr (by omega))
  · rw [List.pairwise_append]
    exact ⟨hown.apart, List.pairwise_singleton _ _, fun q hq q' hq' => by simp at hq'; subst hq'; exact Apart.of_in (hown.mine q hq) hr (.inl h12)⟩

namespace Fc
/-- A loop over the faces, as rangeB, its body told that not all have come. -/
theorem rangeC {m : Nat} {g : Operand} {ps : Array Tmp} {assign body : Code} {Q : Exit → Act → World → Prop} {a : Act} {V : World} {n : Nat} (h1 : 4 ≤ m) (Bs n₀ c : Nat) (A : Option Addr) (T : List (List Int)) (h4 : Tr.Four T) (hn : n ≤ 1048576) (hBs : Bs < V.heap.size) (hn₀ : n₀ ≤ V.heap.size)
    (hg : a.eval g = .func (.func 114) #[] #[.pointer (some ⟨Bs, 0, none⟩)]) (hps : 2 = ps.size) (hc : V.cell? ⟨Bs, 0, none⟩ = some (.slice A n c)) (hT : RdT V n₀ A n T)
    (I : List (Ix n) → World → Prop) (hI : OwnFrom V.heap.size I) (h0 : I [] V) (Cx : Ix n → Nat → World → Prop) (hCx : ∀ x Bx, OwnFrom V.heap.size (fun (_ : Unit) W => Cx x Bx W)) (acts : Ix n → Nat → Act)
    (hassign : ∀ (l : Nat) (pre : List (Ix n)) (x : Ix n) (W : World) (K : Act → World → Prop), I pre W → (∀ Bx W', KeepsFrom V.heap.size W W' → Below n₀ W W' → I pre W' → Cx x Bx W' → K (acts x Bx) W') →
      assign.wpIn (Fence.wide.inRound l) (m - 1 - 1) Tryd.prog (Exit.then K (fun _ _ _ => False)) { tmps := (ps.zip (encF T x)).foldl (fun t (p, v) => t.setIfInBounds p v) a.tmps, defers := [] } W)
    (hbody : ∀ (l : Nat) (pre : List (Ix n)) (x : Ix n) (Bx : Nat) (W : World), V.heap.size ≤ l → (∃ r, W.heap[l]? = some (.loop r)) → I pre W → Cx x Bx W → pre.length < n * 4 → body.wpIn (Fence.wide.inRound l) (m - 1 - 1) Tryd.prog (ownPostG V.heap.size (Below n₀) I (fun _ _ _ => False) (pre ++ [x]) W) (acts x Bx) W)
    (hdone : ∀ (D : Nat) (W : World), V.heap.size ≤ D → I (up n (n * 4)) W → W.heap[D]? = some (.deferred (some [])) → Q .normal { a with defers := { target := .collected D, args := #[] } :: a.defers } W) :
    (Code.rangeFunc g ps assign body).wpIn Fence.wide m Tryd.prog Q a V :=
  wpIn_rangeFunc_ownH rfl (by omega) hg trivial (enters_of Tryd.func114 (by kernel_rfl) rfl) (faces_stops Fence.wide _ trivial rfl (by omega) Bs n₀ n c A T h4 hn V hBs hn₀ hc hT) belowK_t (belowK_b hn₀) (Below.refl _ _) (fun _ => hps)
    I (fun _ _ _ => False) hI (fun _ _ _ _ _ hs _ _ => hs) h0 (fun x a' W => ∃ Bx, Cx x Bx W ∧ a' = acts x Bx)
    (fun x a' s X Y row hs hg hr => by obtain ⟨Bx, h, e⟩ := hs; exact ⟨Bx, hCx x Bx s X Y row h hg hr, e⟩)
    (fun l pre x W K hi hK => hassign l pre x W K hi (fun Bx W' k1 k2 k3 k4 => hK _ W' k1 k2 k3 ⟨Bx, k4, rfl⟩))
    (fun l pre x a' W hl hr hi hx hlen => by obtain ⟨Bx, h, rfl⟩ := hx; exact hbody l pre x Bx W hl hr hi h hlen)
    (fun D xs W hD hS hi hK => by subst hS; exact hdone D W hD hi hK)
    (fun D c pre W hD hS hi hK => hi.elim)

end Fc
end Go.Proofs.YtgllgbajmnfojaaDoor
