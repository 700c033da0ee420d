/- The specification's AddTetrahedron. No condition but those that each theorem names. -/
import Derived.Test.YtjendlfophdfeaaDoorFcU
import Derived.Test.YtjendlfophdfeaaDoorFcN
namespace Go.Proofs.YtjendlfophdfeaaDoor
open Go.RowKit
/-- What AddTetrahedron hands back. -/
def Tr.addT (T : List (List Int)) : List (List Int) := if Tr.Is T ∧ T.length ≠ 8 then T ++ [Fc.fr] else []
def Tr.addC (T : List (List Int)) : Int := if Tr.Is T then (if T.length = 8 then 3 else 0) else 1
namespace Fc

/-- A store into a block that neither the list nor its rows lie in. -/
theorem OwnS.far_off {w : World} {lo hi c : Nat} {A : Option Addr} {rs : List Rw} (h : OwnS w lo hi A c rs) {p : Addr} (ho : ∀ a, A = some a → a.block ≠ p.block) (hr : ∀ q ∈ rs, q.Off p.block) (u : Value) : OwnS (w.setCell p u) lo hi A c rs := by
  refine ⟨⟨h.row.1, ?_⟩, h.top, fun q hq => (h.mine q hq).set_ p (hr q hq) u, h.off, h.apart⟩
  rcases h.row.2 with h0 | ⟨g, cap, cur, hv, hb, hg, r⟩
  · exact .inl h0
  · refine .inr ⟨g, cap, cur, hv, hb, ?_, r⟩
    injection hv with h1 h2 h3
    rw [Below.heap_setCell w _ _ g ?_]
    · exact hg
    · intro e
      exact ho _ h1 (by first | exact e | exact e.symm)

/-- A row is appended at a step of a region that draws its order; what lies between stays apart. -/
theorem step_push_row2 {w : World} {ops : Array Oper} {o : Oper} {a : Act} {K : Act → World → Prop} {Q : Exit → Act → World → Prop} {E : Prop} (hgd : o.guard = none) (s x : Operand) (ho : o.op = .call { callee := .builtin .append, args := #[s, x], argTypes := #[27, 27] })
    (lo hi lo2 c n g : Nat) (A : Option Addr) (rs : List Rw) (r : Rw) (hs : a.eval s = .slice A n c) (hn : rs.length = n) (hown : OwnS w lo hi A c rs) (hx : a.eval x = .slice (some ⟨g, 0, none⟩) 1 1) (hc : w.cell? ⟨g, 0, none⟩ = some r.sv) (hr : r.In w lo2 w.heap.size) (h12 : hi ≤ lo2) (hlo2 : lo ≤ lo2) (hlo : lo ≤ w.heap.size) (hhi : hi ≤ w.heap.size) (hlen : n ≤ 1048576)
    (h : ∀ A' c' w', OwnS w' lo w'.heap.size A' c' (rs ++ [r]) → Kept lo hi w w' → (∀ b0, hi ≤ b0 → b0 < lo2 → b0 < w.heap.size → (∀ a, A' = some a → a.block ≠ b0) ∧ ∀ q ∈ rs ++ [r], q.Off b0) → K (a.put o.dst (.slice A' (n + 1) c')) w') : if Region.wanted o (yielded ops a.tmps) = true then Oper.wp Tryd.prog o a w K Q else E := by
  obtain ⟨ti, hi0, hz0, hz1, hz2⟩ := info_parts infoS
  subst hn
  refine step_append_lies w hgd s x 27 ho lo 84 ti _ 1 24 Tryd.underlying27 hi0 hz0 hz1 hz2 rfl (by decide) (.slice A rs.length c) rs.length (rs.map Rw.sv) hs hown.row ⟨g, 0, none⟩ 1 1 [r.sv] hx rfl
    (by intro j u hj; cases j with | zero => (simp at hj; subst hj; simpa [Addr.add] using hc) | succ j => simp at hj) (by intro u hu; simp at hu; subst hu; rfl) (by omega) (by unfold maxLen; omega) (by omega) hlo _ rfl ?_
  intro g' cap w' h1 hg hat hlt
  obtain ⟨q1, q2⟩ := hown.pushed hr h12 hlo2 hhi h1 hg hat hlt
  refine h _ _ _ q1 q2 (fun b0 h3 h4 h5 => ⟨fun a' ha' => ?_, fun q hq => ?_⟩)
  · cases ha'
    dsimp only
    rcases hat with hat | hat
    · cases A with
      | none => simp [Value.ownBlock] at hat
      | some p =>
        have h6 := hown.top p rfl
        simp [Value.ownBlock] at hat
        omega
    · omega
  · rcases List.mem_append.1 hq with hq | hq
    · exact (hown.mine q hq).off (.inr h3)
    · simp at hq; subst hq
      exact hr.off (.inl h4)

/-- What a call hands back: a triangulation in memory of its own, and a code. -/
def ResTC (w : World) (zss : List (List Int)) (k : Int) (e : Ending) (w' : World) : Prop :=
  ∃ A c rs, e = .returned (.tuple #[.agg #[.slice A rs.length c], .int .i64 k]) ∧ OwnS w' w.heap.size w'.heap.size A c rs ∧ vals rs = zss ∧ Below w.heap.size w w'

theorem free_spec (w : World) : Calls Tryd.prog 145 #[] w fun e w' => e = .returned (.slice (some ⟨w.heap.size, 0, none⟩) 4 4) ∧ BlkF w' w.heap.size fr ∧ Below w.heap.size w w' := by
  go_enter Tryd.func145, Tryd.ntmps145
  go_wp2
  go_ret
  exact ⟨rfl, BlkF.new w fr, al1 _ _⟩

end Fc
end Go.Proofs.YtjendlfophdfeaaDoor
