/- Rows appended to the field of a presentation that is being built; copies of presentations. No condition but those that each theorem names. -/
import Derived.Test.YtakokhfnllpahaaSsP
import Derived.Test.YtakokhfnllpahaaWdD
import Derived.Deep.RegionLaw
import Derived.Deep.DeepCutAuto
import Derived.Lib.SliceRun
namespace Go.Proofs.Ytakokhfnllpahaa
open Go.RowKit

/-- What an append of a row leaves. -/
theorem OwnS.pushed {w w' : World} {lo hi lo2 c g' cap : Nat} {A : Option Addr} {rs : List Rw} {r : Rw} (hown : OwnS w lo hi A c rs) (hr : r.In w lo2 w.heap.size) (h12 : hi ≤ lo2) (hlo2 : lo ≤ lo2) (hhi : hi ≤ w.heap.size)
    (h1 : w'.ownsRow lo 38 1 (.slice (some ⟨g', 0, none⟩) (rs.length + 1) cap) (rs.length + 1) (rs.map Rw.sv ++ [r.sv])) (hg : w.grownBy w' (Value.slice A rs.length c).ownBlock) (hat : (Value.slice A rs.length c).ownBlock = some g' ∨ g' = w.heap.size) (hlt : g' < w'.heap.size) :
    OwnS w' lo w'.heap.size (some ⟨g', 0, none⟩) cap (rs ++ [r]) ∧ Kept lo hi w w' := by
  have hob : ∀ k, (Value.slice A rs.length c).ownBlock = some k → lo ≤ k ∧ k < hi ∧ ∀ q ∈ rs, q.Off k := fun k hk => by
    cases A with
    | none => simp [Value.ownBlock] at hk
    | some p =>
      have h2 := hown.top p rfl
      have h3 := fun q hq => hown.off q hq p rfl
      have h4 := (World.ownsRow.lt hown.row k hk).1
      simp [Value.ownBlock] at hk
      subst hk
      exact ⟨h4, h2, h3⟩
  have hk : Kept lo hi w w' := Wd.kept_grown hg fun k hk => ⟨(hob k hk).1, (hob k hk).2.1⟩
  have hrw : r.In w' lo w'.heap.size := (hr.grown hg fun k hk => hr.off (.inl (by have := (hob k hk).2.1; omega))).wide hlo2 hg.size
  refine ⟨⟨?_, (fun a ha => by cases ha; exact hlt), fun q hq => ?_, fun q hq a ha => ?_, ?_⟩, hk⟩
  · rw [List.length_append, List.map_append]
    exact h1
  · rcases List.mem_append.1 hq with hq | hq
    · exact ((hown.mine q hq).grown hg fun k hk => (hob k hk).2.2 q hq).wide (Nat.le_refl _) (Nat.le_trans hhi hg.size)
    · simp at hq; subst hq
      exact hrw
  · cases ha
    dsimp only
    rcases hat with hat | hat
    · rcases List.mem_append.1 hq with hq | hq
      · exact (hob _ hat).2.2 q hq
      · simp at hq; subst hq
        exact hr.off (.inl (by have := (hob _ hat).2.1; omega))
    · rcases List.mem_append.1 hq with hq | hq
      · exact (hown.mine q hq).off (.inr (by omega))
      · simp at hq; subst hq
        exact hr.off (.inr (by omega))
  · rw [List.pairwise_append]
    exact ⟨hown.apart, List.pairwise_singleton _ _, fun q hq q' hq' => by simp at hq'; subst hq'; exact Apart.of_in (hown.mine q hq) hr (.inl h12)⟩

/-- A row is appended at a step of a region that draws its order. -/
theorem step_push_row {w : World} {ops : Array Oper} {o : Oper} {a : Act} {K : Act → World → Prop} {Q : Exit → Act → World → Prop} {E : Prop} (hgd : o.guard = none) (s x : Operand) (ho : o.op = .call { callee := .builtin .append, args := #[s, x], argTypes := #[27, 27] })
    (lo hi lo2 c n g : Nat) (A : Option Addr) (rs : List Rw) (r : Rw) (hs : a.eval s = .slice A n c) (hn : rs.length = n) (hown : OwnS w lo hi A c rs) (hx : a.eval x = .slice (some ⟨g, 0, none⟩) 1 1) (hc : w.cell? ⟨g, 0, none⟩ = some r.sv) (hr : r.In w lo2 w.heap.size) (h12 : hi ≤ lo2) (hlo2 : lo ≤ lo2) (hlo : lo ≤ w.heap.size) (hhi : hi ≤ w.heap.size) (hlen : n ≤ 1048576)
    (h : ∀ A' c' w', OwnS w' lo w'.heap.size A' c' (rs ++ [r]) → Kept lo hi w w' → K (a.put o.dst (.slice A' (n + 1) c')) w') : if Region.wanted o (yielded ops a.tmps) = true then Oper.wp Try.prog o a w K Q else E := by
  obtain ⟨ti, hi0, hz0, hz1, hz2⟩ := info_parts infoS
  subst hn
  refine step_append_lies w hgd s x 27 ho lo 38 ti _ 1 24 Try.underlying27 hi0 hz0 hz1 hz2 rfl (by decide) (.slice A rs.length c) rs.length (rs.map Rw.sv) hs hown.row ⟨g, 0, none⟩ 1 1 [r.sv] hx rfl
    (by intro j u hj; cases j with | zero => (simp at hj; subst hj; simpa [Addr.add] using hc) | succ j => simp at hj) (by intro u hu; simp at hu; subst hu; rfl) (by omega) (by unfold maxLen; omega) (by omega) hlo _ rfl ?_
  intro g' cap w' h1 hg hat hlt
  obtain ⟨q1, q2⟩ := hown.pushed hr h12 hlo2 hhi h1 hg hat hlt
  exact h _ _ _ q1 q2

/-- A presentation in a box at cb, its rows from block lo on; nothing below the box has changed since V. -/
structure PBox (V : World) (cb lo : Nat) (r : Int) (qs : List Rw) (W : World) : Prop where
  box : ∃ A c, BoxG W cb (.int .i64 r) (.slice A qs.length c) ∧ OwnS W lo W.heap.size A c qs
  fr : Free W cb
  lt : cb < W.heap.size
  bel : Below cb V W
  lo : cb < lo
section
variable {V W W' : World} {cb lo : Nat} {r : Int} {qs : List Rw}
theorem PBox.below (h : PBox V cb lo r qs W) (hb : Below W.heap.size W W') : PBox V cb lo r qs W' := by
  obtain ⟨⟨A, c, h1, h2⟩, h3, h4, h5, h6⟩ := h
  exact ⟨⟨A, c, h1.below hb h4, (h2.below hb (Nat.le_refl _)).wide (Nat.le_refl _) hb.size⟩, h3.below hb h4, Nat.lt_of_lt_of_le h4 hb.size, h5.trans (hb.mono (by omega)), h6⟩
theorem BoxG.set1_ {b : Nat} {x y u : Value} (h : BoxG W b x y) : BoxG (W.setCell ⟨b, 1, none⟩ u) b x u := ⟨by simp [h.1, go_sem], by simp [h.2, go_sem]⟩
theorem Free.setA {g : Nat} (h : Free W g) (p : Addr) (u : Value) : Free (W.setCell p u) g := fun o => by
  have := h o
  simp [this, go_sem]
theorem PBox.pushed {w6 w7 : World} {o : Obj} {A7 A8 : Option Addr} {c7 c8 hi : Nat} {r6 : Rw} {n : Nat} (h : PBox V cb lo r qs W) (hb : Below W.heap.size W w6) (hn : qs.length = n)
    (h5 : OwnS w7 lo w7.heap.size A7 c7 (qs ++ [r6])) (h6 : Kept lo hi (w6.alloc o) w7) (hA : A7 = A8) (hc : c7 = c8) : PBox V cb lo r (qs ++ [r6]) (w7.setCell ⟨cb, 1, none⟩ (.slice A8 (n + 1) c8)) := by
  subst hA hc hn
  obtain ⟨A, c, h1, h2⟩ := h.box
  have hl := h.lt
  have hlo := h.lo
  have hs := hb.size
  have hz : (w7.setCell ⟨cb, 1, none⟩ (.slice A7 (qs.length + 1) c7)).heap.size = w7.heap.size := by simp [World.setCell]
  have h7 := ((h1.below hb hl).below (al1 w6 o) (by omega)).kept h6 (by simp; omega) (by omega)
  have h8 := ((h.fr.below hb hl).below (al1 w6 o) (by omega)).kept h6 (by simp; omega) (by omega)
  have h9 := h6.size
  simp only [World.size_alloc] at h9
  refine ⟨⟨A7, c7, ?_, ?_⟩, h8.setA _ _, by rw [hz]; omega, ?_, hlo⟩
  · rw [List.length_append]
    exact h7.set1_
  · rw [hz]
    exact h5.far (.inl hlo) _
  · exact ((h.bel.trans (hb.mono (by omega))).trans (((al1 w6 o).mono (by omega)).trans (h6.below (by omega) (by simp; omega)))).setCell (Nat.le_refl _) _
end

/-- A presentation with its rows in new memory. -/
def ResPr (w : World) (r : Int) (zss : List (List Int)) (e : Ending) (w' : World) : Prop :=
  ∃ A c rs, e = .returned (.agg #[.int .i64 r, .slice A rs.length c]) ∧ OwnS w' w.heap.size w'.heap.size A c rs ∧ vals rs = zss ∧ Below w.heap.size w w'
theorem ResPr.fin {w W : World} {cb lo b : Nat} {r : Int} {qs : List Rw} {zss : List (List Int)} {x y : Value} {V : World} {A : Option Addr} {c : Nat} (hp : PBox V cb lo r qs W) (hA : OwnS W lo W.heap.size A c qs) (hV : Below w.heap.size w V) (hb : w.heap.size ≤ b) (hbc : b < cb) (hz : vals qs = zss) :
    ResPr w r zss (.returned (.agg #[.int .i64 r, .slice A qs.length c])) ((W.setCell ⟨b, 0, none⟩ x).setCell ⟨b, 1, none⟩ y) := by
  have hlt := hp.lt
  have hlo := hp.lo
  refine ⟨A, c, qs, rfl, ?_, hz, ?_⟩
  · exact ((hA.far (p := ⟨b, 0, none⟩) (.inl (by dsimp only; omega)) _).far (p := ⟨b, 1, none⟩) (.inl (by dsimp only; omega)) _).wide (by omega) (by simp [World.setCell])
  · exact ((hV.trans (hp.bel.mono (by omega))).setCell hb _).setCell hb _

end Go.Proofs.Ytakokhfnllpahaa
