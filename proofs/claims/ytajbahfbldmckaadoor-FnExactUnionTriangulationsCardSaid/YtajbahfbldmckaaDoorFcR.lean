/- Rows that are collected in a loop over the faces. No condition but those that each theorem names. -/
import Derived.Test.YtajbahfbldmckaaDoorFcN
import Derived.Test.YtajbahfbldmckaaDoorFcP
namespace Go.Proofs.YtajbahfbldmckaaDoor
open Go.RowKit Go.Shelf

theorem OwnS.grownC {w w' : World} {lo hi c : Nat} {A : Option Addr} {rs : List Rw} {row : Option Nat} (h : OwnS w lo hi A c rs) (hg : w.grownBy w' row) (hr : ∀ k, row = some k → ∃ o : Obj, w.heap[k]? = some o ∧ o.isCells = false) : OwnS w' lo hi A c rs := by
  refine ⟨⟨h.row.1, ?_⟩, h.top, fun r hr' => ?_, h.off, h.apart⟩
  · rcases h.row.2 with h0 | ⟨g, cap, cur, hv, hb, hgg, q⟩
    · exact .inl h0
    · refine .inr ⟨g, cap, cur, hv, hb, ?_, q⟩
      rw [hg.block g (Array.getElem?_eq_some_iff.1 hgg).1 (fun e => by
        obtain ⟨o, ho, hc⟩ := hr g e.symm
        rw [hgg] at ho
        cases ho
        cases hc)]
      exact hgg
  · have hm := h.mine r hr'
    exact ⟨hm.le, hm.cap, hm.mine.1, fun h0 => by
      obtain ⟨g, off, e, h1, h2, h3⟩ := hm.mine.2 h0
      exact ⟨g, off, e, h1, h2, fun j hj => ⟨cell_kept (h3 j hj).1 hg hr, (frozen_kept (h3 j hj).1 hg hr).trans (h3 j hj).2⟩⟩⟩

namespace Fc
/-- A loop over the faces, as rangeB, its body told that not all have come. -/
theorem rangeC {m : Nat} {g : Operand} {ps : Array Tmp} {assign body : Code} {Q : Exit → Act → World → Prop} {a : Act} {V : World} {n : Nat} (h1 : 4 ≤ m) (Bs n₀ c : Nat) (A : Option Addr) (T : List (List Int)) (h4 : Tr.Four T) (hn : n ≤ 1048576) (hBs : Bs < V.heap.size) (hn₀ : n₀ ≤ V.heap.size)
    (hg : a.eval g = .func (.func 106) #[] #[.pointer (some ⟨Bs, 0, none⟩)]) (hps : 2 = ps.size) (hc : V.cell? ⟨Bs, 0, none⟩ = some (.slice A n c)) (hT : RdT V n₀ A n T)
    (I : List (Ix n) → World → Prop) (hI : OwnFrom V.heap.size I) (h0 : I [] V) (Cx : Ix n → Nat → World → Prop) (hCx : ∀ x Bx, OwnFrom V.heap.size (fun (_ : Unit) W => Cx x Bx W)) (acts : Ix n → Nat → Act)
    (hassign : ∀ (l : Nat) (pre : List (Ix n)) (x : Ix n) (W : World) (K : Act → World → Prop), I pre W → (∀ Bx W', KeepsFrom V.heap.size W W' → Below n₀ W W' → I pre W' → Cx x Bx W' → K (acts x Bx) W') →
      assign.wpIn (Fence.wide.inRound l) (m - 1 - 1) Tryd.prog (Exit.then K (fun _ _ _ => False)) { tmps := (ps.zip (encF T x)).foldl (fun t (p, v) => t.setIfInBounds p v) a.tmps, defers := [] } W)
    (hbody : ∀ (l : Nat) (pre : List (Ix n)) (x : Ix n) (Bx : Nat) (W : World), V.heap.size ≤ l → (∃ r, W.heap[l]? = some (.loop r)) → I pre W → Cx x Bx W → pre.length < n * 4 → body.wpIn (Fence.wide.inRound l) (m - 1 - 1) Tryd.prog (ownPostG V.heap.size (Below n₀) I (fun _ _ _ => False) (pre ++ [x]) W) (acts x Bx) W)
    (hdone : ∀ (D : Nat) (W : World), V.heap.size ≤ D → I (up n (n * 4)) W → W.heap[D]? = some (.deferred (some [])) → Q .normal { a with defers := { target := .collected D, args := #[] } :: a.defers } W) :
    (Code.rangeFunc g ps assign body).wpIn Fence.wide m Tryd.prog Q a V :=
  wpIn_rangeFunc_ownH rfl (by omega) hg trivial (enters_of Tryd.func106 (by kernel_rfl) rfl) (faces_stops Fence.wide _ trivial rfl (by omega) Bs n₀ n c A T h4 hn V hBs hn₀ hc hT) belowK_t (belowK_b hn₀) (Below.refl _ _) (fun _ => hps)
    I (fun _ _ _ => False) hI (fun _ _ _ _ _ hs _ _ => hs) h0 (fun x a' W => ∃ Bx, Cx x Bx W ∧ a' = acts x Bx)
    (fun x a' s X Y row hs hg hr => by obtain ⟨Bx, h, e⟩ := hs; exact ⟨Bx, hCx x Bx s X Y row h hg hr, e⟩)
    (fun l pre x W K hi hK => hassign l pre x W K hi (fun Bx W' k1 k2 k3 k4 => hK _ W' k1 k2 k3 ⟨Bx, k4, rfl⟩))
    (fun l pre x a' W hl hr hi hx hlen => by obtain ⟨Bx, h, rfl⟩ := hx; exact hbody l pre x Bx W hl hr hi h hlen)
    (fun D xs W hD hS hi hK => by subst hS; exact hdone D W hD hi hK)
    (fun D c pre W hD hS hi hK => hi.elim)

end Fc
end Go.Proofs.YtajbahfbldmckaaDoor
