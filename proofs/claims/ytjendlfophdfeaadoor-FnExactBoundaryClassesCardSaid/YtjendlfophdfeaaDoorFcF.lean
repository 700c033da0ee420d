/- The program's iterator over the faces of a triangulation. No condition but those that each theorem names. -/
import Derived.RangeFuncNested
import Derived.RangeFuncBound
import Derived.RangeFuncCalls
import Derived.RangeFuncLeaves
import Derived.Shelf.Abstract
import Derived.Shelf.RegionOpen
import Derived.OwnWalkIn
import Derived.TacticsInMore
import Derived.LoopNIn
import Derived.LoopIn
import Derived.Test.YtjendlfophdfeaaDoorFcS
namespace Go.Proofs.YtjendlfophdfeaaDoor
open Go.RowKit Go.Shelf
namespace Fc
attribute [local go_sem] Oper.semAt_some

/-- The number of a face. -/
abbrev Ix (n : Nat) := { p : Nat // p < n * 4 }
/-- The first k faces. -/
def up (n : Nat) : Nat → List (Ix n)
  | 0 => []
  | k + 1 => if h : k < n * 4 then up n k ++ [⟨k, h⟩] else up n k
theorem up_succ {n k : Nat} (h : k < n * 4) : up n (k + 1) = up n k ++ [⟨k, h⟩] := by simp [up, h]
theorem up_len {n k : Nat} (h : k ≤ n * 4) : (up n k).length = k := by
  induction k with
  | zero => rfl
  | succ k ih => rw [up_succ (by omega), List.length_append, ih (by omega)]; rfl
theorem up_mem {n k : Nat} (h : k ≤ n * 4) (x : Ix n) : x ∈ up n k ↔ x.1 < k := by
  induction k with
  | zero => simp [up]
  | succ k ih =>
    rw [up_succ (by omega), List.mem_append, ih (by omega)]
    constructor
    · rintro (h | h)
      · omega
      · simp at h; rw [h]; exact Nat.lt_succ_self _
    · intro h'
      rcases Nat.lt_or_ge x.1 k with h1 | h1
      · exact .inl h1
      · have e : x.1 = k := by omega
        exact .inr (by simp; exact Subtype.ext e)
/-- What the iterator hands over. -/
def encF (T : List (List Int)) {n : Nat} (x : Ix n) : Array Value :=
  #[.agg #[.int .i64 ((x.1 / 4 : Nat) : Int), .int .i64 ((x.1 % 4 : Nat) : Int)], .agg #[.int .i64 (Tr.tt T (x.1 / 4) (x.1 % 4)), .int .i64 (Tr.pp T (x.1 / 4) (x.1 % 4))]]

set_option maxHeartbeats 1000000 in
theorem facesOf_in (F : Fence) (m : Nat) (hF : F.fn 69) (hro : F.round = none) (A : Option Addr) (n c : Nat) (w : World) :
    CallsIn F m Tryd.prog 69 #[.agg #[.slice A n c]] w fun e w' => e = .returned (.func (.func 134) #[] #[.pointer (some ⟨w.heap.size, 0, none⟩)]) ∧ w' = w.alloc (.cells #[.slice A n c] 29) := by
  refine callsIn_of_wp Tryd.func69 rfl hF ?_ hro
  simp only [Tryd.ntmps69, List.size_toArray, List.length_cons, List.length_nil, Nat.reduceAdd, Nat.reduceSub, Array.replicate_succ, Array.replicate_zero, List.push_toArray, List.append_toArray, List.nil_append, List.cons_append]
  gi_wp2
  go_ret
  exact ⟨rfl, rfl⟩

set_option maxRecDepth 100000 in
set_option maxHeartbeats 4000000 in
/-- The iterator hands over all faces in their order, or some first ones, to whatever body keeps what lay below n₀. -/
theorem faces_in (F : Fence) (m : Nat) (hF : F.fn 134) (hro : F.round = none) (hm : 1 ≤ m) (l Bs n₀ n c : Nat) (A : Option Addr) (T : List (List Int)) (h4 : Tr.Four T) (hn : n ≤ 1048576) (J Jx : List (Ix n) → World → Prop)
    (hY : ∀ pre x W, J pre W → pre.length < n * 4 → YieldAt F (m - 1) Tryd.prog l (encF T x) W fun e W' =>
      (e = .returned (.bool true) ∧ J (pre ++ [x]) W' ∧ Below n₀ W W') ∨ (e = .returned (.bool false) ∧ Jx (pre ++ [x]) W'))
    (W : World) (hJ : AbidesFrom W.heap.size J) (hn₀ : n₀ ≤ W.heap.size) (hBs : W.cell? ⟨Bs, 0, none⟩ = some (.slice A n c)) (hT : RdT W n₀ A n T) (h0 : J [] W) :
    CallsIn F m Tryd.prog 134 #[.func (.yield l) #[] #[], .pointer (some ⟨Bs, 0, none⟩)] W fun e W' => (∃ v, e = .returned v) ∧
      ((∃ ys, ys = up n (n * 4) ∧ J ys W') ∨ (∃ pre, (∃ k, k ≤ n * 4 ∧ pre = up n k) ∧ Jx pre W')) := by
  have HT := Lib.hid hT
  have H4 := Lib.hid (show ∀ a, a < n → (T.getD a []).length = 8 from fun a ha => h4 a (by rw [hT.len]; exact ha))
  have HY := Lib.hid hY
  have HJ := Lib.hid (show ∀ (s : List (Ix n)) (V : World) (o : Obj), J s V → J s (V.alloc o) from fun s V o hs => hJ s V _ none hs (World.grownBy_alloc V o none) (fun r e => by cases e))
  have J0 := Lib.hid (show J (up n (0 * 4)) W from by rw [Nat.zero_mul]; exact h0)
  clear hT h4 hY h0 hJ
  refine callsIn_of_wp Tryd.func134 rfl hF ?_ hro
  simp only [Tryd.ntmps134, List.size_toArray, List.length_cons, List.length_nil, Nat.reduceAdd, Nat.reduceSub, Array.replicate_succ, Array.replicate_zero, List.push_toArray, List.append_toArray, List.nil_append, List.cons_append]
  gi_wp2
  gi_loopw [10] (fun i wr => ∃ k : Nat, k ≤ n ∧ i = .int .i64 k ∧ J (up n (k * 4)) wr ∧ Below n₀ W wr)
    (fun i _ => n - (intOf i).toNat)
  case atStart => exact ⟨0, Nat.zero_le _, rfl, J0.out, Below.refl _ _⟩
  case round =>
    obtain ⟨k, hk, rfl, hJs, hnx⟩ := hrel
    have JS := Lib.hid hJs
    have NX := Lib.hid hnx
    clear hJs hnx J0
    have i0 : (0 : Int) ≤ (k : Int) := by omega
    by_cases hlt : k < n
    · obtain ⟨b, off, g, o, cj, rfl, hb, hg, hcr0, hc4, hcm, hfc⟩ := HT.out.row4 hlt (H4.out k hlt)
      have hcr := (NX.out.cell (p := ⟨b, off + k, none⟩) hb).trans hcr0
      have FC := Lib.hid hfc
      clear hfc hcr0
      have i1 : (k : Int) < (n : Int) := by omega
      gi_wp2
      gi_loopw [17] (fun i wr => ∃ f : Nat, f ≤ 4 ∧ i = .int .i64 f ∧ J (up n (k * 4 + f)) wr ∧ Below n₀ W wr)
        (fun i _ => 4 - (intOf i).toNat)
      case atStart => exact ⟨0, Nat.zero_le _, rfl, JS.out, NX.out⟩
      case round =>
        obtain ⟨f, hf, rfl, hJs, hnx⟩ := hrel
        have JS2 := Lib.hid hJs
        have NX2 := Lib.hid hnx
        clear hJs hnx
        have j0 : (0 : Int) ≤ (f : Int) := by omega
        by_cases hlf : f < 4
        · have c0 := (NX2.out.cell (p := ⟨g, o + f * 2, none⟩) hg).trans (FC.out f hlf).1
          have c1 := (NX2.out.cell (p := ⟨g, o + f * 2 + 1, none⟩) hg).trans (FC.out f hlf).2
          have E1 : (k * 4 + f) / 4 = k := by omega
          have E2 : (k * 4 + f) % 4 = f := by omega
          have zr : n₀ ≤ wr.heap.size := Nat.le_trans hn₀ NX2.out.size
          obtain ⟨tv, htv⟩ : ∃ tv, Tr.tt T k f = tv := ⟨_, rfl⟩
          obtain ⟨pv, hpv⟩ : ∃ pv, Tr.pp T k f = pv := ⟨_, rfl⟩
          obtain ⟨fn, tmps, assign, body, hy, hR⟩ := HY.out _ ⟨k * 4 + f, by omega⟩ (wr.alloc (.cells #[.int .i64 tv, .int .i64 pv] 83)) (HJ.out _ _ _ JS2.out) (by rw [up_len (by omega)]; omega)
          simp only [encF, E1, E2, htv, hpv] at hy
          rw [htv] at c0
          rw [hpv] at c1
          have NX3 := Lib.hid (show Below n₀ W (wr.alloc (.cells #[.int .i64 tv, .int .i64 pv] 83)) from NX2.out.alloc zr _)
          have US := Lib.hid (up_succ (n := n) (k := k * 4 + f) (by omega))
          have j1 : (f : Int) < 4 := by omega
          gi_wp2
          refine hR.mono ?_
          rintro e W3 (⟨rfl, hJ3, hk3⟩ | ⟨rfl, hJx3⟩)
          · have J3 := Lib.hid hJ3
            have K3 := Lib.hid hk3
            clear hJ3 hk3 hR hy
            gi_wp2
            go_roundw
            case rel => exact ⟨f + 1, by omega, by simp, by rw [← Nat.add_assoc, US.out]; exact J3.out, NX3.out.trans K3.out⟩
            case measure => simp [intOf]; omega
          · have J3 := Lib.hid hJx3
            clear hJx3 hR hy
            gi_wp2
            refine bodyPost_ret (results_none rfl _ _ _) rfl ?_
            exact ⟨⟨_, rfl⟩, .inr ⟨_, ⟨k * 4 + f + 1, by omega, US.out.symm⟩, J3.out⟩⟩
        · obtain rfl : f = 4 := by omega
          gi_wp2
          go_roundw
          case rel => exact ⟨k + 1, by omega, by simp, by rw [show (k + 1) * 4 = k * 4 + 4 from by omega]; exact JS2.out, NX2.out⟩
          case measure => simp [intOf]; omega
    · obtain rfl : k = n := by omega
      have i1 : ¬ (k : Int) < (k : Int) := by omega
      gi_wp2
      go_end0
      first
        | exact ⟨⟨_, rfl⟩, .inl JS.out⟩
        | exact .inl JS.out
        | exact ⟨⟨_, rfl⟩, .inl ⟨_, rfl, JS.out⟩⟩

theorem faces_stops (F : Fence) (m : Nat) (hF : F.fn 134) (hro : F.round = none) (hm : 1 ≤ m) (Bs n₀ n c : Nat) (A : Option Addr) (T : List (List Int)) (h4 : Tr.Four T) (hn : n ≤ 1048576) (w : World) (hBs : Bs < w.heap.size) (hn₀ : n₀ ≤ w.heap.size)
    (hc : w.cell? ⟨Bs, 0, none⟩ = some (.slice A n c)) (hT : RdT w n₀ A n T) :
    SeqStopsK F m Tryd.prog 134 #[.pointer (some ⟨Bs, 0, none⟩)] (fun x : Ix n => encF T x) (Below n₀) (fun ys => ys = up n (n * 4)) (fun pre => ∃ k, k ≤ n * 4 ∧ pre = up n k) (n * 4) w := fun l J Jx W hW hJ _ hY h0 => by
  have hc' := (hW.cell (p := ⟨Bs, 0, none⟩) hBs).trans hc
  exact faces_in F m hF hro hm l Bs n₀ n c A T h4 hn J Jx hY W hJ (Nat.le_trans hn₀ hW.size) hc' (hT.below (hW.mono hn₀)) h0

theorem KeepsFrom.of_below {B b : Nat} {W W' : World} (h : Below b W W') (hb : W.heap.size ≤ b) : KeepsFrom B W W' := ⟨h.size, fun k o _ hk _ => (h.block k (by have := (Array.getElem?_eq_some_iff.1 hk).1; omega)).trans hk⟩

/-- A loop over the faces whose variables lie in boxes from block Bx on. -/
theorem rangeB {m : Nat} {g : Operand} {ps : Array Tmp} {assign body : Code} {Q : Exit → Act → World → Prop} {a : Act} {V : World} {n : Nat} (h1 : 4 ≤ m) (Bs n₀ c : Nat) (A : Option Addr) (T : List (List Int)) (h4 : Tr.Four T) (hn : n ≤ 1048576) (hBs : Bs < V.heap.size) (hn₀ : n₀ ≤ V.heap.size)
    (hg : a.eval g = .func (.func 134) #[] #[.pointer (some ⟨Bs, 0, none⟩)]) (hps : 2 = ps.size) (hc : V.cell? ⟨Bs, 0, none⟩ = some (.slice A n c)) (hT : RdT V n₀ A n T)
    (I : List (Ix n) → World → Prop) (Ix' : Code → List (Ix n) → World → Prop) (hI : OwnFrom V.heap.size I) (hIx : ∀ c, OwnFrom V.heap.size (Ix' c)) (h0 : I [] V) (Cx : Ix n → Nat → World → Prop) (hCx : ∀ x Bx, OwnFrom V.heap.size (fun (_ : Unit) W => Cx x Bx W)) (acts : Ix n → Nat → Act)
    (hassign : ∀ (l : Nat) (pre : List (Ix n)) (x : Ix n) (W : World) (K : Act → World → Prop), I pre W → (∀ Bx W', KeepsFrom V.heap.size W W' → Below n₀ W W' → I pre W' → Cx x Bx W' → K (acts x Bx) W') →
      assign.wpIn (Fence.wide.inRound l) (m - 1 - 1) Tryd.prog (Exit.then K (fun _ _ _ => False)) { tmps := (ps.zip (encF T x)).foldl (fun t (p, v) => t.setIfInBounds p v) a.tmps, defers := [] } W)
    (hbody : ∀ (l : Nat) (pre : List (Ix n)) (x : Ix n) (Bx : Nat) (W : World), V.heap.size ≤ l → (∃ r, W.heap[l]? = some (.loop r)) → I pre W → Cx x Bx W → body.wpIn (Fence.wide.inRound l) (m - 1 - 1) Tryd.prog (ownPostG V.heap.size (Below n₀) I Ix' (pre ++ [x]) W) (acts x Bx) W)
    (hdone : ∀ (D : Nat) (W : World), V.heap.size ≤ D → I (up n (n * 4)) W → W.heap[D]? = some (.deferred (some [])) → Q .normal { a with defers := { target := .collected D, args := #[] } :: a.defers } W)
    (hstop : ∀ (D : Nat) (c : Code) (k : Nat) (W : World), V.heap.size ≤ D → k ≤ n * 4 → Ix' c (up n k) W → W.heap[D]? = some (.deferred (some [])) → c.wpIn Fence.wide m Tryd.prog Q { a with defers := { target := .collected D, args := #[] } :: a.defers } W) :
    (Code.rangeFunc g ps assign body).wpIn Fence.wide m Tryd.prog Q a V :=
  wpIn_rangeFunc_ownH rfl (by omega) hg trivial (enters_of Tryd.func134 (by kernel_rfl) rfl) (faces_stops Fence.wide _ trivial rfl (by omega) Bs n₀ n c A T h4 hn V hBs hn₀ hc hT) belowK_t (belowK_b hn₀) (Below.refl _ _) (fun _ => hps)
    I Ix' hI hIx h0 (fun x a' W => ∃ Bx, Cx x Bx W ∧ a' = acts x Bx)
    (fun x a' s X Y row hs hg hr => by obtain ⟨Bx, h, e⟩ := hs; exact ⟨Bx, hCx x Bx s X Y row h hg hr, e⟩)
    (fun l pre x W K hi hK => hassign l pre x W K hi (fun Bx W' k1 k2 k3 k4 => hK _ W' k1 k2 k3 ⟨Bx, k4, rfl⟩))
    (fun l pre x a' W hl hr hi hx _ => by obtain ⟨Bx, h, rfl⟩ := hx; exact hbody l pre x Bx W hl hr hi h)
    (fun D xs W hD hS hi hK => by subst hS; exact hdone D W hD hi hK)
    (fun D c pre W hD hS hi hK => by obtain ⟨k, hk, rfl⟩ := hS; exact hstop D c k W hD hk hi hK)

end Fc
end Go.Proofs.YtjendlfophdfeaaDoor
