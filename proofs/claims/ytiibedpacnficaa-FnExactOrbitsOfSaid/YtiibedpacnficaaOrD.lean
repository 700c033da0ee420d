/- The program's orbitOf. No condition but those that each theorem names. -/
import Derived.Test.YtiibedpacnficaaOrC
import Derived.Test.YtiibedpacnficaaRpE
import Derived.Test.YtiibedpacnficaaSsC
import Derived.Deep.RegionHeld3
import Derived.Outline
namespace Go.Proofs.Ytiibedpacnficaa
open Go.RowKit

/-- A number is appended to a list of the call's own: where it lies then. -/
theorem push_num {w : World} {ops : Array Oper} {rest : List Oper} {o : Oper} {a : Act} {Q : Exit → Act → World → Prop} (hgd : o.guard = none) (s x : Operand) (ho : o.op = .call { callee := .builtin .append, args := #[s, x], argTypes := #[38, 38] })
    (lo hi c n g : Nat) (A : Option Addr) (l : List Int) (z : Int) (hs : a.eval s = .slice A n c) (hown : Own w lo hi A n c l) (hx : a.eval x = .slice (some ⟨g, 0, none⟩) 1 1) (hc : w.cell? ⟨g, 0, none⟩ = some (.int .i64 z)) (hlo : lo ≤ w.heap.size) (hlen : n ≤ 1048576)
    (h : ∀ g' c' w', Own w' lo w'.heap.size (some ⟨g', 0, none⟩) (n + 1) c' (l ++ [z]) → Kept lo hi w w' → (A = some ⟨g', 0, none⟩ ∨ g' = w.heap.size) → w.heap.size ≤ w'.heap.size → lo ≤ g' → g' < w'.heap.size → wpList Try.prog ops Q rest (a.put o.dst (.slice (some ⟨g', 0, none⟩) (n + 1) c')) w') : wpList Try.prog ops Q (o :: rest) a w := by
  obtain ⟨ti, hi0, hz0, hz1, hz2⟩ := info_parts info2
  have hrow := hown.1
  have htop := hown.2
  refine wpList_append_lies w hgd s x 38 ho lo 2 ti _ 1 8 Try.underlying38 hi0 hz0 hz1 hz2 rfl (by decide) (.slice A n c) n (l.map (Value.int .i64)) hs hrow ⟨g, 0, none⟩ 1 1 [.int .i64 z] hx rfl
    (by intro j u hj; cases j with | zero => (simp at hj; subst hj; simpa [Addr.add] using hc) | succ j => simp at hj) (by intro u hu; simp at hu; subst hu; rfl) (by omega) (by unfold maxLen; omega) (by omega) hlo _ rfl ?_
  intro g' cap w' h1 hg hat hlt
  have hob : ∀ k, (Value.slice A n c).ownBlock = some k → lo ≤ k ∧ k < hi := fun k hk => by
    cases A with
    | none => simp [Value.ownBlock] at hk
    | some p =>
      have h2 := htop p rfl
      have h4 := (World.ownsRow.lt hrow k hk).1
      simp [Value.ownBlock] at hk
      subst hk
      exact ⟨h4, h2⟩
  have hk : Kept lo hi w w' := Wd.kept_grown hg fun k hk => hob k hk
  refine h g' cap w' ⟨?_, fun a ha => by cases ha; exact hlt⟩ hk ?_ hg.size ?_ hlt
  · rw [List.map_append]; exact h1
  · rcases hat with hat | hat
    · cases A with
      | none => simp [Value.ownBlock] at hat
      | some p =>
        have hf := World.ownsRow.lt hrow g' hat
        rcases hrow.2 with ⟨h0, _⟩ | ⟨g2, cap2, cur2, hv, _⟩
        · cases h0
        · injection hv with e1
          injection e1 with e1
          subst e1
          simp [Value.ownBlock] at hat
          subst hat
          exact .inl rfl
    · exact .inr hat
  · rcases hat with hat | hat
    · exact (hob g' hat).1
    · omega

theorem Ob.vals_getDq (rs : List Rw) (k : Nat) : (vals rs).getD k [] = (rs.getD k nilRw).zs := by
  rw [List.getD_eq_getElem?_getD, List.getD_eq_getElem?_getD, vals, List.getElem?_map]
  cases rs[k]? <;> rfl
/-- A list of pairs in memory of the call's own. -/
def OwnQ (w : World) (lo hi : Nat) (A : Option Addr) (n c : Nat) (vs : List Value) : Prop :=
  w.ownsRow lo 105 2 (.slice A n c) n vs ∧ ∀ a, A = some a → a.block < hi
section
variable {w w' : World} {lo hi lo' hi' B n c : Nat} {A : Option Addr} {vs : List Value}
theorem OwnQ.nil (w : World) (lo hi : Nat) : OwnQ w lo hi none 0 0 [] := ⟨World.ownsRow_nil _ _ _ _, fun _ h => by cases h⟩
theorem OwnQ.keep (h : OwnQ w lo hi A n c vs) (hk : ∀ k, lo ≤ k → k < hi → w'.heap[k]? = w.heap[k]?) : OwnQ w' lo hi A n c vs := by
  refine ⟨⟨h.1.1, ?_⟩, h.2⟩
  rcases h.1.2 with h0 | ⟨g, cap, cur, hv, hb, hg, r⟩
  · exact .inl h0
  · refine .inr ⟨g, cap, cur, hv, hb, ?_, r⟩
    injection hv with h1 h2 h3
    rw [hk g hb (h.2 _ h1)]
    exact hg
theorem OwnQ.below (h : OwnQ w lo hi A n c vs) (hb : Below B w w') (hB : hi ≤ B) : OwnQ w' lo hi A n c vs := h.keep fun k _ h2 => hb.block k (by omega)
theorem OwnQ.kept (h : OwnQ w lo hi A n c vs) (hb : Kept lo' hi' w w') (hw : hi ≤ w.heap.size) (hd : hi ≤ lo' ∨ hi' ≤ lo) : OwnQ w' lo hi A n c vs := h.keep fun k h1 h2 => hb.block k (by omega) (by omega)
theorem OwnQ.far (h : OwnQ w lo hi A n c vs) {p : Addr} (hp : p.block < lo ∨ hi ≤ p.block) (u : Value) : OwnQ (w.setCell p u) lo hi A n c vs := h.keep fun k h1 h2 => Below.heap_setCell w p u k (by omega)
theorem OwnQ.wide (h : OwnQ w lo hi A n c vs) (h1 : lo' ≤ lo) (h2 : hi ≤ hi') : OwnQ w lo' hi' A n c vs :=
  ⟨⟨h.1.1, h.1.2.elim .inl fun ⟨g, cap, cur, hv, hb, r⟩ => .inr ⟨g, cap, cur, hv, by omega, r⟩⟩, fun a ha => by have := h.2 a ha; omega⟩
theorem OwnQ.tight {g : Nat} (h : OwnQ w lo hi (some ⟨g, 0, none⟩) n c vs) : OwnQ w g (g + 1) (some ⟨g, 0, none⟩) n c vs := by
  refine ⟨⟨h.1.1, ?_⟩, fun a ha => by cases ha; exact Nat.lt_succ_self _⟩
  rcases h.1.2 with ⟨h0, _⟩ | ⟨g2, cap, cur, hv, hb, hg, r⟩
  · cases h0
  · have e : g = g2 := by injection hv with e1; injection e1 with e1; injection e1
    exact .inr ⟨g2, cap, cur, hv, by omega, hg, r⟩
end
theorem infoQ : (Try.prog.info? 105).map (fun i => (i.zero, i.size, i.bytes)) = some (some (.agg #[.int .i64 0, .int .i64 0]), 2, 16) := by kernel_rfl
/-- A pair is appended to a list of the call's own. -/
theorem push_pair {w : World} {ops : Array Oper} {rest : List Oper} {o : Oper} {a : Act} {Q : Exit → Act → World → Prop} (hgd : o.guard = none) (s x : Operand) (ho : o.op = .call { callee := .builtin .append, args := #[s, x], argTypes := #[75, 75] })
    (lo hi c n g : Nat) (A : Option Addr) (vs : List Value) (x1 x2 : Int) (hs : a.eval s = .slice A n c) (hown : OwnQ w lo hi A n c vs) (hx : a.eval x = .slice (some ⟨g, 0, none⟩) 1 1) (hc : w.cell? ⟨g, 0, none⟩ = some (.int .i64 x1)) (hc2 : w.cell? ⟨g, 1, none⟩ = some (.int .i64 x2)) (hlo : lo ≤ w.heap.size) (hlen : n ≤ 1048576)
    (h : ∀ g' c' w', OwnQ w' lo w'.heap.size (some ⟨g', 0, none⟩) (n + 1) c' (vs ++ [.int .i64 x1, .int .i64 x2]) → Kept lo hi w w' → (A = some ⟨g', 0, none⟩ ∨ g' = w.heap.size) → w.heap.size ≤ w'.heap.size → lo ≤ g' → g' < w'.heap.size → wpList Try.prog ops Q rest (a.put o.dst (.slice (some ⟨g', 0, none⟩) (n + 1) c')) w') : wpList Try.prog ops Q (o :: rest) a w := by
  obtain ⟨ti, hi0, hz0, hz1, hz2⟩ := info_parts infoQ
  have hrow := hown.1
  have htop := hown.2
  refine wpList_append_lies w hgd s x 75 ho lo 105 ti _ 2 16 Try.underlying75 hi0 hz0 hz1 hz2 rfl (by decide) (.slice A n c) n vs hs hrow ⟨g, 0, none⟩ 1 1 [.int .i64 x1, .int .i64 x2] hx rfl
    (by
      intro j u hj
      rw [show (⟨g, 0, none⟩ : Addr).add j = ⟨g, j, none⟩ from by unfold Addr.add; split <;> simp_all]
      rcases j with _ | _ | j
      · simpa [hc] using hj
      · simpa [hc2] using hj
      · simp at hj)
    (by intro u hu; simp at hu; rcases hu with rfl | rfl <;> rfl) (by omega) (by unfold maxLen; omega) (by omega) hlo _ rfl ?_
  intro g' cap w' h1 hg hat hlt
  have hob : ∀ k, (Value.slice A n c).ownBlock = some k → lo ≤ k ∧ k < hi := fun k hk => by
    cases A with
    | none => simp [Value.ownBlock] at hk
    | some p =>
      have h2 := htop p rfl
      have h4 := (World.ownsRow.lt hrow k hk).1
      simp [Value.ownBlock] at hk
      subst hk
      exact ⟨h4, h2⟩
  have hk : Kept lo hi w w' := Wd.kept_grown hg fun k hk => hob k hk
  refine h g' cap w' ⟨?_, fun a ha => by cases ha; exact hlt⟩ hk ?_ hg.size ?_ hlt
  · exact h1
  · rcases hat with hat | hat
    · cases A with
      | none => simp [Value.ownBlock] at hat
      | some p =>
        have hf := World.ownsRow.lt hrow g' hat
        rcases hrow.2 with ⟨h0, _⟩ | ⟨g2, cap2, cur2, hv, _⟩
        · cases h0
        · injection hv with e1
          injection e1 with e1
          subst e1
          simp [Value.ownBlock] at hat
          subst hat
          exact .inl rfl
    · exact .inr hat
  · rcases hat with hat | hat
    · exact (hob g' hat).1
    · omega

/-- The search under way: the box of its two lists, the lists in blocks of their own, the result's box. -/
structure OrbAt (w W : World) (n : Nat) (l : List Int) (gn cn : Nat) (At : Option Addr) (nt ct gt ht : Nat) (vs : List Value) : Prop where
  box : BoxG W (w.heap.size + 1 + 1) (.slice (some ⟨gn, 0, none⟩) n cn) (.slice At nt ct)
  fr : Free W (w.heap.size + 1 + 1)
  num : Own W gn (gn + 1) (some ⟨gn, 0, none⟩) n cn l
  tre : OwnQ W gt ht At nt ct vs
  res : BoxG W w.heap.size (.slice none 0 0) (.slice none 0 0)
  rfr : Free W w.heap.size
  bel : Below w.heap.size w W
  pos : w.heap.size < gn ∧ gn ≠ w.heap.size + 1 + 1 ∧ gn < W.heap.size ∧ (gn < gt ∨ ht ≤ gn) ∧ w.heap.size ≤ gt ∧ (w.heap.size + 1 + 1 < gt ∨ ht ≤ w.heap.size + 1 + 1) ∧ (w.heap.size < gt ∨ ht ≤ w.heap.size) ∧ gt ≤ ht ∧ ht ≤ W.heap.size ∧ w.heap.size + 1 + 1 < W.heap.size
theorem BoxG.set0q {W : World} {b : Nat} {x y u : Value} (h : BoxG W b x y) : BoxG (W.setCell ⟨b, 0, none⟩ u) b u y := ⟨by simp [h.1, go_sem], by simp [h.2, go_sem]⟩
theorem BoxG.farq {W : World} {b : Nat} {x y : Value} (h : BoxG W b x y) {p : Addr} (hp : p.block ≠ b) (u : Value) : BoxG (W.setCell p u) b x y :=
  ⟨by rw [World.cell?_setCell_other W _ _ _ (fun e => hp (by rw [e]))]; exact h.1, by rw [World.cell?_setCell_other W _ _ _ (fun e => hp (by rw [e]))]; exact h.2⟩
theorem Own.tightq {w : World} {lo hi g n c : Nat} {zs : List Int} (h : Own w lo hi (some ⟨g, 0, none⟩) n c zs) : Own w g (g + 1) (some ⟨g, 0, none⟩) n c zs := by
  refine ⟨⟨h.1.1, ?_⟩, fun a ha => by cases ha; exact Nat.lt_succ_self _⟩
  rcases h.1.2 with ⟨h0, _⟩ | ⟨g2, cap, cur, hv, hb, hg, r⟩
  · cases h0
  · have e : g = g2 := by injection hv with e1; injection e1 with e1; injection e1
    exact .inr ⟨g2, cap, cur, hv, by omega, hg, r⟩
section
variable {w W w' : World} {n gn cn nt ct gt ht g' c' : Nat} {l : List Int} {At : Option Addr} {vs : List Value}
theorem OrbAt.drewN (h : OrbAt w W n l gn cn At nt ct gt ht vs) (k : Nat) : OrbAt w (W.drewN k) n l gn cn At nt ct gt ht vs :=
  ⟨h.box, h.fr, h.num.keep fun _ _ _ => rfl, h.tre.keep fun _ _ _ => rfl, h.res, h.rfr, h.bel.trans (Go.Joins.below_draws _ _ _), h.pos⟩
theorem OrbAt.num_pushed {z : Int} {o : Obj} (h : OrbAt w W n l gn cn At nt ct gt ht vs) (hO : Own w' gn w'.heap.size (some ⟨g', 0, none⟩) (n + 1) c' (l ++ [z])) (hK : Kept gn (gn + 1) (W.alloc o) w')
    (hg : (some ⟨gn, 0, none⟩ : Option Addr) = some ⟨g', 0, none⟩ ∨ g' = (W.alloc o).heap.size) (hlt : g' < w'.heap.size) :
    OrbAt w (w'.setCell ⟨w.heap.size + 1 + 1, 0, none⟩ (.slice (some ⟨g', 0, none⟩) (n + 1) c')) (n + 1) (l ++ [z]) g' c' At nt ct gt ht vs := by
  obtain ⟨p1, p2, p3, p4, p5, p6, p7, p9, pa, p8⟩ := h.pos
  have sz : (W.alloc o).heap.size = W.heap.size + 1 := by simp
  have hg2 : gn = g' ∨ g' = W.heap.size + 1 := by
    rcases hg with e | e
    · injection e with e; injection e with e; exact .inl e
    · exact .inr (e.trans sz)
  clear hg
  have hs := hK.size
  have B1 := al1 W o
  have sc : (w'.setCell ⟨w.heap.size + 1 + 1, 0, none⟩ (.slice (some ⟨g', 0, none⟩) (n + 1) c')).heap.size = w'.heap.size := by simp [World.setCell]
  refine ⟨?_, ?_, ?_, ?_, ?_, ?_, ?_, ?_⟩
  · exact ((h.box.below B1 p8).kept hK (by omega) (by omega)).set0q
  · exact ((h.fr.below B1 p8).kept hK (by omega) (by omega)).setA _ _
  · exact (hO.tightq).far (by dsimp only; omega) _
  · exact ((h.tre.below B1 (by omega)).kept hK (by omega) (by omega)).far (by dsimp only; omega) _
  · exact ((h.res.below B1 (by omega)).kept hK (by omega) (by omega)).farq (by dsimp only; omega) _
  · exact ((h.rfr.below B1 (by omega)).kept hK (by omega) (by omega)).setA _ _
  · exact ((h.bel.trans (B1.mono (by omega))).trans (hK.below (by omega) (by omega))).setCell (by dsimp only; omega) _
  · rw [sc]; omega
theorem OrbAt.tree_pushed {vs' : List Value} {o : Obj} (h : OrbAt w W n l gn cn At nt ct gt ht vs) (hO : OwnQ w' gt w'.heap.size (some ⟨g', 0, none⟩) (nt + 1) c' vs') (hK : Kept gt ht (W.alloc o) w')
    (hg : At = some ⟨g', 0, none⟩ ∨ g' = (W.alloc o).heap.size) (hlt : g' < w'.heap.size) :
    OrbAt w (w'.setCell ⟨w.heap.size + 1 + 1, 1, none⟩ (.slice (some ⟨g', 0, none⟩) (nt + 1) c')) n l gn cn (some ⟨g', 0, none⟩) (nt + 1) c' g' (g' + 1) vs' := by
  obtain ⟨p1, p2, p3, p4, p5, p6, p7, p9, pa, p8⟩ := h.pos
  have sz : (W.alloc o).heap.size = W.heap.size + 1 := by simp
  have hg2 : (gt ≤ g' ∧ g' < ht) ∨ g' = W.heap.size + 1 := by
    rcases hg with e | e
    · have h1 := h.tre.2 _ e
      have h2 : gt ≤ g' := by
        rcases hO.1.2 with ⟨h0, _⟩ | ⟨g2, cap, cur, hv, hb, _⟩
        · cases h0
        · injection hv with e1; injection e1 with e1; injection e1 with e1; omega
      dsimp only at h1
      omega
    · exact .inr (e.trans sz)
  clear hg
  have hs := hK.size
  have B1 := al1 W o
  have sc : (w'.setCell ⟨w.heap.size + 1 + 1, 1, none⟩ (.slice (some ⟨g', 0, none⟩) (nt + 1) c')).heap.size = w'.heap.size := by simp [World.setCell]
  refine ⟨?_, ?_, ?_, ?_, ?_, ?_, ?_, ?_⟩
  · exact ((h.box.below B1 p8).kept hK (by omega) (by omega)).set1_
  · exact ((h.fr.below B1 p8).kept hK (by omega) (by omega)).setA _ _
  · exact ((h.num.below B1 (by omega)).kept hK (by omega) (by omega)).far (by dsimp only; omega) _
  · exact (hO.tight).far (by dsimp only; omega) _
  · exact ((h.res.below B1 (by omega)).kept hK (by omega) (by omega)).farq (by dsimp only; omega) _
  · exact ((h.rfr.below B1 (by omega)).kept hK (by omega) (by omega)).setA _ _
  · exact ((h.bel.trans (B1.mono (by omega))).trans (hK.below (by omega) (by omega))).setCell (by dsimp only; omega) _
  · rw [sc]; omega
end

/-- A search that is done: its numbers in new memory, its pairs besides. -/
def ResOrb (w : World) (l : List Int) (e : Ending) (w' : World) : Prop :=
  ∃ gn cn At nt ct vs, e = .returned (.agg #[.slice (some ⟨gn, 0, none⟩) l.length cn, .slice At nt ct]) ∧ Own w' gn (gn + 1) (some ⟨gn, 0, none⟩) l.length cn l ∧ w.heap.size ≤ gn ∧ gn < w'.heap.size ∧ OwnQ w' w.heap.size w'.heap.size At nt ct vs ∧ Below w.heap.size w w'

set_option maxRecDepth 100000 in
set_option maxHeartbeats 8000000 in
theorem orbit_any (s n : Int) (A : Option Addr) (c : Nat) (rs : List Rw) (w : World) (h : RdS w w.heap.size A rs) (hlen : rs.length ≤ 1048576) (hp : ∀ z ∈ vals rs, Rp.Pm n z) (hn : n ≤ 4) (s0 : 0 ≤ s) (s1 : s < n) :
    Calls Try.prog 63 #[.int .i64 s, .slice A rs.length c] w fun e w' => ∃ k, (∀ j, j < k → j < (Ob.bfs (vals rs) s j).length) ∧ (Ob.bfs (vals rs) s k).length ≤ k ∧ ResOrb w (Ob.bfs (vals rs) s k) e w' := by
  have H := Lib.hid h
  have HP := Lib.hid hp
  obtain ⟨N, hN⟩ : ∃ N, rs.length = N := ⟨_, rfl⟩
  have HN := Lib.hid hN
  rw [hN] at hlen ⊢
  clear h hp hN
  go_enter Try.func63, Try.ntmps63
  go_wp2
  obtain ⟨U, hU⟩ : ∃ U, U = ((w.alloc (Obj.cells #[.slice none 0 0, .slice none 0 0] 77)).alloc (Obj.cells #[.int .i64 s] 2)).alloc (Obj.cells #[.slice (some ⟨w.heap.size + 1, 0, none⟩) 1 1, .slice none 0 0] 77) := ⟨_, rfl⟩
  have S0 := Lib.hid (show OrbAt w U 1 [s] (w.heap.size + 1) 1 none 0 0 w.heap.size w.heap.size [] from by
    have sU : U.heap.size = w.heap.size + 1 + 1 + 1 := by rw [hU]; simp
    refine ⟨?_, ?_, ?_, OwnQ.nil _ _ _, ?_, ?_, ?_, ?_⟩
    · rw [hU]; simpa using BoxG.new ((w.alloc (Obj.cells #[.slice none 0 0, .slice none 0 0] 77)).alloc (Obj.cells #[.int .i64 s] 2)) 77 (.slice (some ⟨w.heap.size + 1, 0, none⟩) 1 1) (.slice none 0 0)
    · rw [hU]; simpa using Free.new ((w.alloc (Obj.cells #[.slice none 0 0, .slice none 0 0] 77)).alloc (Obj.cells #[.int .i64 s] 2)) 77 #[.slice (some ⟨w.heap.size + 1, 0, none⟩) 1 1, .slice none 0 0]
    · have b := Blk.new (w.alloc (Obj.cells #[.slice none 0 0, .slice none 0 0] 77)) [s]
      rw [show (w.alloc (Obj.cells #[.slice none 0 0, .slice none 0 0] 77)).heap.size = w.heap.size + 1 from by simp] at b
      rw [hU]
      exact Own.of_blk (b.alloc _) (Nat.le_refl _) (Nat.lt_succ_self _) rfl (by unfold maxLen; omega)
    · rw [hU]; exact ((BoxG.new w 77 _ _).below (al1 _ _) (by simp)).below (al1 _ _) (by simp; omega)
    · rw [hU]; exact ((Free.new w 77 _).below (al1 _ _) (by simp)).below (al1 _ _) (by simp; omega)
    · rw [hU]; exact al3 _ _ _ _
    · rw [sU]; omega)
  rw [← hU]
  clear hU
  go_loopw [6] (fun i W => ∃ (k : Nat) (l : List Int) (m gn cn : Nat) (At : Option Addr) (nt ct gt ht : Nat) (vs : List Value), i = .int .i64 k ∧ (l = Ob.bfs (vals rs) s k ∧ ∀ j, j < k → j < (Ob.bfs (vals rs) s j).length) ∧ nt + 1 = m ∧ OrbAt w W m l gn cn At nt ct gt ht vs) (fun i _ => 5 - (intOf i).toNat)
  case atStart => exact ⟨0, [s], 1, _, _, _, _, _, _, _, _, rfl, ⟨rfl, fun j hj => by omega⟩, rfl, S0.out⟩
  case round =>
    obtain ⟨k, l, m, gn, cn, At, nt, ct, gt, ht, vs, rfl, hl, htl, ho⟩ := hrel
    have HL := Lib.hid hl
    have O := Lib.hid ho
    have LM := Lib.hid ho.num.len
    have M4 := Lib.hid (show 1 ≤ m ∧ m ≤ 4 from by rw [← ho.num.len, hl.1]; exact Ob.bfs_len HP.out hn s0 s1 hl.2)
    have BX := Lib.hid ho.box
    have FX := Lib.hid ho.fr
    clear hl ho S0
    obtain ⟨m1, m4⟩ := M4.out
    have i0 : (0 : Int) ≤ (k : Int) := by omega
    by_cases hlt : k < m
    · have i1 : (k : Int) < (m : Int) := by omega
      obtain ⟨x, hx⟩ : ∃ x, l.getD k 0 = x := ⟨_, rfl⟩
      have XF := Lib.hid (show 0 ≤ x ∧ x < n from by
        have h1 := Ob.getD_mem' (l := l) (k := k) (by rw [LM.out]; exact hlt)
        rw [hx] at h1
        rw [HL.out.1] at h1
        exact (Ob.bfs_all HP.out s0 s1 k HL.out.2 x h1).2)
      obtain ⟨g2, z2, e2, _, _, hz2, hcx, _⟩ := O.out.num.at_ (k := k) hlt
      cases e2
      obtain rfl : z2 = x := by rw [← hz2]; exact hx
      have HX := Lib.hid hx
      clear hx hz2
      obtain ⟨x0, x1⟩ := XF.out
      obtain ⟨b0, b1⟩ := BX.out
      have fx := FX.out
      unfold Free at fx
      go_wp2
      obtain ⟨X, rfl⟩ : ∃ X : Nat, z2 = X := ⟨z2.toNat, by omega⟩
      obtain ⟨U, hU⟩ : ∃ U, U = wr := ⟨_, rfl⟩
      have O0 := Lib.hid (show OrbAt w U m l gn cn At nt ct gt ht vs from by rw [hU]; exact O.out)
      rw [← hU]
      clear hU BX FX O fx b0 b1 hcx
      have G4 := Lib.hid (fun t (ht : t ≤ N) => show (Ob.grow (vals rs) X l t).length ≤ 4 from by
        have h1 := (Ob.grow_mono (vals rs) X l (show t ≤ (vals rs).length by rw [vals_len, HN.out]; exact ht)).length_le
        have h2 := (Ob.bfs_len HP.out hn s0 s1 (k := k + 1) (fun j hj => by
          rcases Nat.lt_or_ge j k with h3 | h3
          · exact HL.out.2 j h3
          · obtain rfl : j = k := by omega
            rw [← HL.out.1, LM.out]; exact hlt)).2
        have h3 : Ob.bfs (vals rs) s (k + 1) = Ob.grow (vals rs) X l (vals rs).length := by rw [← HX.out, HL.out.1]; rfl
        rw [h3] at h2
        omega)
      go_loopw [28] (fun jj W => ∃ (t : Nat) (l : List Int) (m gn cn : Nat) (At : Option Addr) (nt ct gt ht : Nat) (vs : List Value) (l0 : List Int), jj = .int .i64 t ∧ t ≤ N ∧ l = Ob.grow (vals rs) X l0 t ∧ l0 = Ob.bfs (vals rs) s k ∧ nt + 1 = m ∧ OrbAt w W m l gn cn At nt ct gt ht vs) (fun jj _ => N - (intOf jj).toNat)
      case atStart => exact ⟨0, l, m, _, _, _, _, _, _, _, _, l, rfl, Nat.zero_le _, rfl, HL.out.1, htl, O0.out⟩
      case round =>
        obtain ⟨t, l', m', gn', cn', At', nt', ct', gt', ht', vs', l0, rfl, htN, hl', hl0, htl', ho⟩ := hrel
        have HTL := Lib.hid htl'
        clear htl'
        obtain rfl : l = l0 := HL.out.1.trans hl0.symm
        have HLp := Lib.hid hl'
        have O := Lib.hid ho
        have LMp := Lib.hid ho.num.len
        have BX := Lib.hid ho.box
        have FX := Lib.hid ho.fr
        have M5 := Lib.hid (show m' ≤ 4 from by rw [← ho.num.len, hl']; exact G4.out t htN)
        have m5 := M5.out
        clear hl' ho hl0 O0
        have t0 : (0 : Int) ≤ (t : Int) := by omega
        by_cases hlt2 : t < N
        · obtain ⟨b, off, Aj, cj, zj, rfl, hb, hr, hc, hjc, hjm, hj⟩ := (H.out.below O.out.bel).at_ (j := t) (by rw [HN.out]; exact hlt2)
          have PZ := Lib.hid (show Rp.Pm n zj from by
            have h1 := vals_mem (rs := rs) (j := t) (by rw [HN.out]; exact hlt2)
            rw [hr] at h1
            exact HP.out _ h1)
          have zl : (zj.length : Int) = n := PZ.out.1
          have ZX : X < zj.length := by omega
          obtain ⟨b2, off2, y, rfl, hb2, hy, hcy⟩ := hj.at_z ZX
          have t1 : (t : Int) < (N : Int) := by omega
          have t2 : (X : Int) < (zj.length : Int) := by omega
          have NX := Lib.hid (show Ob.grow (vals rs) X l (t + 1) = Ob.add l' y from by
            rw [HLp.out, ← hy]
            show Ob.add _ _ = _
            rw [Ob.vals_getDq, hr]
            rfl)
          have CT := Lib.hid (contains_any (some ⟨gn', 0, none⟩) m' cn' l' y wr (O.out.num.ints.more (by have := O.out.pos; omega)) LMp.out (by omega))
          have EB := Lib.hid hb
          clear hr hj hjc hjm hy zl
          obtain ⟨b0, b1⟩ := BX.out
          have fx := FX.out
          unfold Free at fx
          by_cases hin : y ∈ l'
          · have IN := Lib.hid (show Ob.add l' y = l' from by unfold Ob.add; rw [if_pos hin])
            rw [show decide (y ∈ l') = true from by simpa using hin] at CT
            clear hin
            go_wp2_with fail
            refine CT.out.mono ?_
            rintro e w1 ⟨rfl, rfl⟩
            go_wp2
            go_roundw
            case rel => exact ⟨t + 1, l', m', gn', cn', At', nt', ct', gt', ht', vs', l, by go_num, by omega, by rw [NX.out, IN.out], HL.out.1, HTL.out, O.out⟩
            case measure => simp [intOf]; omega
          · have IN := Lib.hid (show Ob.add l' y = l' ++ [y] from by unfold Ob.add; rw [if_neg hin])
            rw [show decide (y ∈ l') = false from by simpa using hin] at CT
            clear hin
            go_wp2_with fail
            refine CT.out.mono ?_
            rintro e w1 ⟨rfl, rfl⟩
            go_upto_region 11 with fail
            have ps := O.out.pos
            go_upto_region 12 with (at_builtin; refine push_num rfl _ _ rfl gn' (gn' + 1) cn' m' wr.heap.size (some ⟨gn', 0, none⟩) l' y rfl (by exact O.out.num.below (al1 wr _) (by omega)) rfl (by exact Wd.alloc_first _ _ _ _ rfl) (by simp; omega) (by omega) ?_; intro g7 c7 w7 hO hK hor hsz hg1 hg2; have O8 := Lib.hid (O.out.num_pushed hO hK hor hg2); obtain ⟨q0, q1⟩ := (BX.out.below (al1 wr (Obj.cells #[.int .i64 y] 2)) (by omega)).kept hK (by simp; omega) (by omega); have f7 := (FX.out.below (al1 wr (Obj.cells #[.int .i64 y] 2)) (by omega)).kept hK (by simp; omega) (by omega); unfold Free at f7; clear b0 b1 fx hcy hc hO hK hor)
            obtain ⟨V, hV⟩ : ∃ V, V = w7.setCell ⟨w.heap.size + 1 + 1, 0, none⟩ (.slice (some ⟨g7, 0, none⟩) (m' + 1) c7) := ⟨_, rfl⟩
            rw [← hV] at O8 ⊢
            clear hV q0 q1 f7
            have pv := O8.out.pos
            have EV := Lib.hid O8.out.box
            have GV := Lib.hid O8.out.fr
            obtain ⟨b0, b1⟩ := EV.out
            have fx := GV.out
            unfold Free at fx
            go_wp2_with (at_builtin; refine push_pair rfl _ _ rfl gt' ht' ct' nt' V.heap.size At' vs' (X : Int) ((t : Int) + 1) rfl (by exact O8.out.tre.below (al1 V _) (by omega)) rfl (by simp [go_sem]) (by simp [go_sem]) (by simp; omega) (by have := HTL.out; omega) ?_; intro g8 c8 w8 hO hK hor hsz hg1 hg2; have O9 := Lib.hid (O8.out.tree_pushed hO hK hor hg2); obtain ⟨q0, q1⟩ := (EV.out.below (al1 V (Obj.cells #[.int .i64 X, .int .i64 ((t : Int) + 1)] 105)) (by omega)).kept hK (by simp; omega) (by omega); have f8 := (GV.out.below (al1 V (Obj.cells #[.int .i64 X, .int .i64 ((t : Int) + 1)] 105)) (by omega)).kept hK (by simp; omega) (by omega); unfold Free at f8; clear b0 b1 fx hO hK hor)
            go_roundw
            case rel => exact ⟨t + 1, _, m' + 1, _, _, _, nt' + 1, _, _, _, _, l, by go_num, by omega, by rw [NX.out, IN.out], HL.out.1, by have := HTL.out; omega, O9.out⟩
            case measure => simp [intOf]; omega
        · obtain rfl : t = N := by omega
          have t1 : ¬ (t : Int) < (t : Int) := by omega
          go_wp2
          go_roundw
          case rel => exact ⟨k + 1, l', m', gn', cn', At', nt', ct', gt', ht', vs', by go_num, ⟨by rw [HLp.out, ← HN.out, ← vals_len, ← HX.out, HL.out.1]; rfl, fun j hj => (by
            rcases Nat.lt_or_ge j k with h3 | h3
            · exact HL.out.2 j h3
            · obtain rfl : j = k := by omega
              rw [← HL.out.1, LM.out]; exact hlt)⟩, HTL.out, O.out⟩
          case measure => simp [intOf]; omega
    · have i1 : ¬ (k : Int) < (m : Int) := by omega
      obtain ⟨b0, b1⟩ := BX.out
      obtain ⟨r0, r1⟩ := O.out.res
      have f0 := O.out.rfr
      unfold Free at f0
      go_wp2
      refine bodyPost_ret (v := .agg #[.slice (some ⟨gn, 0, none⟩) m cn, .slice At nt ct]) (by simp [results, Try.results63, r0, r1, go_sem]) rfl ?_
      have po := O.out.pos
      refine ⟨k, HL.out.2, by rw [← HL.out.1, LM.out]; omega, ?_⟩
      rw [← HL.out.1]
      refine ⟨gn, cn, At, nt, ct, vs, by rw [LM.out], ?_, by omega, by simp [World.setCell]; omega, ?_, (O.out.bel.setCell (Nat.le_refl _) _).setCell (Nat.le_refl _) _⟩
      · rw [LM.out]
        exact (O.out.num.far (p := ⟨w.heap.size, 0, none⟩) (.inl (by dsimp only; omega)) _).far (p := ⟨w.heap.size, 1, none⟩) (.inl (by dsimp only; omega)) _
      · exact (((O.out.tre.far (p := ⟨w.heap.size, 0, none⟩) (by dsimp only; omega) _).far (p := ⟨w.heap.size, 1, none⟩) (by dsimp only; omega) _)).wide (by omega) (by simp [World.setCell]; omega)

end Go.Proofs.Ytiibedpacnficaa
