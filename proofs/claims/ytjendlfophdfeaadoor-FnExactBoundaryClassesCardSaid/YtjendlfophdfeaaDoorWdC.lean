/- Reduced forms and inverses: the program's reducedForm and inverseOf, the specification's l04Reduce and l04Inverse. No condition but those that each theorem names. -/
import Derived.Test.YtjendlfophdfeaaDoorWdB
import Derived.Deep.AppendLies
import Derived.Deep.Upon
namespace Go.Proofs.YtjendlfophdfeaaDoor
open Go.RowKit

namespace Wd
theorem alloc_first (W : World) (g : Nat) (v : Value) (t : TypeId) (h : W.heap.size = g) : (W.alloc (Obj.cells #[v] t)).cell? ⟨g, 0, none⟩ = some v := by
  subst h; simp [go_sem]
theorem run_make_cap (n : Nat) (hn : n ≤ 1048576) (w : World) :
    (Instr.makeSlice 48 (.int .i64 0) (.int .i64 (n : Int))).run Tryd.prog w = .ok (.slice (some ⟨w.heap.size, 0, none⟩) 0 n) (w.alloc (.cells ((List.replicate n (0 : Int)).map (Value.int .i64)).toArray 2)) := by
  obtain ⟨i0, hi, hz0, hz1, hz2⟩ := info_parts info2
  have hr := run_make (P := Tryd.prog) w 48 2 i0 _ Tryd.underlying48 hi hz0 .i64 .i64 0 n (by omega) (by omega) (by rw [hz2]; omega) (by omega)
  simp only [Int.toNat_natCast] at hr
  have e : madeCells (Value.int .i64 0).cells (n * 1) = ((List.replicate n (0 : Int)).map (Value.int .i64)).toArray := by
    apply Array.ext
    · simp [madeCells]
    · intro i h1 h2
      simp [madeCells, Value.cells, Nat.mod_one]
  rw [hz1, e] at hr
  exact hr
theorem own_new (w : World) (n : Nat) (hn : n ≤ 1048576) : Own (w.alloc (.cells (Array.replicate n (Value.int .i64 0)) 2)) w.heap.size (w.heap.size + 1) (some ⟨w.heap.size, 0, none⟩) 0 n [] :=
  ⟨⟨rfl, .inr ⟨w.heap.size, n, _, rfl, Nat.le_refl _, heap_alloc_new w _, Nat.zero_le _, by unfold maxLen; omega, by simp, by simp⟩⟩, fun a ha => by cases ha; exact Nat.lt_succ_self _⟩
theorem own_nil (w : World) : Own (w.alloc (Obj.cells #[] 2)) w.heap.size (w.heap.size + 1) (some ⟨w.heap.size, 0, none⟩) 0 0 [] :=
  ⟨⟨rfl, .inr ⟨w.heap.size, 0, #[], rfl, Nat.le_refl _, heap_alloc_new w _, Nat.le_refl _, Nat.zero_le _, rfl, rfl⟩⟩, fun a ha => by cases ha; exact Nat.lt_succ_self _⟩
/-- Part of an owned slice, from its beginning. -/
theorem own_part {w : World} {lo hi g n c i : Nat} {l : List Int} (h : Own w lo hi (some ⟨g, 0, none⟩) n c l) (hi' : i ≤ n) : Own w lo hi (some ⟨g, 0, none⟩) i c (l.take i) := by
  have hl := h.len
  refine ⟨⟨by simp [hl]; omega, ?_⟩, h.2⟩
  rcases h.1.2 with ⟨h0, _⟩ | ⟨g', cap, cur, hv, hb, hg, h1, h2, h3, h4⟩
  · cases h0
  · injection hv with e1 e2 e3
    subst e3
    refine .inr ⟨g', c, cur, by rw [e1], hb, hg, by omega, h2, h3, ?_⟩
    have : cur.toList.take (i * 1) = (cur.toList.take (n * 1)).take (i * 1) := by rw [List.take_take]; congr 1; omega
    rw [this, h4, ← List.map_take, Nat.mul_one]
theorem own_cap {w : World} {lo hi g n c : Nat} {l : List Int} (h : Own w lo hi (some ⟨g, 0, none⟩) n c l) : n ≤ c ∧ c ≤ maxLen := by
  rcases h.1.2 with ⟨h0, _⟩ | ⟨g', cap, cur, hv, hb, hg, h1, h2, h3, h4⟩
  · cases h0
  · injection hv with e1 e2 e3
    subst e3
    exact ⟨h1, h2⟩
theorem kept_grown {w w' : World} {v : Value} {lo hi : Nat} (hg : w.grownBy w' v.ownBlock) (hlo : ∀ k, v.ownBlock = some k → lo ≤ k ∧ k < hi) : Kept lo hi w w' :=
  ⟨hg.os, hg.tape, hg.output, hg.size, fun k hk hn => hg.block k hk (fun e => by have := hlo k e.symm; omega)⟩
/-- Numbers are appended to a list of the call's own. -/
theorem push_ints {w : World} {ops : Array Oper} {rest : List Oper} {o : Oper} {a : Act} {Q : Exit → Act → World → Prop} (hgd : o.guard = none) (s x : Operand) (ho : o.op = .call { callee := .builtin .append, args := #[s, x], argTypes := #[48, 48] })
    (lo hi c B n m cm : Nat) (A A2 : Option Addr) (l zs : List Int) (hs : a.eval s = .slice A n c) (hown : Own w lo hi A n c l) (hx : a.eval x = .slice A2 m cm) (hc : Ints w B A2 m zs) (h0 : 0 < m) (hlo : lo ≤ w.heap.size) (hlen : n + m ≤ 4194304)
    (h : ∀ A' c' w', Own w' lo w'.heap.size A' (n + m) c' (l ++ zs) → Kept lo hi w w' → wpList Tryd.prog ops Q rest (a.put o.dst (.slice A' (n + m) c')) w') : wpList Tryd.prog ops Q (o :: rest) a w := by
  obtain ⟨ti, hi0, hz0, hz1, hz2⟩ := info_parts info2
  have hl := hown.len
  have hzl := hc.1
  obtain ⟨b, off, rfl, hb, hcell⟩ := hc.2 h0
  refine wpList_append_own w hgd s x 48 ho lo 2 ti _ 1 8 Tryd.underlying48 hi0 hz0 hz1 hz2 rfl (by decide) (.slice A n c) n (l.map (Value.int .i64)) hs hown.1 ⟨b, off, none⟩ m cm (zs.map (Value.int .i64)) hx (by simpa using hzl)
    (by
      intro j u hj
      rw [List.getElem?_map] at hj
      have hjl : j < zs.length := by
        rcases Nat.lt_or_ge j zs.length with h | h
        · exact h
        · rw [List.getElem?_eq_none h] at hj; simp at hj
      rw [List.getElem?_eq_getElem hjl] at hj
      simp at hj
      have := hcell j (by omega)
      rw [List.getD_eq_getElem?_getD, List.getElem?_eq_getElem hjl] at this
      subst hj
      rw [show (⟨b, off, none⟩ : Addr).add j = ⟨b, off + j, none⟩ from by unfold Addr.add; split <;> simp_all]
      simpa using this)
    (by intro u hu; obtain ⟨z, _, rfl⟩ := List.mem_map.1 hu; rfl) (by unfold maxLen; omega) (by omega) hlo ?_
  intro v' w' h1 hg _
  have hk : Kept lo hi w w' := kept_grown hg fun k hk => ⟨(hown.1.lt k hk).1, by
    cases A with
    | none => simp [Value.ownBlock] at hk
    | some p =>
      have h2 := hown.2 p rfl
      simp [Value.ownBlock] at hk
      omega⟩
  obtain ⟨g', cap, rfl, _⟩ := h1.form (by omega)
  have hlt : g' < w'.heap.size := (World.ownsRow.lt h1 g' rfl).2
  refine h (some ⟨g', 0, none⟩) cap w' ⟨?_, fun a ha => by cases ha; exact hlt⟩ hk
  rw [List.map_append]
  exact h1
/-- An append of nothing. -/
theorem append_none {w : World} {ops : Array Oper} {rest : List Oper} {o : Oper} {a : Act} {Q : Exit → Act → World → Prop} (hgd : o.guard = none) (s x : Operand) (t e : TypeId)
    (ho : o.op = .call { callee := .builtin .append, args := #[s, x], argTypes := #[t, t] }) (i : TypeInfo) (ht : Tryd.prog.underlying t = some (.slice e)) (hi : Tryd.prog.info? e = some i)
    (b : Option Addr) (n cap : Nat) (hn : n ≤ cap) (hs : a.eval s = .slice b n cap) (A : Option Addr) (c : Nat) (hx : a.eval x = .slice A 0 c)
    (h : wpList Tryd.prog ops Q rest (a.put o.dst (.slice b n cap)) w) : wpList Tryd.prog ops Q (o :: rest) a w := by
  refine wpList_plain hgd fun K hK => ?_
  have hr := run_append_nothing (P := Tryd.prog) w t t o.type e i ht hi b n cap hn (.slice A 0 c) ⟨.inl ⟨e, ht⟩, fun w' => by simp [Builtin.lenOf], by cases A <;> simp [Builtin.firstCells, loadCells, loadCellsFrom], by cases A <;> simp [Builtin.firstCells, loadCells, loadCellsFrom], by simp, by simp⟩
  unfold Oper.wp execOp
  simp only [ho, resolve, invoke, builtin, Sem.run_bind, Sem.run_pure, Result.andThen_ok, List.map_toArray, List.map_cons, List.map_nil, hs, hx, hr]
  exact hK _ _ h
theorem own_caps {w : World} {lo hi n c : Nat} {A : Option Addr} {l : List Int} (h : Own w lo hi A n c l) : n ≤ c ∧ c ≤ maxLen := by
  rcases h.1.2 with ⟨h0, h1⟩ | ⟨g', cap, cur, hv, hb, hg, h1, h2, h3, h4⟩
  · injection h0 with _ e2 e3
    subst e3
    exact ⟨by omega, Nat.zero_le _⟩
  · injection hv with e1 e2 e3
    subst e3
    exact ⟨h1, h2⟩
theorem own_le {w : World} {lo hi n c : Nat} {A : Option Addr} {l : List Int} (h : Own w lo hi A n c l) : n ≤ c := by
  rcases h.1.2 with ⟨h0, h1⟩ | ⟨g', cap, cur, hv, hb, hg, h1, h2, h3, h4⟩
  · injection h0 with _ e2 e3
    omega
  · injection hv with e1 e2 e3
    omega
/-- A list, empty or not, is appended to a list of the call's own. -/
theorem push_any {w : World} {ops : Array Oper} {rest : List Oper} {o : Oper} {a : Act} {Q : Exit → Act → World → Prop} (hgd : o.guard = none) (s x : Operand) (ho : o.op = .call { callee := .builtin .append, args := #[s, x], argTypes := #[48, 48] })
    (lo hi c B n m cm : Nat) (A A2 : Option Addr) (l zs : List Int) (hs : a.eval s = .slice A n c) (hown : Own w lo hi A n c l) (hx : a.eval x = .slice A2 m cm) (hc : Ints w B A2 m zs) (hlo : lo ≤ w.heap.size) (hhi : hi ≤ w.heap.size) (hlen : n + m ≤ 4194304)
    (h : ∀ A' c' w', Own w' lo w'.heap.size A' (n + m) c' (l ++ zs) → Kept lo hi w w' → wpList Tryd.prog ops Q rest (a.put o.dst (.slice A' (n + m) c')) w') : wpList Tryd.prog ops Q (o :: rest) a w := by
  rcases Nat.eq_zero_or_pos m with h0 | h0
  · subst h0
    obtain ⟨ti, hi0, hz0, hz1, hz2⟩ := info_parts info2
    refine append_none hgd s x 48 2 ho ti Tryd.underlying48 hi0 A n c (own_le hown) hs A2 cm hx ?_
    have e : zs = [] := List.length_eq_zero_iff.1 hc.1
    subst e
    have := h A c w (by rw [List.append_nil]; exact hown.wide (Nat.le_refl _) hhi) (Kept.refl _ _ _)
    exact this
  · exact push_ints hgd s x ho lo hi c B n m cm A A2 l zs hs hown hx hc h0 hlo hlen h
theorem ints_one {w : World} {g : Nat} {z : Int} (hc : w.cell? ⟨g, 0, none⟩ = some (.int .i64 z)) : Ints w w.heap.size (some ⟨g, 0, none⟩) 1 [z] := by
  refine ⟨rfl, fun _ => ⟨g, 0, rfl, World.block_lt_of_cell? w _ hc, fun j hj => ?_⟩⟩
  have e : j = 0 := by omega
  rw [e]
  exact hc
/-- A number is appended to a list of the call's own. -/
theorem push_int {w : World} {ops : Array Oper} {rest : List Oper} {o : Oper} {a : Act} {Q : Exit → Act → World → Prop} (hgd : o.guard = none) (s x : Operand) (ho : o.op = .call { callee := .builtin .append, args := #[s, x], argTypes := #[48, 48] })
    (lo hi c g n : Nat) (A : Option Addr) (l : List Int) (z : Int) (hs : a.eval s = .slice A n c) (hown : Own w lo hi A n c l) (hx : a.eval x = .slice (some ⟨g, 0, none⟩) 1 1) (hc : w.cell? ⟨g, 0, none⟩ = some (.int .i64 z)) (hlo : lo ≤ w.heap.size) (hlen : n ≤ 1048576)
    (h : ∀ A' c' w', Own w' lo w'.heap.size A' (n + 1) c' (l ++ [z]) → Kept lo hi w w' → wpList Tryd.prog ops Q rest (a.put o.dst (.slice A' (n + 1) c')) w') : wpList Tryd.prog ops Q (o :: rest) a w :=
  push_ints hgd s x ho lo hi c w.heap.size n 1 1 A (some ⟨g, 0, none⟩) l [z] hs hown hx (ints_one hc) (by omega) hlo (by omega) h
end Wd

/-- A list that is reduced letter by letter: what has been read is reduced. -/
def RdW (w : World) (zs : List Int) (k : Nat) (out : Value) (W : World) : Prop :=
  ∃ A n c, out = .slice A n c ∧ Own W w.heap.size W.heap.size A n c (Wd.rd (zs.take k)) ∧ Below w.heap.size w W
theorem ResLM.of_rds {w W : World} {zs : List Int} {k : Nat} {out : Value} (h : RdW w zs k out W) (hk : zs.length ≤ k) : ResLM w (Wd.rd zs) (.returned out) W := by
  obtain ⟨A, n, c, rfl, h1, h2⟩ := h
  rw [List.take_of_length_le hk] at h1
  have hl := h1.len
  have hc := Wd.own_caps h1
  refine ⟨A, c, ?_, ?_, ?_, h2⟩
  · rw [hl]
  · rw [hl]; exact hc
  · rw [hl]; exact h1.mine

/-- The inverse of the last letters, from place k on. -/
theorem Wd.inv_drop (l : List Int) {k : Nat} (h : k < l.length) : Wd.inv (l.drop k) = Wd.inv (l.drop (k + 1)) ++ [-(l.getD k 0)] := by
  rw [List.drop_eq_getElem_cons h, Wd.inv_cons, List.getD_eq_getElem?_getD, List.getElem?_eq_getElem h]; rfl
theorem Wd.inv_take (l : List Int) {k : Nat} (h : k < l.length) : Wd.inv (l.take (k + 1)) = -(l.getD k 0) :: Wd.inv (l.take k) := by
  rw [Wd.take_snoc l h]; simp [Wd.inv]
/-- A list whose last k numbers are the inverse of the first k letters. -/
def Wd.filled (l : List Int) (k : Nat) : List Int := List.replicate (l.length - k) 0 ++ Wd.inv (l.take k)
theorem Wd.filled_set (l : List Int) {k : Nat} (h : k < l.length) : (Wd.filled l k).set (l.length - 1 - k) (-(l.getD k 0)) = Wd.filled l (k + 1) := by
  unfold Wd.filled
  rw [Wd.inv_take l h, show l.length - k = (l.length - (k + 1)) + 1 by omega, List.replicate_succ', List.append_assoc, List.set_append_right _ _ (by simp; omega)]
  rw [show l.length - 1 - k - (List.replicate (l.length - (k + 1)) (0 : Int)).length = 0 by simp; omega]
  rfl
theorem Wd.filled_len (l : List Int) {k : Nat} (h : k ≤ l.length) : (Wd.filled l k).length = l.length := by simp [Wd.filled, Wd.inv_len]; omega
theorem Wd.filled_all (l : List Int) {k : Nat} (h : l.length = k) : Wd.filled l k = Wd.inv l := by simp [Wd.filled, h, List.take_of_length_le]
theorem Wd.filled_zero (l : List Int) : Wd.filled l 0 = List.replicate l.length 0 := by simp [Wd.filled, Wd.inv]

/-- A list that is inverted letter by letter, from its end. -/
def IvS (w : World) (zs : List Int) (k : Nat) (out : Value) (W : World) : Prop :=
  ∃ A n c, out = .slice A n c ∧ Own W w.heap.size W.heap.size A n c (Wd.inv (zs.drop k)) ∧ Below w.heap.size w W
theorem ResLM.of_ivs {w W : World} {zs : List Int} {out : Value} (h : IvS w zs 0 out W) : ResLM w (Wd.inv zs) (.returned out) W := by
  obtain ⟨A, n, c, rfl, h1, h2⟩ := h
  rw [List.drop_zero] at h1
  have hl := h1.len
  have hc := Wd.own_caps h1
  exact ⟨A, c, by rw [hl], by rw [hl]; exact hc, by rw [hl]; exact h1.mine, h2⟩

end Go.Proofs.YtjendlfophdfeaaDoor
