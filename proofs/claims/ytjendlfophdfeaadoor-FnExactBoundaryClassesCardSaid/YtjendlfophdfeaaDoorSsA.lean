/- Slices of slices of int64: how they read, how a call owns them. No condition but those that each theorem names. -/
import Derived.Test.YtjendlfophdfeaaDoorWdC
namespace Go.Proofs.YtjendlfophdfeaaDoor
open Go.RowKit

/-- A row of a slice of slices: where it lies, its capacity, its numbers. -/
structure Rw where
  A : Option Addr
  c : Nat
  zs : List Int
def Rw.sv (r : Rw) : Value := .slice r.A r.zs.length r.c
def nilRw : Rw := ⟨none, 0, []⟩
/-- A row that lies in memory of the call's own, from block lo on and below hi. -/
structure Rw.In (r : Rw) (w : World) (lo hi : Nat) : Prop where
  le : r.zs.length ≤ r.c
  cap : r.c ≤ maxLen
  mine : Mine w lo hi r.A r.zs.length r.zs
/-- The block of a row is not b. -/
def Rw.Off (r : Rw) (b : Nat) : Prop := ∀ a, r.A = some a → 0 < r.zs.length → a.block ≠ b
/-- Two rows share no block. -/
def Apart (r r' : Rw) : Prop := ∀ a a', r.A = some a → r'.A = some a' → 0 < r.zs.length → 0 < r'.zs.length → a.block ≠ a'.block
/-- How a row reads below block B. -/
structure Rw.Rd (r : Rw) (w : World) (B : Nat) : Prop where
  le : r.zs.length ≤ r.c
  cap : r.c ≤ maxLen
  ints : Ints w B r.A r.zs.length r.zs

section
variable {w w' : World} {lo hi lo' hi' B B' b : Nat} {r r' : Rw}
theorem nilRw_in (w : World) (lo hi : Nat) : nilRw.In w lo hi := ⟨Nat.le_refl _, Nat.zero_le _, Mine.none_ _ _ _ _⟩
theorem nilRw_off (b : Nat) : nilRw.Off b := fun a h => by cases h
theorem Apart.nil_left (r : Rw) : Apart nilRw r := fun a _ h => by cases h
theorem Apart.nil_right (r : Rw) : Apart r nilRw := fun _ a _ h => by cases h
theorem Apart.symm (h : Apart r r') : Apart r' r := fun a a' h1 h2 h3 h4 => (h a' a h2 h1 h4 h3).symm
theorem Rw.In.keep (h : r.In w lo hi) (hk : ∀ k, lo ≤ k → k < hi → w'.heap[k]? = w.heap[k]?) : r.In w' lo hi := ⟨h.le, h.cap, h.mine.keep hk⟩
theorem Rw.In.below (h : r.In w lo hi) (hb : Below B w w') (hB : hi ≤ B) : r.In w' lo hi := ⟨h.le, h.cap, h.mine.below hb hB⟩
theorem Rw.In.wide (h : r.In w lo hi) (h1 : lo' ≤ lo) (h2 : hi ≤ hi') : r.In w lo' hi' := ⟨h.le, h.cap, h.mine.wide h1 h2⟩
theorem Rw.In.rd (h : r.In w lo hi) : r.Rd w hi := ⟨h.le, h.cap, h.mine.ints⟩
theorem Rw.In.blk (h : r.In w lo hi) (h0 : 0 < r.zs.length) {a : Addr} (ha : r.A = some a) : lo ≤ a.block ∧ a.block < hi := by
  obtain ⟨g, off, e, h1, h2, _⟩ := h.mine.2 h0
  rw [e] at ha
  cases ha
  exact ⟨h1, h2⟩
theorem Rw.In.off (h : r.In w lo hi) (hb : b < lo ∨ hi ≤ b) : r.Off b := fun a ha h0 => by
  have := h.blk h0 ha
  omega
theorem Apart.of_in (h : r.In w lo hi) (h' : r'.In w' lo' hi') (hd : hi ≤ lo' ∨ hi' ≤ lo) : Apart r r' := fun a a' h1 h2 h3 h4 => by
  have := h.blk h3 h1
  have := h'.blk h4 h2
  omega
/-- A store into another block leaves a row as it was. -/
theorem Rw.In.set_ (h : r.In w lo hi) (p : Addr) (hp : r.Off p.block) (u : Value) : r.In (w.setCell p u) lo hi :=
  ⟨h.le, h.cap, h.mine.1, fun h0 => by
    obtain ⟨g, off, e, h1, h2, h3⟩ := h.mine.2 h0
    refine ⟨g, off, e, h1, h2, fun j hj => ⟨?_, ?_⟩⟩
    · rw [World.cell?_setCell_other w _ _ _ (fun e' => hp _ e h0 (by rw [e']))]; exact (h3 j hj).1
    · rw [World.frozen?_setCell]; exact (h3 j hj).2⟩
/-- What grows at one block leaves the other rows as they were. -/
theorem Rw.In.grown {row : Option Nat} (h : r.In w lo hi) (hg : w.grownBy w' row) (hp : ∀ k, row = some k → r.Off k) : r.In w' lo hi :=
  ⟨h.le, h.cap, h.mine.1, fun h0 => by
    obtain ⟨g, off, e, h1, h2, h3⟩ := h.mine.2 h0
    have hb := World.block_lt_of_cell? w _ (h3 0 h0).1
    have hk := hg.block g hb (fun e' => hp g e'.symm _ e h0 rfl)
    exact ⟨g, off, e, h1, h2, fun j hj => ⟨(World.cell?_of_block (a := ⟨g, off + j, none⟩) hk).trans (h3 j hj).1, (World.frozen?_of_block (a := ⟨g, off + j, none⟩) hk).trans (h3 j hj).2⟩⟩⟩
theorem Rw.Rd.keep (h : r.Rd w B) (hk : ∀ p : Addr, p.block < B → w'.cell? p = w.cell? p) : r.Rd w' B := ⟨h.le, h.cap, h.ints.keep hk⟩
theorem Rw.Rd.below (h : r.Rd w B) (hb : Below B w w') : r.Rd w' B := ⟨h.le, h.cap, h.ints.below hb⟩
theorem Rw.Rd.more (h : r.Rd w B) (hB : B ≤ B') : r.Rd w B' := ⟨h.le, h.cap, h.ints.more hB⟩
end

/-- A slice of slices that reads as the rows rs below block B. -/
def RdS (w : World) (B : Nat) (A : Option Addr) (rs : List Rw) : Prop :=
  (∀ r ∈ rs, r.Rd w B) ∧ (0 < rs.length → ∃ b off, A = some ⟨b, off, none⟩ ∧ b < B ∧ ∀ j, j < rs.length → w.cell? ⟨b, off + j, none⟩ = some (rs.getD j nilRw).sv)
theorem getD_mem {rs : List Rw} {j : Nat} (h : j < rs.length) : rs.getD j nilRw ∈ rs := by
  rw [List.getD_eq_getElem?_getD, List.getElem?_eq_getElem h]
  exact List.getElem_mem h
section
variable {w w' : World} {B B' : Nat} {A : Option Addr} {rs : List Rw}
theorem RdS.keep (h : RdS w B A rs) (hk : ∀ p : Addr, p.block < B → w'.cell? p = w.cell? p) : RdS w' B A rs :=
  ⟨fun r hr => (h.1 r hr).keep hk, fun h0 => by
    obtain ⟨b, off, e, hb, hc⟩ := h.2 h0
    exact ⟨b, off, e, hb, fun j hj => (hk ⟨b, off + j, none⟩ hb).trans (hc j hj)⟩⟩
theorem RdS.below (h : RdS w B A rs) (hb : Below B w w') : RdS w' B A rs := h.keep fun _ hp => hb.cell hp
theorem RdS.more (h : RdS w B A rs) (hB : B ≤ B') : RdS w B' A rs :=
  ⟨fun r hr => (h.1 r hr).more hB, fun h0 => by
    obtain ⟨b, off, e, hb, hc⟩ := h.2 h0
    exact ⟨b, off, e, by omega, hc⟩⟩
theorem RdS.into {W : World} (h : RdS w w.heap.size A rs) (hb : Below w.heap.size w W) : RdS W W.heap.size A rs := (h.below hb).more hb.size
theorem RdS.at_ (h : RdS w B A rs) {j : Nat} (hj : j < rs.length) : ∃ b off Aj cj zj, A = some ⟨b, off, none⟩ ∧ b < B ∧ rs.getD j nilRw = ⟨Aj, cj, zj⟩ ∧ w.cell? ⟨b, off + j, none⟩ = some (.slice Aj zj.length cj) ∧ zj.length ≤ cj ∧ cj ≤ maxLen ∧ Ints w B Aj zj.length zj := by
  obtain ⟨b, off, e, hb, hc⟩ := h.2 (by omega)
  obtain ⟨r, hr⟩ : ∃ r, rs.getD j nilRw = r := ⟨_, rfl⟩
  have h1 := h.1 _ (getD_mem hj)
  have h2 := hc j hj
  rw [hr] at h1 h2
  obtain ⟨Aj, cj, zj⟩ := r
  exact ⟨b, off, Aj, cj, zj, e, hb, hr, h2, h1.le, h1.cap, h1.ints⟩
theorem RdS.drewN (h : RdS w B A rs) (k : Nat) : RdS (w.drewN k) B A rs := h.keep fun _ _ => rfl
end

/-- A slice of slices in memory of the call's own; no two of its rows share a block, and none lies in the block of the rows. -/
structure OwnS (w : World) (lo hi : Nat) (A : Option Addr) (c : Nat) (rs : List Rw) : Prop where
  row : w.ownsRow lo 48 1 (.slice A rs.length c) rs.length (rs.map Rw.sv)
  top : ∀ a, A = some a → a.block < hi
  mine : ∀ r ∈ rs, r.In w lo hi
  off : ∀ r ∈ rs, ∀ a, A = some a → r.Off a.block
  apart : rs.Pairwise Apart

theorem infoS : (Tryd.prog.info? 48).map (fun i => (i.zero, i.size, i.bytes)) = some (some (.slice none 0 0), 1, 24) := by kernel_rfl

section
variable {w w' : World} {lo hi lo' hi' B b c : Nat} {A : Option Addr} {rs : List Rw}
theorem OwnS.nil (w : World) (lo hi : Nat) : OwnS w lo hi none 0 [] := ⟨World.ownsRow_nil _ _ _ _, (fun _ h => by cases h), (fun _ h => by simp at h), (fun _ h => by simp at h), List.Pairwise.nil⟩
theorem OwnS.keep (h : OwnS w lo hi A c rs) (hk : ∀ k, lo ≤ k → k < hi → w'.heap[k]? = w.heap[k]?) : OwnS w' lo hi A c rs := by
  refine ⟨⟨h.row.1, ?_⟩, h.top, fun r hr => (h.mine r hr).keep hk, h.off, h.apart⟩
  rcases h.row.2 with h0 | ⟨g, cap, cur, hv, hb, hg, r⟩
  · exact .inl h0
  · refine .inr ⟨g, cap, cur, hv, hb, ?_, r⟩
    injection hv with h1 h2 h3
    rw [hk g hb (h.top _ h1)]
    exact hg
theorem OwnS.below (h : OwnS w lo hi A c rs) (hb : Below B w w') (hB : hi ≤ B) : OwnS w' lo hi A c rs := h.keep fun k _ h2 => hb.block k (by omega)
theorem OwnS.kept (h : OwnS w lo hi A c rs) (hb : Kept lo' hi' w w') (hw : hi ≤ w.heap.size) (hd : hi ≤ lo' ∨ hi' ≤ lo) : OwnS w' lo hi A c rs := h.keep fun k h1 h2 => hb.block k (by omega) (by omega)
theorem OwnS.wide (h : OwnS w lo hi A c rs) (h1 : lo' ≤ lo) (h2 : hi ≤ hi') : OwnS w lo' hi' A c rs :=
  ⟨⟨h.row.1, h.row.2.elim .inl fun ⟨g, cap, cur, hv, hb, r⟩ => .inr ⟨g, cap, cur, hv, by omega, r⟩⟩, fun a ha => by have := h.top a ha; omega, fun r hr => (h.mine r hr).wide h1 h2, h.off, h.apart⟩
theorem OwnS.cap (h : OwnS w lo hi A c rs) : rs.length ≤ c ∧ c ≤ maxLen := by
  rcases h.row.2 with ⟨h0, h1⟩ | ⟨g', cap, cur, hv, hb, hg, h1, h2, h3, h4⟩
  · injection h0 with _ e2 e3
    subst e3
    exact ⟨by omega, Nat.zero_le _⟩
  · injection hv with e1 e2 e3
    subst e3
    exact ⟨h1, h2⟩
/-- The block of the rows. -/
theorem OwnS.at_ (h : OwnS w lo hi A c rs) (h0 : 0 < rs.length) : ∃ g, A = some ⟨g, 0, none⟩ ∧ lo ≤ g ∧ g < hi ∧ ∀ j, j < rs.length → w.cell? ⟨g, j, none⟩ = some (rs.getD j nilRw).sv ∧ w.frozen? ⟨g, j, none⟩ = false := by
  obtain ⟨g, cap, hv, hb, _⟩ := World.ownsRow.form h.row h0
  injection hv with h1 h2 h3
  subst h1
  have hr := h.row
  refine ⟨g, rfl, hb, h.top _ rfl, fun j hj => ⟨?_, World.ownsRow.frozenAt (by exact hr) j⟩⟩
  rw [World.ownsRow.cellAt (by exact hr) j (by simpa using hj), List.getElem?_map, List.getElem?_eq_getElem hj, List.getD_eq_getElem?_getD, List.getElem?_eq_getElem hj]
  rfl
theorem OwnS.rd (h : OwnS w lo hi A c rs) : RdS w hi A rs := ⟨fun r hr => (h.mine r hr).rd, fun h0 => by
  obtain ⟨g, e, _, h2, h3⟩ := h.at_ h0
  exact ⟨g, 0, e, h2, fun j hj => by rw [Nat.zero_add]; exact (h3 j hj).1⟩⟩
/-- A row is stored. -/
theorem OwnS.set_ {g : Nat} (h : OwnS w lo hi (some ⟨g, 0, none⟩) c rs) (j : Nat) (r : Rw) (hr : r.In w lo hi) (ho : r.Off g) (ha : ∀ r' ∈ rs, Apart r r') :
    OwnS (w.setCell ⟨g, j, none⟩ r.sv) lo hi (some ⟨g, 0, none⟩) c (rs.set j r) := by
  have hrow := (World.ownsRow.stored (by exact h.row) j r.sv).1
  refine ⟨by rw [List.map_set, List.length_set]; exact hrow, h.top, fun q hq => ?_, fun q hq a hA => ?_, ?_⟩
  · rcases List.mem_or_eq_of_mem_set hq with hq | rfl
    · exact (h.mine q hq).set_ ⟨g, j, none⟩ (h.off q hq ⟨g, 0, none⟩ rfl) _
    · exact hr.set_ ⟨g, j, none⟩ ho _
  · cases hA
    rcases List.mem_or_eq_of_mem_set hq with hq | rfl
    · exact h.off q hq _ rfl
    · exact ho
  · rw [List.pairwise_iff_getElem]
    intro i k hi' hk' hik
    simp only [List.length_set] at hi' hk'
    rw [List.getElem_set, List.getElem_set]
    by_cases e1 : j = i
    · rw [if_pos e1, if_neg (by omega)]
      exact ha _ (List.getElem_mem _)
    · rw [if_neg e1]
      by_cases e2 : j = k
      · rw [if_pos e2]
        exact (ha _ (List.getElem_mem _)).symm
      · rw [if_neg e2]
        exact (List.pairwise_iff_getElem.1 h.apart) i k hi' hk' hik
end

/-- A row is appended to a slice of slices of the call's own, and lies in later memory. -/
theorem push_row {w : World} {ops : Array Oper} {rest : List Oper} {o : Oper} {a : Act} {Q : Exit → Act → World → Prop} (hgd : o.guard = none) (s x : Operand) (ho : o.op = .call { callee := .builtin .append, args := #[s, x], argTypes := #[56, 56] })
    (lo hi lo2 c n g : Nat) (A : Option Addr) (rs : List Rw) (r : Rw) (hs : a.eval s = .slice A n c) (hn : rs.length = n) (hown : OwnS w lo hi A c rs) (hx : a.eval x = .slice (some ⟨g, 0, none⟩) 1 1) (hc : w.cell? ⟨g, 0, none⟩ = some r.sv) (hr : r.In w lo2 w.heap.size) (h12 : hi ≤ lo2) (hlo2 : lo ≤ lo2) (hlo : lo ≤ w.heap.size) (hhi : hi ≤ w.heap.size) (hlen : n ≤ 1048576)
    (h : ∀ A' c' w', OwnS w' lo w'.heap.size A' c' (rs ++ [r]) → Kept lo hi w w' → wpList Tryd.prog ops Q rest (a.put o.dst (.slice A' (n + 1) c')) w') : wpList Tryd.prog ops Q (o :: rest) a w := by
  obtain ⟨ti, hi0, hz0, hz1, hz2⟩ := info_parts infoS
  subst hn
  refine wpList_append_lies w hgd s x 56 ho lo 48 ti _ 1 24 Tryd.underlying56 hi0 hz0 hz1 hz2 rfl (by decide) (.slice A rs.length c) rs.length (rs.map Rw.sv) hs hown.row ⟨g, 0, none⟩ 1 1 [r.sv] hx rfl
    (by intro j u hj; cases j with | zero => (simp at hj; subst hj; simpa [Addr.add] using hc) | succ j => simp at hj) (by intro u hu; simp at hu; subst hu; rfl) (by omega) (by unfold maxLen; omega) (by omega) hlo _ rfl ?_
  intro g' cap w' h1 hg hat hlt
  have hob : ∀ k, (Value.slice A rs.length c).ownBlock = some k → lo ≤ k ∧ k < hi ∧ ∀ q ∈ rs, q.Off k := fun k hk => by
    cases A with
    | none => simp [Value.ownBlock] at hk
    | some p =>
      have h2 := hown.top p rfl
      have h3 := fun q hq => hown.off q hq p rfl
      have h4 := (World.ownsRow.lt hown.row k hk).1
      simp [Value.ownBlock] at hk
      subst hk
      exact ⟨h4, h2, h3⟩
  have hk : Kept lo hi w w' := Wd.kept_grown hg fun k hk => ⟨(hob k hk).1, (hob k hk).2.1⟩
  have hrw : r.In w' lo w'.heap.size := (hr.grown hg fun k hk => hr.off (.inl (by have := (hob k hk).2.1; omega))).wide hlo2 hg.size
  refine h (some ⟨g', 0, none⟩) cap w' ⟨?_, (fun a ha => by cases ha; exact hlt), fun q hq => ?_, fun q hq a ha => ?_, ?_⟩ hk
  · rw [List.length_append, List.map_append]
    exact h1
  · rcases List.mem_append.1 hq with hq | hq
    · exact ((hown.mine q hq).grown hg fun k hk => (hob k hk).2.2 q hq).wide (Nat.le_refl _) (Nat.le_trans hhi hg.size)
    · simp at hq; subst hq
      exact hrw
  · cases ha
    dsimp only
    rcases hat with hat | hat
    · rcases List.mem_append.1 hq with hq | hq
      · exact (hob _ hat).2.2 q hq
      · simp at hq; subst hq
        exact hr.off (.inl (by have := (hob _ hat).2.1; omega))
    · rcases List.mem_append.1 hq with hq | hq
      · exact (hown.mine q hq).off (.inr (by omega))
      · simp at hq; subst hq
        exact hr.off (.inr (by omega))
  · rw [List.pairwise_append]
    exact ⟨hown.apart, List.pairwise_singleton _ _, fun q hq q' hq' => by simp at hq'; subst hq'; exact Apart.of_in (hown.mine q hq) hr (.inl h12)⟩

theorem run_make_rows (n : Nat) (hn : n ≤ 1048576) (w : World) :
    (Instr.makeSlice 56 (.int .i64 (n : Int)) (.int .i64 (n : Int))).run Tryd.prog w = .ok (.slice (some ⟨w.heap.size, 0, none⟩) n n) (w.alloc (.cells (Array.replicate n (Value.slice none 0 0)) 48)) := by
  obtain ⟨i0, hi, hz0, hz1, hz2⟩ := info_parts infoS
  have hr := run_make (P := Tryd.prog) w 56 48 i0 _ Tryd.underlying56 hi hz0 .i64 .i64 n n (by omega) (by omega) (by rw [hz2]; omega) (by omega)
  simp only [Int.toNat_natCast] at hr
  have e : madeCells (Value.slice none 0 0).cells (n * 1) = Array.replicate n (Value.slice none 0 0) := by
    apply Array.ext
    · simp [madeCells]
    · intro i h1 h2
      simp [madeCells, Value.cells, Nat.mod_one]
  rw [hz1, e] at hr
  exact hr
theorem OwnS.new (w : World) (n : Nat) (hn : n ≤ 1048576) : OwnS (w.alloc (.cells (Array.replicate n (Value.slice none 0 0)) 48)) w.heap.size (w.heap.size + 1) (some ⟨w.heap.size, 0, none⟩) n (List.replicate n nilRw) := by
  refine ⟨⟨by simp, .inr ⟨w.heap.size, n, _, by simp, Nat.le_refl _, heap_alloc_new w _, by simp, by unfold maxLen; omega, by simp, ?_⟩⟩, (fun a ha => by cases ha; exact Nat.lt_succ_self _), fun r hr => ?_, fun r hr a _ => ?_, ?_⟩
  · rw [Array.toList_replicate, List.length_replicate, Nat.mul_one, List.take_of_length_le (by simp), List.map_replicate]
    rfl
  · rw [List.eq_of_mem_replicate hr]; exact nilRw_in _ _ _
  · rw [List.eq_of_mem_replicate hr]; exact nilRw_off _
  · rw [List.pairwise_iff_getElem]
    intro i k h1 h2 _
    rw [List.getElem_replicate]
    exact Apart.nil_left _
theorem OwnS.empty (w : World) : OwnS (w.alloc (Obj.cells #[] 48)) w.heap.size (w.heap.size + 1) (some ⟨w.heap.size, 0, none⟩) 0 [] :=
  ⟨⟨rfl, .inr ⟨w.heap.size, 0, #[], rfl, Nat.le_refl _, heap_alloc_new w _, Nat.le_refl _, Nat.zero_le _, rfl, rfl⟩⟩, (fun a ha => by cases ha; exact Nat.lt_succ_self _), (fun _ h => by simp at h), (fun _ h => by simp at h), List.Pairwise.nil⟩

/-- How many numbers the rows have. -/
def tot : List Rw → Nat
  | [] => 0
  | r :: rs => r.zs.length + tot rs
theorem tot_app (rs qs : List Rw) : tot (rs ++ qs) = tot rs + tot qs := by
  induction rs with
  | nil => simp [tot]
  | cons r rs ih => simp [tot, ih]; omega
theorem take_row {rs : List Rw} {j : Nat} (h : j < rs.length) : rs.take (j + 1) = rs.take j ++ [rs.getD j nilRw] := by
  rw [List.take_succ_eq_append_getElem h, List.getD_eq_getElem?_getD, List.getElem?_eq_getElem h]; rfl
theorem tot_take {rs : List Rw} {j : Nat} (h : j < rs.length) : tot (rs.take (j + 1)) = tot (rs.take j) + (rs.getD j nilRw).zs.length := by
  rw [take_row h, tot_app]; simp [tot]
theorem tot_le (rs : List Rw) (j : Nat) : tot (rs.take j) ≤ tot rs := by
  have := tot_app (rs.take j) (rs.drop j)
  rw [List.take_append_drop] at this
  omega
/-- The numbers of the rows. -/
def vals (rs : List Rw) : List (List Int) := rs.map Rw.zs
theorem vals_len (rs : List Rw) : (vals rs).length = rs.length := by simp [vals]
theorem vals_at {rs qs : List Rw} (h : vals rs = vals qs) (j : Nat) : (rs.getD j nilRw).zs = (qs.getD j nilRw).zs := by
  have e : ∀ (ts : List Rw), (ts.getD j nilRw).zs = (vals ts).getD j [] := fun ts => by
    rw [List.getD_eq_getElem?_getD, List.getD_eq_getElem?_getD, vals, List.getElem?_map]
    cases ts[j]? <;> rfl
  rw [e, e, h]
theorem tot_vals {rs qs : List Rw} (h : vals rs = vals qs) : tot rs = tot qs := by
  have e : ∀ ts : List Rw, tot ts = ((vals ts).map List.length).sum := fun ts => by
    induction ts with
    | nil => rfl
    | cons r ts ih => simp [tot, vals] at ih ⊢; omega
  rw [e, e, h]

end Go.Proofs.YtjendlfophdfeaaDoor
