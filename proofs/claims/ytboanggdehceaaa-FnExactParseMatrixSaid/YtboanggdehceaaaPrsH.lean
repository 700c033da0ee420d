/- Splitting a text at a byte: what it yields, and the specification's l01Split. No condition but those that each theorem names. -/
import Derived.Test.YtboanggdehceaaaPrsE
import Derived.Test.YtboanggdehceaaaPrsB
import Derived.Laws.AppendOwn
import Derived.Laws.OwnMore
namespace Go.Proofs.Ytboanggdehceaaa
open Go.RowKit
namespace Prs
/-- Words, the byte behind each. -/
def fl (b : UInt8) (ws : List (List UInt8)) : List UInt8 := ws.flatMap fun w => w ++ [b]
theorem fl_cons (b : UInt8) (w : List UInt8) (ws : List (List UInt8)) : fl b (w :: ws) = w ++ b :: fl b ws := by simp [fl]
theorem fl_snoc (b : UInt8) (w : List UInt8) (ws : List (List UInt8)) : fl b (ws ++ [w]) = fl b ws ++ (w ++ [b]) := by simp [fl]
theorem fl_len (b : UInt8) (ws : List (List UInt8)) : ws.length ≤ (fl b ws).length := by
  induction ws with
  | nil => simp [fl]
  | cons w ws ih => rw [fl_cons]; simp; omega
/-- How far a text has been split: ws are the words ahead of place f, and the byte is not at f up to k. -/
structure SplAt (l : List UInt8) (b : UInt8) (ws : List (List UInt8)) (f k : Nat) : Prop where
  le : f ≤ k
  eq : fl b ws = l.take f
  no : ∀ w ∈ ws, b ∉ w
  free : ∀ j, f ≤ j → j < k → l.getD j 0 ≠ b
/-- The words of a text. -/
def IsSplit (l : List UInt8) (b : UInt8) (ws : List (List UInt8)) : Prop := ∃ ws0 last, ws = ws0 ++ [last] ∧ l = fl b ws0 ++ last ∧ ∀ w ∈ ws, b ∉ w
theorem SplAt.start (l : List UInt8) (b : UInt8) : SplAt l b [] 0 0 := ⟨Nat.le_refl _, rfl, fun w hw => by simp at hw, fun j _ h => by omega⟩
theorem SplAt.len {l : List UInt8} {b : UInt8} {ws : List (List UInt8)} {f k : Nat} (h : SplAt l b ws f k) : ws.length ≤ l.length := by
  have h1 := fl_len b ws
  rw [h.eq] at h1
  simp at h1
  omega
theorem SplAt.part {l : List UInt8} {b : UInt8} {ws : List (List UInt8)} {f k : Nat} (h : SplAt l b ws f k) (hk : k ≤ l.length) : b ∉ (l.take k).drop f := by
  intro hb
  obtain ⟨i, hi, e⟩ := List.mem_iff_getElem.1 hb
  simp at hi
  have := h.free (f + i) (by omega) (by omega)
  apply this
  rw [← e, List.getD_eq_getElem?_getD, List.getElem?_eq_getElem (by omega)]
  simp
theorem SplAt.skip {l : List UInt8} {b : UInt8} {ws : List (List UInt8)} {f k : Nat} (h : SplAt l b ws f k) (hb : l.getD k 0 ≠ b) : SplAt l b ws f (k + 1) :=
  ⟨by have := h.le; omega, h.eq, h.no, fun j h1 h2 => by
    by_cases e : j = k
    · rw [e]; exact hb
    · exact h.free j h1 (by omega)⟩
theorem take_split {l : List UInt8} {f k : Nat} (h : f ≤ k) : l.take f ++ (l.take k).drop f = l.take k := by
  have : l.take f = (l.take k).take f := by rw [List.take_take, Nat.min_eq_left h]
  rw [this, List.take_append_drop]
theorem SplAt.next {l : List UInt8} {b : UInt8} {ws : List (List UInt8)} {f k : Nat} (h : SplAt l b ws f k) (hk : k < l.length) (hb : l.getD k 0 = b) : SplAt l b (ws ++ [(l.take k).drop f]) (k + 1) (k + 1) := by
  refine ⟨Nat.le_refl _, ?_, fun w hw => ?_, fun j _ _ => by omega⟩
  · rw [fl_snoc, h.eq, ← List.append_assoc, take_split h.le, List.take_add_one, List.getElem?_eq_getElem hk]
    rw [List.getD_eq_getElem?_getD, List.getElem?_eq_getElem hk] at hb
    simp at hb
    simp [hb]
  · rcases List.mem_append.1 hw with hw | hw
    · exact h.no w hw
    · simp at hw; subst hw; exact h.part (by omega)
theorem SplAt.fin {l : List UInt8} {b : UInt8} {ws : List (List UInt8)} {f : Nat} (h : SplAt l b ws f l.length) : IsSplit l b (ws ++ [(l.take l.length).drop f]) :=
  ⟨ws, _, rfl, by rw [h.eq, take_split h.le, List.take_length], fun w hw => by
    rcases List.mem_append.1 hw with hw | hw
    · exact h.no w hw
    · simp at hw
      have := h.part (Nat.le_refl _)
      rw [List.take_length] at this
      rw [hw]; exact this⟩
theorem word_inj {b : UInt8} : ∀ {w w' : List UInt8} {t t' : List UInt8}, b ∉ w → b ∉ w' → w ++ b :: t = w' ++ b :: t' → w = w' ∧ t = t'
  | [], [], t, t', _, _, h => by simp at h; exact ⟨rfl, h⟩
  | [], x :: w', t, t', _, h2, h => by simp at h; exact absurd (by simp [h.1]) h2
  | x :: w, [], t, t', h1, _, h => by simp at h; exact absurd (by simp [h.1]) h1
  | x :: w, y :: w', t, t', h1, h2, h => by
    simp at h
    obtain ⟨rfl, h⟩ := h
    obtain ⟨rfl, rfl⟩ := word_inj (w := w) (w' := w') (fun hh => h1 (by simp [hh])) (fun hh => h2 (by simp [hh])) h
    exact ⟨rfl, rfl⟩
theorem fl_inj {b : UInt8} : ∀ {ws ws' : List (List UInt8)} {u u' : List UInt8}, (∀ w ∈ ws ++ [u], b ∉ w) → (∀ w ∈ ws' ++ [u'], b ∉ w) → fl b ws ++ u = fl b ws' ++ u' → ws ++ [u] = ws' ++ [u']
  | [], [], u, u', _, _, h => by simp [fl] at h; simp [h]
  | [], w' :: ws', u, u', h1, _, h => by rw [fl_cons] at h; simp [fl] at h; exact absurd (by simp [h]) (h1 u (by simp))
  | w :: ws, [], u, u', _, h2, h => by rw [fl_cons] at h; simp [fl] at h; exact absurd (by simp [← h]) (h2 u' (by simp))
  | w :: ws, w' :: ws', u, u', h1, h2, h => by
    rw [fl_cons, fl_cons, List.append_assoc, List.append_assoc, List.cons_append, List.cons_append] at h
    obtain ⟨rfl, h9⟩ := word_inj (h1 w (by simp)) (h2 w' (by simp)) h
    have := fl_inj (ws := ws) (ws' := ws') (fun x hx => h1 x (by simp at hx ⊢; right; exact hx)) (fun x hx => h2 x (by simp at hx ⊢; right; exact hx)) h9
    simp at this ⊢
    exact this
theorem IsSplit.unique {l : List UInt8} {b : UInt8} {ws ws' : List (List UInt8)} (h : IsSplit l b ws) (h' : IsSplit l b ws') : ws = ws' := by
  obtain ⟨a, u, rfl, h1, h2⟩ := h
  obtain ⟨a', u', rfl, h1', h2'⟩ := h'
  exact fl_inj h2 h2' (h1.symm.trans h1')
/-- The words of the numbers with a space ahead of each. -/
theorem wd_fl (w : List UInt8) (es : List Int) : ∃ ws0 last, w :: es.map Lib.itoa = ws0 ++ [last] ∧ w ++ wd es = fl 32 ws0 ++ last := by
  induction es generalizing w with
  | nil => exact ⟨[], w, rfl, by simp [wd, fl]⟩
  | cons e r ih =>
    obtain ⟨ws0, last, h1, h2⟩ := ih (Lib.itoa e)
    refine ⟨w :: ws0, last, by rw [List.map_cons, h1]; rfl, ?_⟩
    rw [wd_cons, fl_cons, List.append_assoc, List.cons_append, ← h2]
theorem wd_isSplit (es : List Int) : IsSplit (wd es) 32 ([] :: es.map Lib.itoa) := by
  obtain ⟨ws0, last, h1, h2⟩ := wd_fl [] es
  refine ⟨ws0, last, h1, h2, fun w hw => ?_⟩
  rcases List.mem_cons.1 hw with rfl | hw
  · simp
  · obtain ⟨e, _, rfl⟩ := List.mem_map.1 hw
    exact fun hh => (itoa_ne e 32 hh).2.2 rfl
theorem IsSplit.wd_of {t : List UInt8} {es : List Int} (h : IsSplit t 32 ([] :: es.map Lib.itoa)) : t = wd es := by
  obtain ⟨ws0, last, h1, h2, _⟩ := h
  obtain ⟨a0, al, g1, g2⟩ := wd_fl [] es
  rw [g1] at h1
  have := List.append_inj' h1 (by simp)
  obtain ⟨rfl, e⟩ := this
  injection e with e _
  subst e
  rw [h2, ← g2]
  rfl
theorem IsSplit.ne {l : List UInt8} {b : UInt8} {ws : List (List UInt8)} (h : IsSplit l b ws) : 0 < ws.length := by
  obtain ⟨a, u, rfl, _⟩ := h
  simp
theorem IsSplit.len {l : List UInt8} {b : UInt8} {ws : List (List UInt8)} (h : IsSplit l b ws) : ws.length ≤ l.length + 1 := by
  obtain ⟨a, u, rfl, h1, _⟩ := h
  have h2 := fl_len b a
  rw [h1]
  simp
  omega
theorem IsSplit.wlen {l : List UInt8} {b : UInt8} {ws : List (List UInt8)} (h : IsSplit l b ws) {w : List UInt8} (hw : w ∈ ws) : w.length ≤ l.length := by
  obtain ⟨a, u, rfl, h1, _⟩ := h
  rw [h1]
  have key : ∀ (a : List (List UInt8)), w ∈ a → w.length ≤ (fl b a).length := by
    intro a
    induction a with
    | nil => intro h; simp at h
    | cons x r ih =>
      intro h
      rw [fl_cons]
      rcases List.mem_cons.1 h with rfl | h
      · simp
      · have := ih h; simp; omega
  rcases List.mem_append.1 hw with hw | hw
  · have := key a hw; simp; omega
  · simp at hw; subst hw; simp
end Prs

abbrev svw (p : List UInt8) : Value := .string ⟨p.toArray⟩
theorem infoW : (Try.prog.info? 9).map (fun i => (i.zero, i.size, i.bytes)) = some (some (.string ⟨#[]⟩), 1, 16) := by kernel_rfl
/-- A slice of texts of the call's own. -/
def OwnW (w : World) (lo : Nat) (A : Option Addr) (c : Nat) (ps : List (List UInt8)) : Prop := w.ownsRow lo 9 1 (.slice A ps.length c) ps.length (ps.map svw)
/-- The cells of texts. -/
def Strs (w : World) (g : Nat) (ps : List (List UInt8)) : Prop := ∀ k, k < ps.length → w.cell? ⟨g, k, none⟩ = some (svw (ps.getD k []))
theorem Strs.below {w w' : World} {g B : Nat} {ps : List (List UInt8)} (h : Strs w g ps) (hb : Below B w w') (hg : g < B) : Strs w' g ps := fun k hk => (hb.cell (p := ⟨g, k, none⟩) hg).trans (h k hk)
theorem OwnW.strs {w : World} {lo c : Nat} {A : Option Addr} {ps : List (List UInt8)} (h : OwnW w lo A c ps) (hp : 0 < ps.length) : ∃ g, A = some ⟨g, 0, none⟩ ∧ lo ≤ g ∧ g < w.heap.size ∧ Strs w g ps := by
  obtain ⟨g, cap, hv, hb, _⟩ := World.ownsRow.form h hp
  injection hv with h1 h2 h3
  subst h1
  refine ⟨g, rfl, hb, (World.ownsRow.lt h g rfl).2, fun k hk => ?_⟩
  rw [World.ownsRow.cellAt (by exact h) k (by simpa using hk), List.getElem?_map, List.getElem?_eq_getElem hk, List.getD_eq_getElem?_getD, List.getElem?_eq_getElem hk]
  rfl
theorem OwnW.al {w w' : World} {lo c : Nat} {A : Option Addr} {ps : List (List UInt8)} (h : OwnW w lo A c ps) (hb : Below w.heap.size w w') : OwnW w' lo A c ps := by
  have ho : (Value.slice A ps.length c).ownBlock = none ∨ (Value.slice A ps.length c).ownBlock ≠ some w.heap.size := by
    cases hv : (Value.slice A ps.length c).ownBlock with
    | none => exact Or.inl rfl
    | some k =>
      have := (World.ownsRow.lt h k hv).2
      exact Or.inr (by simp; omega)
  exact World.ownsRow.kept (row := some w.heap.size) h ⟨hb.os, hb.tape, hb.output, hb.size, fun k hk _ => hb.block k hk⟩ ho
theorem OwnW.new (w : World) (lo : Nat) (h : lo ≤ w.heap.size) : OwnW (w.alloc (.cells #[] 9)) lo (some ⟨w.heap.size, 0, none⟩) 0 [] :=
  ⟨rfl, .inr ⟨w.heap.size, 0, #[], rfl, h, heap_alloc_new w _, Nat.le_refl _, Nat.zero_le _, rfl, rfl⟩⟩

/-- A text is appended to a slice of the call's own. -/
theorem wpList_push_word {w : World} {ops : Array Oper} {rest : List Oper} {o : Oper} {a : Act} {Q : Exit → Act → World → Prop} (hgd : o.guard = none) (s x : Operand) (ho : o.op = .call { callee := .builtin .append, args := #[s, x], argTypes := #[55, 55] })
    (lo c g : Nat) (A : Option Addr) (ps : List (List UInt8)) (t : List UInt8) (hs : a.eval s = .slice A ps.length c) (hown : OwnW w lo A c ps) (hx : a.eval x = .slice (some ⟨g, 0, none⟩) 1 1) (hc : w.cell? ⟨g, 0, none⟩ = some (svw t)) (hlo : lo ≤ w.heap.size) (hlen : ps.length ≤ 1048577)
    (h : ∀ A' c' w', OwnW w' lo A' c' (ps ++ [t]) → Below lo w w' → wpList Try.prog ops Q rest (a.put o.dst (.slice A' (ps.length + 1) c')) w') : wpList Try.prog ops Q (o :: rest) a w := by
  obtain ⟨ti, hi0, hz0, hz1, hz2⟩ := info_parts infoW
  refine wpList_append_own w hgd s x 55 ho lo 9 ti _ 1 16 Try.underlying55 hi0 hz0 hz1 hz2 rfl (by decide) (.slice A ps.length c) ps.length (ps.map svw) hs hown ⟨g, 0, none⟩ 1 1 [svw t] hx rfl
    (by intro j u hj; cases j with | zero => (simp at hj; subst hj; simpa [Addr.add] using hc) | succ j => simp at hj) (by intro u hu; simp at hu; subst hu; rfl) (by unfold maxLen; omega) (by omega) hlo ?_
  intro v' w' h1 hg _
  have hb : Below lo w w' := (Below.refl _ _).grown hg hlo (fun k hk => (hown.lt k hk).1)
  obtain ⟨g', cap, rfl, _⟩ := h1.form (by omega)
  refine h (some ⟨g', 0, none⟩) cap w' ?_ hb
  unfold OwnW
  rw [List.length_append, List.map_append]
  exact h1

theorem al1_ (w : World) (o1 : Obj) : Below w.heap.size w (w.alloc o1) := (Below.refl _ _).alloc (Nat.le_refl _) o1
theorem hbel_size {w W : World} (h : Below w.heap.size w W) : w.heap.size ≤ W.heap.size := h.size
/-- What a split returns. -/
def SplR (w : World) (l : List UInt8) (b : UInt8) (e : Ending) (w' : World) : Prop :=
  ∃ ws g c, Prs.IsSplit l b ws ∧ e = .returned (.slice (some ⟨g, 0, none⟩) ws.length c) ∧ Strs w' g ws ∧ w.heap.size ≤ g ∧ g < w'.heap.size ∧ Below w.heap.size w w'
/-- The state of the loop. -/
def SplS (w : World) (l : List UInt8) (b : UInt8) (out f i : Value) (W : World) : Prop :=
  ∃ ws A c, out = .slice A ws.length c ∧ OwnW W w.heap.size A c ws ∧ Below w.heap.size w W ∧ ∃ fn k : Nat, f = .int .i64 fn ∧ i = .int .i64 k ∧ fn ≤ l.length + 1 ∧ ((k ≤ l.length ∧ Prs.SplAt l b ws fn k) ∨ (k = l.length + 1 ∧ Prs.IsSplit l b ws))

set_option maxRecDepth 100000 in
set_option maxHeartbeats 8000000 in
theorem split_spec (l : List UInt8) (b : UInt8) (w : World) (hl : l.length ≤ 1048576) : Calls Try.prog 27 #[.string ⟨l.toArray⟩, .int .u8 (b.toNat : Int)] w (SplR w l b) := by
  have O0 := Lib.hid (OwnW.new w w.heap.size (Nat.le_refl _))
  have D0 := Lib.hid (al1_ w (Obj.cells #[] 9))
  go_enter Try.func27, Try.ntmps27
  go_wp2
  go_loopw [5, 6, 7] (fun out f i W => SplS w l b out f i W) (fun _ _ i _ => l.length + 2 - (intOf i).toNat)
  case atStart => exact ⟨[], _, 0, rfl, O0.out, D0.out, 0, 0, rfl, rfl, by omega, .inl ⟨by omega, Prs.SplAt.start l b⟩⟩
  case round =>
    obtain ⟨ws, A, c, rfl, ho, hbel, fn, k, rfl, rfl, hfn, hst⟩ := hrel
    have O := Lib.hid ho
    have D := Lib.hid hbel
    clear ho hbel O0 D0
    rcases hst with ⟨hk, hs⟩ | ⟨hk, hs⟩
    case inr =>
      have S := Lib.hid hs
      have hne := hs.ne
      have t0 : ¬ (k : Int) ≤ (l.length : Int) := by omega
      clear hk hs
      go_wp2
      go_ret
      obtain ⟨g, rfl, h1, h2, h3⟩ := O.out.strs hne
      exact ⟨ws, g, c, S.out, rfl, h3, h1, h2, D.out⟩
    have S := Lib.hid hs
    have lw := hs.len
    have fk := hs.le
    have k0 : (0 : Int) ≤ (k : Int) := by omega
    have t0 : (k : Int) ≤ (l.length : Int) := by omega
    have wk : IntKind.i64.wrap ((k : Int) + 1) = (k : Int) + 1 := IntWalk.i64_in _ (by omega)
    have ex := extract_to l fn k
    have hsz := hbel_size D.out
    clear hs
    by_cases hend : k = l.length
    · have t1 : ((k : Int) == (l.length : Int)) = true := by simp; omega
      have FI := Lib.hid (show Prs.IsSplit l b (ws ++ [(l.take k).drop fn]) from by rw [hend]; exact (hend ▸ S.out).fin)
      have HE := Lib.hid hend
      clear hend
      go_wp2_with (at_builtin; refine wpList_push_word rfl _ _ rfl w.heap.size c wr.heap.size A ws ((l.take k).drop fn) rfl (O.out.al (al1_ wr _)) rfl (by exact alloc_first _ _ _ _ rfl) (by simp; omega) (by omega) ?_; intro A7 c7 w7 h5 h6; have O7 := Lib.hid h5; have D7 := Lib.hid ((D.out.trans ((al1_ wr _).mono D.out.size)).trans h6); clear h5 h6)
      go_roundw
      case rel => exact ⟨ws ++ [(l.take k).drop fn], A7, c7, by simp, O7.out, D7.out, k + 1, k + 1, by go_num, by go_num, by omega, .inr ⟨by have := HE.out; omega, FI.out⟩⟩
      case measure => simp [intOf]; omega
    · have t1 : ((k : Int) == (l.length : Int)) = false := by simp; omega
      have hlt : k < l.length := by omega
      have i1 : (k : Int) < (l.length : Int) := by omega
      have hb := byte_at l hlt
      obtain ⟨x, hx⟩ : ∃ x, l.getD k 0 = x := ⟨_, rfl⟩
      rw [hx] at hb
      have HX := Lib.hid hx
      clear hx hend
      by_cases hxb : x = b
      · have t2 := toNat_eq hxb
        have NX := Lib.hid (S.out.next hlt (HX.out.trans hxb))
        clear hxb
        go_wp2_with (at_builtin; refine wpList_push_word rfl _ _ rfl w.heap.size c wr.heap.size A ws ((l.take k).drop fn) rfl (O.out.al (al1_ wr _)) rfl (by exact alloc_first _ _ _ _ rfl) (by simp; omega) (by omega) ?_; intro A7 c7 w7 h5 h6; have O7 := Lib.hid h5; have D7 := Lib.hid ((D.out.trans ((al1_ wr _).mono D.out.size)).trans h6); clear h5 h6)
        go_roundw
        case rel => exact ⟨ws ++ [(l.take k).drop fn], A7, c7, by simp, O7.out, D7.out, k + 1, k + 1, by go_num, by go_num, by omega, .inl ⟨by omega, NX.out⟩⟩
        case measure => simp [intOf]; omega
      · have t2 := toNat_ne hxb
        have NX := Lib.hid (S.out.skip (by rw [HX.out]; exact hxb))
        clear hxb ex
        go_wp2
        go_roundw
        case rel => exact ⟨ws, A, c, rfl, O.out, D.out, fn, k + 1, rfl, by go_num, hfn, .inl ⟨by omega, NX.out⟩⟩
        case measure => simp [intOf]; omega
end Go.Proofs.Ytboanggdehceaaa
