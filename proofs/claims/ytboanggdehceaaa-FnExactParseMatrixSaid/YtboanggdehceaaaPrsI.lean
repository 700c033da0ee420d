/- Where a matrix' text has its first x and its first colon, and what lies between them. No condition but those that each theorem names. -/
import Derived.Test.YtboanggdehceaaaPrsG
import Derived.Test.YtboanggdehceaaaPrsH
namespace Go.Proofs.Ytboanggdehceaaa
open Go.RowKit
namespace Prs
/-- The first place of a byte. -/
def First (l : List UInt8) (b : UInt8) (k : Nat) : Prop := k < l.length ∧ l.getD k 0 = b ∧ ∀ i, i < k → l.getD i 0 ≠ b
theorem First.unique {l : List UInt8} {b : UInt8} {k k' : Nat} (h : First l b k) (h' : First l b k') : k = k' := by
  rcases Nat.lt_trichotomy k k' with hlt | rfl | hlt
  · exact absurd h.2.1 (h'.2.2 k hlt)
  · rfl
  · exact absurd h'.2.1 (h.2.2 k' hlt)
theorem first_of {l a t : List UInt8} {b : UInt8} (h : l = a ++ b :: t) (hn : b ∉ a) : First l b a.length := by
  subst h
  refine ⟨by simp, by simp [List.getD_eq_getElem?_getD], fun i hi e => hn ?_⟩
  rw [List.getD_eq_getElem?_getD, List.getElem?_append_left hi, List.getElem?_eq_getElem hi] at e
  simp at e
  rw [← e]
  exact List.getElem_mem hi
theorem Txt.x {l : List UInt8} {r c : Int} {es : List Int} (h : Txt l r c es) : First l 120 (Lib.itoa r).length := first_of h.1 fun hh => (itoa_ne r 120 hh).1 rfl
theorem Txt.colon {l : List UInt8} {r c : Int} {es : List Int} (h : Txt l r c es) : First l 58 ((Lib.itoa r).length + 1 + (Lib.itoa c).length) := by
  have := first_of (l := l) (a := Lib.itoa r ++ 120 :: Lib.itoa c) (t := wd es) (b := 58) (by rw [h.1]; simp) (fun hh => by
    rcases List.mem_append.1 hh with hh | hh
    · exact (itoa_ne r 58 hh).2.1 rfl
    · rcases List.mem_cons.1 hh with hh | hh
      · cases hh
      · exact (itoa_ne c 58 hh).2.1 rfl)
  have e : (Lib.itoa r ++ 120 :: Lib.itoa c).length = (Lib.itoa r).length + 1 + (Lib.itoa c).length := by simp; omega
  rwa [e] at this
/-- The three parts of a matrix' text. -/
theorem Txt.parts {l : List UInt8} {r c : Int} {es : List Int} (h : Txt l r c es) {X Y : Nat} (hx : First l 120 X) (hy : First l 58 Y) : X < Y ∧ Word (l.take X) r ∧ Word ((l.take Y).drop (X + 1)) c ∧ l.drop (Y + 1) = wd es := by
  have e1 := hx.unique h.x
  have e2 := hy.unique h.colon
  have el : l = (Lib.itoa r ++ 120 :: Lib.itoa c) ++ 58 :: wd es := by rw [h.1]; simp
  have e3 : Y = (Lib.itoa r ++ 120 :: Lib.itoa c).length := by rw [e2]; simp; omega
  have t1 : l.take X = Lib.itoa r := by rw [h.1, e1, List.take_left]
  have t2 : l.take Y = Lib.itoa r ++ 120 :: Lib.itoa c := by rw [el, e3, List.take_left]
  have t3 : l.drop (Y + 1) = wd es := by
    rw [el, e3, ← List.drop_drop, List.drop_left]
    rfl
  have t4 : (l.take Y).drop (X + 1) = Lib.itoa c := by
    rw [t2, e1, ← List.drop_drop, List.drop_left]
    rfl
  refine ⟨by omega, by rw [t1]; exact word_mk rfl h.2.1, by rw [t4]; exact word_mk rfl h.2.2.1, t3⟩
theorem cut_at {l : List UInt8} {k : Nat} {b : UInt8} (h : First l b k) : l = l.take k ++ b :: l.drop (k + 1) := by
  have h2 := h.2.1
  rw [List.getD_eq_getElem?_getD, List.getElem?_eq_getElem h.1] at h2
  simp at h2
  conv => lhs; rw [← List.take_append_drop k l, List.drop_eq_getElem_cons h.1, h2]
theorem txt_of {l : List UInt8} {r c : Int} {es : List Int} {X Y : Nat} (hx : First l 120 X) (hy : First l 58 Y) (hxy : X < Y) (h1 : Word (l.take X) r) (h2 : Word ((l.take Y).drop (X + 1)) c) (h3 : l.drop (Y + 1) = wd es) (hs : ∀ e ∈ es, Sm e) : Txt l r c es := by
  refine ⟨?_, h1.sm, h2.sm, hs⟩
  have g1 := cut_at hy
  have fx : First (l.take Y) 120 X := by
    refine ⟨by simp; have := hx.1; omega, ?_, fun i hi => ?_⟩
    · rw [List.getD_eq_getElem?_getD, List.getElem?_take, if_pos hxy, ← List.getD_eq_getElem?_getD]; exact hx.2.1
    · rw [List.getD_eq_getElem?_getD, List.getElem?_take, if_pos (by omega), ← List.getD_eq_getElem?_getD]; exact hx.2.2 i hi
  have g2 := cut_at fx
  rw [List.take_take, Nat.min_eq_left (by omega), h2.eq, h1.eq] at g2
  rw [h3, g2] at g1
  rw [g1]
  simp
/-- The words behind the colon. -/
theorem Txt.words {l : List UInt8} {r c : Int} {es : List Int} (h : Txt l r c es) {X Y : Nat} (hx : First l 120 X) (hy : First l 58 Y) {ws : List (List UInt8)} (hw : IsSplit (l.drop (Y + 1)) 32 ws) : ws = [] :: es.map Lib.itoa := by
  rw [(h.parts hx hy).2.2.2] at hw
  exact hw.unique (wd_isSplit es)
theorem words_done {ws : List (List UInt8)} {es : List Int} {t : List UInt8} (h : ws.take ws.length = [] :: es.map Lib.itoa) (hw : IsSplit t 32 ws) : t = wd es := by
  rw [List.take_length] at h
  subst h
  exact hw.wd_of
theorem words_more {ws : List (List UInt8)} {es : List Int} {k : Nat} {v : Int} (h : ws.take k = [] :: es.map Lib.itoa) (hk : k < ws.length) (hv : Word (ws.getD k []) v) : ws.take (k + 1) = [] :: (es ++ [v]).map Lib.itoa := by
  rw [List.take_add_one, h, List.getElem?_eq_getElem hk, List.map_append]
  have := hv.eq
  rw [List.getD_eq_getElem?_getD, List.getElem?_eq_getElem hk] at this
  simp at this
  simp [this]
theorem words_bad {l : List UInt8} {X Y k : Nat} {ws : List (List UInt8)} (hx : First l 120 X) (hy : First l 58 Y) (hw : IsSplit (l.drop (Y + 1)) 32 ws) (h1 : 1 ≤ k) (hk : k < ws.length) (hv : ¬ ∃ v, Word (ws.getD k []) v) : ¬ ∃ r c es, Txt l r c es := by
  rintro ⟨r, c, es, h⟩
  have e := h.words hx hy hw
  subst e
  obtain ⟨j, rfl⟩ : ∃ j, k = j + 1 := ⟨k - 1, by omega⟩
  simp at hk
  refine hv ⟨es[j], ?_⟩
  have : ([] :: es.map Lib.itoa).getD (j + 1) [] = Lib.itoa es[j] := by
    rw [List.getD_eq_getElem?_getD, List.getElem?_cons_succ, List.getElem?_map, List.getElem?_eq_getElem hk]
    rfl
  rw [this]
  exact word_mk rfl (h.2.2.2 _ (List.getElem_mem hk))
theorem words_head {l : List UInt8} {X Y : Nat} {ws : List (List UInt8)} (hx : First l 120 X) (hy : First l 58 Y) (hw : IsSplit (l.drop (Y + 1)) 32 ws) (h0 : ws.getD 0 [] ≠ []) : ¬ ∃ r c es, Txt l r c es := by
  rintro ⟨r, c, es, h⟩
  have e := h.words hx hy hw
  subst e
  exact h0 rfl
theorem words_start {ws : List (List UInt8)} (h : 0 < ws.length) (h0 : ws.getD 0 [] = []) : ws.take 1 = [] :: ([] : List Int).map Lib.itoa := by
  cases ws with
  | nil => simp at h
  | cons w r => simp at h0 ⊢; exact h0
end Prs
/-- Where the specification finds a byte: -1 if it is not there. -/
def Fi (l : List UInt8) (b : UInt8) (x : Int) : Prop := (∃ k : Nat, x = k ∧ Prs.First l b k) ∨ (x = -1 ∧ ∀ k, ¬ Prs.First l b k)
theorem Fi.unique {l : List UInt8} {b : UInt8} {x y : Int} (h : Fi l b x) (h' : Fi l b y) : x = y := by
  rcases h with ⟨k, rfl, hk⟩ | ⟨rfl, hk⟩ <;> rcases h' with ⟨k', rfl, hk'⟩ | ⟨rfl, hk'⟩
  · rw [hk.unique hk']
  · exact absurd hk (hk' k)
  · exact absurd hk' (hk k')
  · rfl
theorem FirstAt.fi {l : List UInt8} {b : UInt8} {e : Ending} (h : FirstAt l b e) : ∃ x, e = .returned (.int .i64 x) ∧ Fi l b x := by
  rcases h with ⟨k, h1, h2, h3, rfl⟩ | ⟨h, rfl⟩
  · exact ⟨k, rfl, .inl ⟨k, rfl, h1, h2, h3⟩⟩
  · exact ⟨-1, rfl, .inr ⟨rfl, fun k hk => h k hk.1 hk.2.1⟩⟩
theorem Fi.exists_ (l : List UInt8) (b : UInt8) : ∃ x, Fi l b x := by
  by_cases h : ∃ k, Prs.First l b k
  · obtain ⟨k, hk⟩ := h; exact ⟨k, .inl ⟨k, rfl, hk⟩⟩
  · exact ⟨-1, .inr ⟨rfl, fun k hk => h ⟨k, hk⟩⟩⟩
theorem find_at (l : List UInt8) (b : UInt8) (x : Int) (w : World) (hl : l.length ≤ 1048576) (h : Fi l b x) : Calls Try.prog 25 #[.string ⟨l.toArray⟩, .int .u8 (b.toNat : Int)] w fun e w' => e = .returned (.int .i64 x) ∧ w = w' :=
  (find_spec l b w hl).mono fun e w' ⟨h1, h2⟩ => by
    obtain ⟨y, h3, h4⟩ := h1.fi
    exact ⟨by rw [h3, h4.unique h], h2⟩
end Go.Proofs.Ytboanggdehceaaa
