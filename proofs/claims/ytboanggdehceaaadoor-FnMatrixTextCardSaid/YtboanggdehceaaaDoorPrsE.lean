/- The texts of matrices, as bytes: what is read off them. No condition but those that each theorem names. -/
import Derived.Test.YtboanggdehceaaaDoorPrsA
namespace Go.Proofs.YtboanggdehceaaaDoor
namespace Prs

def Sm (v : Int) : Prop := v.natAbs < 10000000000000
/-- Numbers, a space ahead of each. -/
def wd (es : List Int) : List UInt8 := es.flatMap fun e => 32 :: Lib.itoa e
theorem wd_nil : wd [] = [] := rfl
theorem wd_cons (e : Int) (es : List Int) : wd (e :: es) = 32 :: (Lib.itoa e ++ wd es) := rfl
theorem wd_snoc (es : List Int) (e : Int) (t : List UInt8) : wd (es ++ [e]) ++ t = wd es ++ 32 :: (Lib.itoa e ++ t) := by simp [wd]
def NonD (t : List UInt8) : Prop := ∀ b, t.head? = some b → ¬ D b
theorem wd_nonD (es : List Int) : NonD (wd es) := by
  intro b hb
  cases es with
  | nil => simp [wd] at hb
  | cons e r => rw [wd_cons] at hb; simp at hb; subst hb; unfold D; simp
theorem cons_nonD {b : UInt8} {t : List UInt8} (h : ¬ D b) : NonD (b :: t) := fun x hx => by simp at hx; subst hx; exact h
/-- The text of a matrix. -/
def Txt (l : List UInt8) (r c : Int) (es : List Int) : Prop := l = Lib.itoa r ++ 120 :: (Lib.itoa c ++ 58 :: wd es) ∧ Sm r ∧ Sm c ∧ ∀ e ∈ es, Sm e
theorem Txt.cut1 {l : List UInt8} {r c : Int} {es : List Int} (h : Txt l r c es) : Cut l r (120 :: (Lib.itoa c ++ 58 :: wd es)) := ⟨h.1, h.2.1, cons_nonD (by unfold D; simp)⟩
theorem Txt.cut2 {l : List UInt8} {r c : Int} {es : List Int} (h : Txt l r c es) : Cut (Lib.itoa c ++ 58 :: wd es) c (58 :: wd es) := ⟨rfl, h.2.2.1, cons_nonD (by unfold D; simp)⟩
/-- What stands behind some of the words are the other words. -/
theorem wd_split : ∀ {es es' : List Int} {t : List UInt8}, (es ≠ [] → NonD t) → (∀ e ∈ es, Sm e) → (∀ e ∈ es', Sm e) → wd es' = wd es ++ t → ∃ es2, es' = es ++ es2 ∧ t = wd es2
  | [], es', t, _, _, _, h => ⟨es', rfl, h.symm⟩
  | e :: es, [], t, _, _, _, h => by rw [wd_cons] at h; cases h
  | e :: es, e' :: es', t, ht, h1, h2, h => by
    rw [wd_cons, wd_cons, List.cons_append, List.append_assoc] at h
    injection h with _ h
    have hn : NonD (wd es ++ t) := by
      cases es with
      | nil => exact ht (by simp)
      | cons x r => rw [wd_cons]; exact cons_nonD (by unfold D; simp)
    have c1 : Cut (Lib.itoa e' ++ wd es') e' (wd es') := ⟨rfl, h2 e' (by simp), wd_nonD es'⟩
    have c2 : Cut (Lib.itoa e' ++ wd es') e (wd es ++ t) := ⟨h, h1 e (by simp), hn⟩
    obtain ⟨rfl, h3⟩ := c1.unique c2
    obtain ⟨es2, rfl, h4⟩ := wd_split (es := es) (es' := es') (t := t) (fun hne => by
      exact ht (by simp)) (fun x hx => h1 x (by simp [hx])) (fun x hx => h2 x (by simp [hx])) h3
    exact ⟨es2, rfl, h4⟩
theorem Txt.unique {l : List UInt8} {r c r' c' : Int} {es es' : List Int} (h : Txt l r c es) (h' : Txt l r' c' es') : r = r' ∧ c = c' ∧ es = es' := by
  obtain ⟨rfl, e1⟩ := h.cut1.unique h'.cut1
  injection e1 with _ e1
  have q := h.cut2
  rw [e1] at q
  obtain ⟨rfl, e2⟩ := q.unique h'.cut2
  injection e2 with _ e2
  obtain ⟨es2, e3, e4⟩ := wd_split (es := es) (es' := es') (t := []) (fun _ b hb => by simp at hb) h.2.2.2 h'.2.2.2 (by rw [List.append_nil]; exact e2.symm)
  cases es2 with
  | nil => rw [List.append_nil] at e3; exact ⟨rfl, rfl, e3.symm⟩
  | cons x y => rw [wd_cons] at e4; cases e4
theorem wd_len (es : List Int) : 2 * es.length ≤ (wd es).length := by
  induction es with
  | nil => simp [wd]
  | cons e r ih =>
    have : 0 < (Lib.itoa e).length := by
      rcases itoa_cases e with ⟨_, h⟩ | ⟨_, h⟩
      · rw [h]; simp
      · rw [h]; exact (dec_at _).1
    rw [wd_cons]
    simp
    omega
/-- How far a text has been read. -/
structure Read (l : List UInt8) (r c : Int) (es : List Int) (t : List UInt8) : Prop where
  eq : l = Lib.itoa r ++ 120 :: (Lib.itoa c ++ 58 :: (wd es ++ t))
  sr : Sm r
  sc : Sm c
  se : ∀ e ∈ es, Sm e
  nd : es ≠ [] → NonD t
theorem Read.fin {l : List UInt8} {r c : Int} {es : List Int} (h : Read l r c es []) : Txt l r c es := ⟨by have := h.eq; rwa [List.append_nil] at this, h.sr, h.sc, h.se⟩
theorem Read.more {l : List UInt8} {r c e : Int} {es : List Int} {t rest : List UInt8} (h : Read l r c es (32 :: t)) (hc : Cut t e rest) : Read l r c (es ++ [e]) rest := by
  refine ⟨?_, h.sr, h.sc, fun x hx => ?_, fun _ => hc.2.2⟩
  · rw [wd_snoc, h.eq, hc.1]
  · rcases List.mem_append.1 hx with hx | hx
    · exact h.se x hx
    · simp at hx; subst hx; exact hc.2.1
/-- Whatever matrix the text is one of, its words go on with the rest. -/
theorem Read.rest {l : List UInt8} {r c : Int} {es : List Int} {t : List UInt8} (h : Read l r c es t) {r' c' : Int} {es' : List Int} (h' : Txt l r' c' es') : ∃ es2, es' = es ++ es2 ∧ t = wd es2 ∧ ∀ e ∈ es2, Sm e := by
  have c1 : Cut l r (120 :: (Lib.itoa c ++ 58 :: (wd es ++ t))) := ⟨h.eq, h.sr, cons_nonD (by unfold D; simp)⟩
  obtain ⟨rfl, e1⟩ := c1.unique h'.cut1
  injection e1 with _ e1
  have c2 : Cut (Lib.itoa c ++ 58 :: (wd es ++ t)) c (58 :: (wd es ++ t)) := ⟨rfl, h.sc, cons_nonD (by unfold D; simp)⟩
  rw [e1] at c2
  obtain ⟨rfl, e2⟩ := c2.unique h'.cut2
  injection e2 with _ e2
  obtain ⟨es2, e3, e4⟩ := wd_split h.nd h.se h'.2.2.2 e2.symm
  exact ⟨es2, e3, e4, fun e he => h'.2.2.2 e (by rw [e3]; simp [he])⟩
theorem Read.bad_head {l : List UInt8} {r c : Int} {es : List Int} {x : UInt8} {t : List UInt8} (h : Read l r c es (x :: t)) (hx : x ≠ 32) : ¬ ∃ r c es, Txt l r c es := by
  rintro ⟨r', c', es', h'⟩
  obtain ⟨es2, _, e, _⟩ := h.rest h'
  cases es2 with
  | nil => cases e
  | cons y z => rw [wd_cons] at e; injection e with e _; exact hx e
theorem Read.bad_cut {l : List UInt8} {r c : Int} {es : List Int} {t : List UInt8} (h : Read l r c es (32 :: t)) (hx : ¬ ∃ v rest, Cut t v rest) : ¬ ∃ r c es, Txt l r c es := by
  rintro ⟨r', c', es', h'⟩
  obtain ⟨es2, _, e, hs⟩ := h.rest h'
  cases es2 with
  | nil => cases e
  | cons y z =>
    rw [wd_cons] at e
    injection e with _ e
    exact hx ⟨y, wd z, e, hs y (by simp), wd_nonD z⟩
theorem Read.len {l : List UInt8} {r c : Int} {es : List Int} {t : List UInt8} (h : Read l r c es t) : 2 * es.length + t.length ≤ l.length := by
  have h1 := congrArg List.length h.eq
  have h2 := wd_len es
  simp at h1
  omega
/-- The ways in which the beginning is no matrix's. -/
theorem no_first {l : List UInt8} (h : ¬ ∃ v rest, Cut l v rest) : ¬ ∃ r c es, Txt l r c es := fun ⟨_, _, _, h'⟩ => h ⟨_, _, h'.cut1⟩
theorem no_x {l : List UInt8} {v : Int} {rest : List UInt8} (h : Cut l v rest) (hx : (rest.head? == some 120) = false) : ¬ ∃ r c es, Txt l r c es := by
  rintro ⟨r, c, es, h'⟩
  obtain ⟨_, rfl⟩ := h.unique h'.cut1
  simp at hx
theorem no_second {l : List UInt8} {v : Int} {t : List UInt8} (h : Cut l v (120 :: t)) (hx : ¬ ∃ v rest, Cut t v rest) : ¬ ∃ r c es, Txt l r c es := by
  rintro ⟨r, c, es, h'⟩
  obtain ⟨_, e⟩ := h.unique h'.cut1
  injection e with _ e
  exact hx ⟨c, _, by rw [e]; exact h'.cut2⟩
theorem no_colon {l : List UInt8} {v u : Int} {t rest : List UInt8} (h : Cut l v (120 :: t)) (h2 : Cut t u rest) (hx : (rest.head? == some 58) = false) : ¬ ∃ r c es, Txt l r c es := by
  rintro ⟨r, c, es, h'⟩
  obtain ⟨_, e⟩ := h.unique h'.cut1
  injection e with _ e
  rw [e] at h2
  obtain ⟨_, rfl⟩ := h2.unique h'.cut2
  simp at hx
theorem begun {l : List UInt8} {v u : Int} {t t2 : List UInt8} (h : Cut l v (120 :: t)) (h2 : Cut t u (58 :: t2)) : Read l v u [] t2 :=
  ⟨by rw [h.1, h2.1]; rfl, h.2.1, h2.2.1, fun e he => by simp at he, fun hh => absurd rfl hh⟩
end Prs
end Go.Proofs.YtboanggdehceaaaDoor
