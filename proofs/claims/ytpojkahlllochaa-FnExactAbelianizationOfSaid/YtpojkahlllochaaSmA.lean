/- The reduction of the Smith normal form as a function on lists: its steps, its rounds, that they end, and what they keep. No condition but those that each theorem names. -/
namespace Go.Proofs.Ytpojkahlllochaa.Sm

/-- Every number of the list lies within the limit of an entry. -/
def Win (l : List Int) : Prop := ∀ i, -1000000000000 ≤ l.getD i 0 ∧ l.getD i 0 ≤ 1000000000000

theorem getD_set (l : List Int) (i j : Nat) (x : Int) : (l.set i x).getD j 0 = if i = j ∧ i < l.length then x else l.getD j 0 := by
  simp only [List.getD_eq_getElem?_getD, List.getElem?_set]
  by_cases h : i = j
  · subst h
    by_cases h2 : i < l.length
    · simp [h2]
    · simp [h2]
  · simp [h]
theorem getD_same {l : List Int} {i : Nat} (x : Int) (h : i < l.length) : (l.set i x).getD i 0 = x := by rw [getD_set, if_pos ⟨rfl, h⟩]
theorem getD_far {l : List Int} {i j : Nat} (x : Int) (h : i ≠ j) : (l.set i x).getD j 0 = l.getD j 0 := by rw [getD_set, if_neg (fun g => h g.1)]
theorem Win.set {l : List Int} (h : Win l) (i : Nat) {x : Int} (h1 : -1000000000000 ≤ x) (h2 : x ≤ 1000000000000) : Win (l.set i x) := fun j => by
  rw [getD_set]
  split
  · exact ⟨h1, h2⟩
  · exact h j

/-- Two lines of n entries are exchanged: those from oa on and those from ob on, s places apart. -/
def exch (oa ob s : Nat) (l : List Int) : Nat → List Int
  | 0 => l
  | t + 1 => ((exch oa ob s l t).set (oa + t * s) ((exch oa ob s l t).getD (ob + t * s) 0)).set (ob + t * s) ((exch oa ob s l t).getD (oa + t * s) 0)
theorem exch_len (oa ob s : Nat) (l : List Int) (t : Nat) : (exch oa ob s l t).length = l.length := by
  induction t with
  | zero => rfl
  | succ t ih => simp [exch, ih]
theorem exch_win {oa ob s : Nat} {l : List Int} (h : Win l) (t : Nat) : Win (exch oa ob s l t) := by
  induction t with
  | zero => exact h
  | succ t ih => exact (ih.set _ (ih _).1 (ih _).2).set _ (ih _).1 (ih _).2
theorem set_getD_self (l : List Int) (i : Nat) : l.set i (l.getD i 0) = l := by
  apply List.ext_getElem
  · simp
  · intro j h1 h2
    rw [List.getElem_set]
    split
    · rename_i h; subst h; simp [List.getElem?_eq_getElem h2]
    · rfl
theorem exch_self (o s : Nat) (l : List Int) (t : Nat) : exch o o s l t = l := by
  induction t with
  | zero => rfl
  | succ t ih => rw [exch, ih, set_getD_self, set_getD_self]
theorem exch_comm (oa ob s : Nat) (l : List Int) (t : Nat) : exch oa ob s l t = exch ob oa s l t := by
  induction t with
  | zero => rfl
  | succ t ih =>
    rw [exch, exch, ih]
    by_cases h : oa = ob
    · subst h; rfl
    · exact List.set_comm _ _ (by omega)
theorem exch_far {oa ob s : Nat} (l : List Int) {t i : Nat} (ha : ∀ k, k < t → i ≠ oa + k * s) (hb : ∀ k, k < t → i ≠ ob + k * s) : (exch oa ob s l t).getD i 0 = l.getD i 0 := by
  induction t with
  | zero => rfl
  | succ t ih =>
    rw [exch, getD_far _ (Ne.symm (hb t (by omega))), getD_far _ (Ne.symm (ha t (by omega)))]
    exact ih (fun k hk => ha k (by omega)) (fun k hk => hb k (by omega))
/-- The places oa + k s and ob + k s, k below n, are all different, and within the list. -/
structure Lines (oa ob s n len : Nat) : Prop where
  pos : 0 < s
  ne : ∀ t k, t < n → k < n → oa + t * s ≠ ob + k * s
  la : ∀ k, k < n → oa + k * s < len
  lb : ∀ k, k < n → ob + k * s < len
theorem mul_ne {s t k : Nat} (hs : 0 < s) (h : t ≠ k) : t * s ≠ k * s := fun e => h (Nat.eq_of_mul_eq_mul_right hs e)
theorem exch_at {oa ob s n : Nat} {l : List Int} (H : Lines oa ob s n l.length) {t k : Nat} (ht : t ≤ n) (hk : k < t) :
    (exch oa ob s l t).getD (oa + k * s) 0 = l.getD (ob + k * s) 0 ∧ (exch oa ob s l t).getD (ob + k * s) 0 = l.getD (oa + k * s) 0 := by
  induction t with
  | zero => omega
  | succ t ih =>
    by_cases e : k = t
    · subst e
      have e1 := exch_far (oa := oa) (ob := ob) (s := s) l (t := k) (i := oa + k * s) (fun j hj => by have := mul_ne H.pos (show k ≠ j by omega); omega) (fun j hj => H.ne _ _ (by omega) (by omega))
      have e2 := exch_far (oa := oa) (ob := ob) (s := s) l (t := k) (i := ob + k * s) (fun j hj => Ne.symm (H.ne _ _ (by omega) (by omega))) (fun j hj => by have := mul_ne H.pos (show k ≠ j by omega); omega)
      have n1 := H.ne k k (by omega) (by omega)
      constructor
      · rw [exch, getD_far _ (Ne.symm n1), getD_same _ (by rw [exch_len]; exact H.la k (by omega)), e2]
      · rw [exch, getD_same _ (by rw [List.length_set, exch_len]; exact H.lb k (by omega)), e1]
    · have m := mul_ne H.pos (show t ≠ k by omega)
      obtain ⟨i1, i2⟩ := ih (by omega) (by omega)
      have n1 := H.ne t k (by omega) (by omega)
      have n2 := H.ne k t (by omega) (by omega)
      constructor
      · rw [exch, getD_far _ (Ne.symm n2), getD_far _ (by omega), i1]
      · rw [exch, getD_far _ (by omega), getD_far _ n1, i2]

/-- A line's signs are changed. -/
def negl (o s : Nat) (l : List Int) : Nat → List Int
  | 0 => l
  | t + 1 => (negl o s l t).set (o + t * s) (-((negl o s l t).getD (o + t * s) 0))
theorem negl_len (o s : Nat) (l : List Int) (t : Nat) : (negl o s l t).length = l.length := by
  induction t with
  | zero => rfl
  | succ t ih => simp [negl, ih]
theorem negl_win {o s : Nat} {l : List Int} (h : Win l) (t : Nat) : Win (negl o s l t) := by
  induction t with
  | zero => exact h
  | succ t ih =>
    have := ih (o + t * s)
    exact ih.set _ (by omega) (by omega)
theorem negl_far {o s : Nat} (l : List Int) {t i : Nat} (ha : ∀ k, k < t → i ≠ o + k * s) : (negl o s l t).getD i 0 = l.getD i 0 := by
  induction t with
  | zero => rfl
  | succ t ih =>
    rw [negl, getD_far _ (Ne.symm (ha t (by omega)))]
    exact ih (fun k hk => ha k (by omega))
theorem negl_at {o s n : Nat} {l : List Int} (hs : 0 < s) (hl : ∀ k, k < n → o + k * s < l.length) {t k : Nat} (ht : t ≤ n) (hk : k < t) : (negl o s l t).getD (o + k * s) 0 = -(l.getD (o + k * s) 0) := by
  induction t with
  | zero => omega
  | succ t ih =>
    by_cases e : k = t
    · subst e
      rw [negl, getD_same _ (by rw [negl_len]; exact hl k (by omega))]
      rw [negl_far l (fun j hj => by have := mul_ne hs (show k ≠ j by omega); omega)]
    · have m := mul_ne hs (show t ≠ k by omega)
      rw [negl, getD_far _ (by omega)]
      exact ih (by omega) (by omega)

/-- A line times q is subtracted from another; none where an entry leaves the limit. -/
def subl (ot os s : Nat) (q : Int) (l : List Int) : Nat → Option (List Int)
  | 0 => some l
  | t + 1 => match subl ot os s q l t with
    | none => none
    | some m => if -1000000000000 ≤ m.getD (ot + t * s) 0 - q * m.getD (os + t * s) 0 ∧ m.getD (ot + t * s) 0 - q * m.getD (os + t * s) 0 ≤ 1000000000000 then some (m.set (ot + t * s) (m.getD (ot + t * s) 0 - q * m.getD (os + t * s) 0)) else none
theorem subl_some {ot os s : Nat} {q : Int} {l m : List Int} {t : Nat} (h : subl ot os s q l (t + 1) = some m) :
    ∃ m0, subl ot os s q l t = some m0 ∧ -1000000000000 ≤ m0.getD (ot + t * s) 0 - q * m0.getD (os + t * s) 0 ∧ m0.getD (ot + t * s) 0 - q * m0.getD (os + t * s) 0 ≤ 1000000000000 ∧ m = m0.set (ot + t * s) (m0.getD (ot + t * s) 0 - q * m0.getD (os + t * s) 0) := by
  rw [subl] at h
  split at h
  · cases h
  · rename_i m0 e
    split at h
    · rename_i c
      cases h
      exact ⟨m0, e, c.1, c.2, rfl⟩
    · cases h
theorem subl_len {ot os s : Nat} {q : Int} {l m : List Int} {t : Nat} (h : subl ot os s q l t = some m) : m.length = l.length := by
  induction t generalizing m with
  | zero => cases h; rfl
  | succ t ih =>
    obtain ⟨m0, e, _, _, rfl⟩ := subl_some h
    simp [ih e]
theorem subl_win {ot os s : Nat} {q : Int} {l m : List Int} {t : Nat} (hl : Win l) (h : subl ot os s q l t = some m) : Win m := by
  induction t generalizing m with
  | zero => cases h; exact hl
  | succ t ih =>
    obtain ⟨m0, e, h1, h2, rfl⟩ := subl_some h
    exact (ih e).set _ h1 h2
theorem subl_far {ot os s : Nat} {q : Int} {l m : List Int} {t i : Nat} (h : subl ot os s q l t = some m) (hi : ∀ k, k < t → i ≠ ot + k * s) : m.getD i 0 = l.getD i 0 := by
  induction t generalizing m with
  | zero => cases h; rfl
  | succ t ih =>
    obtain ⟨m0, e, _, _, rfl⟩ := subl_some h
    rw [getD_far _ (Ne.symm (hi t (by omega)))]
    exact ih e (fun k hk => hi k (by omega))
theorem subl_at {ot os s n : Nat} {q : Int} {l m : List Int} (H : Lines ot os s n l.length) {t k : Nat} (h : subl ot os s q l t = some m) (ht : t ≤ n) (hk : k < t) : m.getD (ot + k * s) 0 = l.getD (ot + k * s) 0 - q * l.getD (os + k * s) 0 := by
  induction t generalizing m with
  | zero => omega
  | succ t ih =>
    obtain ⟨m0, e, _, _, rfl⟩ := subl_some h
    by_cases ek : k = t
    · subst ek
      rw [getD_same _ (by rw [subl_len e]; exact H.la k (by omega))]
      rw [subl_far e (fun j hj => by have := mul_ne H.pos (show k ≠ j by omega); omega), subl_far e (fun j hj => Ne.symm (H.ne _ _ (by omega) (by omega)))]
    · have m := mul_ne H.pos (show t ≠ k by omega)
      rw [getD_far _ (by omega)]
      exact ih e (by omega) (by omega)

theorem ij_inj {C i j i' j' : Nat} (h : i * C + j = i' * C + j') (hj : j < C) (hj' : j' < C) : i = i' ∧ j = j' := by
  have h1 : (i * C + j) / C = i := by rw [Nat.add_comm, Nat.add_mul_div_right _ _ (by omega), Nat.div_eq_of_lt hj, Nat.zero_add]
  have h2 : (i' * C + j') / C = i' := by rw [Nat.add_comm, Nat.add_mul_div_right _ _ (by omega), Nat.div_eq_of_lt hj', Nat.zero_add]
  have e : i = i' := by rw [← h1, h, h2]
  subst e
  exact ⟨rfl, by omega⟩
theorem ij_lt' {R C i j : Nat} (hi : i < R) (hj : j < C) : i * C + j < R * C := by
  have h1 : (i + 1) * C ≤ R * C := Nat.mul_le_mul_right C hi
  rw [Nat.add_mul] at h1
  omega
theorem rows_lines {R C a b len : Nat} (ha : a < R) (hb : b < R) (hab : a ≠ b) (hl : len = R * C) : Lines (a * C) (b * C) 1 C len where
  pos := by omega
  ne t k ht hk e := by
    rw [Nat.mul_one, Nat.mul_one] at e
    exact hab (ij_inj e ht hk).1
  la k hk := by rw [Nat.mul_one, hl]; exact ij_lt' ha hk
  lb k hk := by rw [Nat.mul_one, hl]; exact ij_lt' hb hk
theorem cols_lines {R C a b len : Nat} (ha : a < C) (hb : b < C) (hab : a ≠ b) (hl : len = R * C) : Lines a b C R len where
  pos := by omega
  ne t k ht hk e := by
    rw [Nat.add_comm a, Nat.add_comm b] at e
    exact hab (ij_inj e ha hb).2
  la k hk := by rw [Nat.add_comm, hl]; exact ij_lt' hk ha
  lb k hk := by rw [Nat.add_comm, hl]; exact ij_lt' hk hb

/-- An entry of a matrix with C columns. -/
def ent (C : Nat) (d : List Int) (i j : Nat) : Int := d.getD (i * C + j) 0

section
variable {R C a b k : Nat} {l m : List Int} (hl : l.length = R * C)
include hl
theorem ent_exR_a (ha : a < R) (hb : b < R) {j : Nat} (hj : j < C) : ent C (exch (a * C) (b * C) 1 l C) a j = ent C l b j := by
  unfold ent
  by_cases e : a = b
  · subst e; rw [exch_self]
  · have := (exch_at (rows_lines ha hb e hl) (Nat.le_refl C) hj).1
    simpa using this
theorem ent_exR_b (ha : a < R) (hb : b < R) {j : Nat} (hj : j < C) : ent C (exch (a * C) (b * C) 1 l C) b j = ent C l a j := by
  rw [exch_comm]; exact ent_exR_a hl hb ha hj
omit hl in
theorem ent_exR_far {i j : Nat} (hj : j < C) (h1 : i ≠ a) (h2 : i ≠ b) : ent C (exch (a * C) (b * C) 1 l C) i j = ent C l i j := by
  unfold ent
  exact exch_far l (fun k hk e => h1 (ij_inj (by simpa using e) hj hk).1) (fun k hk e => h2 (ij_inj (by simpa using e) hj hk).1)
theorem ent_exC_a (ha : a < C) (hb : b < C) {i : Nat} (hi : i < R) : ent C (exch a b C l R) i a = ent C l i b := by
  unfold ent
  by_cases e : a = b
  · subst e; rw [exch_self]
  · have := (exch_at (cols_lines ha hb e hl) (Nat.le_refl R) hi).1
    rwa [Nat.add_comm, Nat.add_comm b] at this
theorem ent_exC_b (ha : a < C) (hb : b < C) {i : Nat} (hi : i < R) : ent C (exch a b C l R) i b = ent C l i a := by
  rw [exch_comm]; exact ent_exC_a hl hb ha hi
omit hl in
theorem ent_exC_far {i j : Nat} (ha : a < C) (hb : b < C) (hj : j < C) (h1 : j ≠ a) (h2 : j ≠ b) : ent C (exch a b C l R) i j = ent C l i j := by
  unfold ent
  exact exch_far l (fun k hk e => h1 (ij_inj (by rw [e]; omega : i * C + j = k * C + a) hj ha).2) (fun k hk e => h2 (ij_inj (by rw [e]; omega : i * C + j = k * C + b) hj hb).2)
theorem ent_neR (ha : a < R) {j : Nat} (hj : j < C) : ent C (negl (a * C) 1 l C) a j = -(ent C l a j) := by
  unfold ent
  have := negl_at (o := a * C) (l := l) (n := C) (s := 1) (by omega) (fun k hk => by rw [Nat.mul_one, hl]; exact ij_lt' ha hk) (Nat.le_refl C) hj
  simpa using this
omit hl in
theorem ent_neR_far {i j : Nat} (hj : j < C) (h1 : i ≠ a) : ent C (negl (a * C) 1 l C) i j = ent C l i j := by
  unfold ent
  exact negl_far l (fun k hk e => h1 (ij_inj (by simpa using e) hj hk).1)
theorem ent_suR {q : Int} (ha : a < R) (hb : b < R) (hab : a ≠ b) (h : subl (a * C) (b * C) 1 q l C = some m) {j : Nat} (hj : j < C) : ent C m a j = ent C l a j - q * ent C l b j := by
  unfold ent
  have := subl_at (rows_lines ha hb hab hl) h (Nat.le_refl C) hj
  simpa using this
omit hl in
theorem ent_suR_far {q : Int} (h : subl (a * C) (b * C) 1 q l C = some m) {i j : Nat} (hj : j < C) (h1 : i ≠ a) : ent C m i j = ent C l i j := by
  unfold ent
  exact subl_far h (fun k hk e => h1 (ij_inj (by simpa using e) hj hk).1)
theorem ent_suC {q : Int} (ha : a < C) (hb : b < C) (hab : a ≠ b) (h : subl a b C q l R = some m) {i : Nat} (hi : i < R) : ent C m i a = ent C l i a - q * ent C l i b := by
  unfold ent
  have := subl_at (cols_lines ha hb hab hl) h (Nat.le_refl R) hi
  rwa [Nat.add_comm, Nat.add_comm b] at this
omit hl in
theorem ent_suC_far {q : Int} (ha : a < C) (h : subl a b C q l R = some m) {i j : Nat} (hj : j < C) (h1 : j ≠ a) : ent C m i j = ent C l i j := by
  unfold ent
  exact subl_far h (fun k hk e => h1 (ij_inj (by rw [e]; omega : i * C + j = k * C + a) hj ha).2)
end

/-- The five lists of a reduction in progress: l and li have R rows and columns, d has R rows and C columns, r and ri have C rows and columns. -/
structure St where
  l : List Int
  li : List Int
  d : List Int
  r : List Int
  ri : List Int

structure Good (R C : Nat) (s : St) : Prop where
  nl : s.l.length = R * R
  nli : s.li.length = R * R
  nd : s.d.length = R * C
  nr : s.r.length = C * C
  nri : s.ri.length = C * C
  wl : Win s.l
  wli : Win s.li
  wd : Win s.d
  wr : Win s.r
  wri : Win s.ri

def rowEx (R C a b : Nat) (s : St) : St := { s with l := exch (a * R) (b * R) 1 s.l R, li := exch a b R s.li R, d := exch (a * C) (b * C) 1 s.d C }
def colEx (R C a b : Nat) (s : St) : St := { s with d := exch a b C s.d R, r := exch a b C s.r C, ri := exch (a * C) (b * C) 1 s.ri C }
def rowNeg (R C k : Nat) (s : St) : St := { s with l := negl (k * R) 1 s.l R, li := negl k R s.li R, d := negl (k * C) 1 s.d C }
/-- Row k times q is subtracted from row i. -/
def rowSub (R C i k : Nat) (q : Int) (s : St) : Option St :=
  if q = 0 then some s else
  match subl (i * C) (k * C) 1 q s.d C, subl (i * R) (k * R) 1 q s.l R, subl k i R (-q) s.li R with
  | some d, some l, some li => some { s with d := d, l := l, li := li }
  | _, _, _ => none
/-- Column k times q is subtracted from column j. -/
def colSub (R C j k : Nat) (q : Int) (s : St) : Option St :=
  if q = 0 then some s else
  match subl j k C q s.d R, subl j k C q s.r C, subl (k * C) (j * C) 1 (-q) s.ri C with
  | some d, some r, some ri => some { s with d := d, r := r, ri := ri }
  | _, _, _ => none

theorem Good.rowEx {R C a b : Nat} {s : St} (h : Good R C s) : Good R C (rowEx R C a b s) :=
  ⟨by simp [Sm.rowEx, exch_len, h.nl], by simp [Sm.rowEx, exch_len, h.nli], by simp [Sm.rowEx, exch_len, h.nd], h.nr, h.nri, exch_win h.wl _, exch_win h.wli _, exch_win h.wd _, h.wr, h.wri⟩
theorem Good.colEx {R C a b : Nat} {s : St} (h : Good R C s) : Good R C (colEx R C a b s) :=
  ⟨h.nl, h.nli, by simp [Sm.colEx, exch_len, h.nd], by simp [Sm.colEx, exch_len, h.nr], by simp [Sm.colEx, exch_len, h.nri], h.wl, h.wli, exch_win h.wd _, exch_win h.wr _, exch_win h.wri _⟩
theorem Good.rowNeg {R C k : Nat} {s : St} (h : Good R C s) : Good R C (rowNeg R C k s) :=
  ⟨by simp [Sm.rowNeg, negl_len, h.nl], by simp [Sm.rowNeg, negl_len, h.nli], by simp [Sm.rowNeg, negl_len, h.nd], h.nr, h.nri, negl_win h.wl _, negl_win h.wli _, negl_win h.wd _, h.wr, h.wri⟩
theorem rowSub_some {R C i k : Nat} {q : Int} {s s' : St} (h : rowSub R C i k q s = some s') (hq : q ≠ 0) :
    ∃ d l li, subl (i * C) (k * C) 1 q s.d C = some d ∧ subl (i * R) (k * R) 1 q s.l R = some l ∧ subl k i R (-q) s.li R = some li ∧ s' = { s with d := d, l := l, li := li } := by
  rw [rowSub, if_neg hq] at h
  split at h
  · rename_i d l li e1 e2 e3
    cases h
    exact ⟨d, l, li, e1, e2, e3, rfl⟩
  · cases h
theorem colSub_some {R C j k : Nat} {q : Int} {s s' : St} (h : colSub R C j k q s = some s') (hq : q ≠ 0) :
    ∃ d r ri, subl j k C q s.d R = some d ∧ subl j k C q s.r C = some r ∧ subl (k * C) (j * C) 1 (-q) s.ri C = some ri ∧ s' = { s with d := d, r := r, ri := ri } := by
  rw [colSub, if_neg hq] at h
  split at h
  · rename_i d r ri e1 e2 e3
    cases h
    exact ⟨d, r, ri, e1, e2, e3, rfl⟩
  · cases h
theorem Good.rowSub {R C i k : Nat} {q : Int} {s s' : St} (h : Good R C s) (hs : rowSub R C i k q s = some s') : Good R C s' := by
  by_cases hq : q = 0
  · rw [Sm.rowSub, if_pos hq] at hs; cases hs; exact h
  · obtain ⟨d, l, li, e1, e2, e3, rfl⟩ := rowSub_some hs hq
    exact ⟨(subl_len e2).trans h.nl, (subl_len e3).trans h.nli, (subl_len e1).trans h.nd, h.nr, h.nri, subl_win h.wl e2, subl_win h.wli e3, subl_win h.wd e1, h.wr, h.wri⟩
theorem Good.colSub {R C j k : Nat} {q : Int} {s s' : St} (h : Good R C s) (hs : colSub R C j k q s = some s') : Good R C s' := by
  by_cases hq : q = 0
  · rw [Sm.colSub, if_pos hq] at hs; cases hs; exact h
  · obtain ⟨d, r, ri, e1, e2, e3, rfl⟩ := colSub_some hs hq
    exact ⟨h.nl, h.nli, (subl_len e1).trans h.nd, (subl_len e2).trans h.nr, (subl_len e3).trans h.nri, h.wl, h.wli, subl_win h.wd e1, subl_win h.wr e2, subl_win h.wri e3⟩

/-- x / y, rounded down, for a positive y. -/
def fq (x y : Int) : Int := if x.tmod y < 0 then x.tdiv y - 1 else x.tdiv y
theorem fq_rem {x y : Int} (h : 0 < y) : 0 ≤ x - fq x y * y ∧ x - fq x y * y < y := by
  have h1 := Int.mul_tdiv_add_tmod x y
  have h2 := Int.tmod_lt_of_pos x h
  have h3 : -y < x.tmod y := by
    have := Int.tmod_lt_of_pos (-x) h
    rw [Int.neg_tmod] at this
    omega
  unfold fq
  rw [Int.mul_comm] at h1
  split
  · rw [Int.sub_mul, Int.one_mul]; omega
  · omega

theorem fq_bound {x y : Int} (h : 0 < y) (h1 : -1000000000000 ≤ x) (h2 : x ≤ 1000000000000) : -1000000000001 ≤ fq x y ∧ fq x y ≤ 1000000000000 := by
  obtain ⟨a, b⟩ := fq_rem (x := x) h
  constructor
  · by_cases g : -1000000000001 ≤ fq x y
    · exact g
    · exfalso
      have : fq x y * y ≤ fq x y * 1 := Int.mul_le_mul_of_nonpos_left (by omega) (by omega)
      have h3 : fq x y * y ≤ -1000000000002 * 1 := by omega
      have : (fq x y + 1) * y ≤ (fq x y + 1) * 1 := Int.mul_le_mul_of_nonpos_left (by omega) (by omega)
      rw [Int.add_mul] at this
      omega
  · by_cases g : fq x y ≤ 0
    · omega
    · have : fq x y * 1 ≤ fq x y * y := Int.mul_le_mul_of_nonneg_left (by omega) (by omega)
      omega

/-- The steps on the rows below k: the first n of them. -/
def rowsFrom (R C k : Nat) (s : St) : Nat → Option St
  | 0 => some s
  | n + 1 => match rowsFrom R C k s n with
    | none => none
    | some t => rowSub R C (k + 1 + n) k (fq (ent C t.d (k + 1 + n) k) (ent C t.d k k)) t
def colsFrom (R C k : Nat) (s : St) : Nat → Option St
  | 0 => some s
  | n + 1 => match colsFrom R C k s n with
    | none => none
    | some t => colSub R C (k + 1 + n) k (fq (ent C t.d k (k + 1 + n)) (ent C t.d k k)) t
theorem rowsFrom_some {R C k n : Nat} {s s' : St} (h : rowsFrom R C k s (n + 1) = some s') : ∃ t, rowsFrom R C k s n = some t ∧ rowSub R C (k + 1 + n) k (fq (ent C t.d (k + 1 + n) k) (ent C t.d k k)) t = some s' := by
  rw [rowsFrom] at h
  split at h
  · cases h
  · rename_i t e; exact ⟨t, e, h⟩
theorem colsFrom_some {R C k n : Nat} {s s' : St} (h : colsFrom R C k s (n + 1) = some s') : ∃ t, colsFrom R C k s n = some t ∧ colSub R C (k + 1 + n) k (fq (ent C t.d k (k + 1 + n)) (ent C t.d k k)) t = some s' := by
  rw [colsFrom] at h
  split at h
  · cases h
  · rename_i t e; exact ⟨t, e, h⟩
theorem Good.rowsFrom {R C k n : Nat} {s s' : St} (h : Good R C s) (hs : rowsFrom R C k s n = some s') : Good R C s' := by
  induction n generalizing s' with
  | zero => cases hs; exact h
  | succ n ih => obtain ⟨t, e, e2⟩ := rowsFrom_some hs; exact (ih e).rowSub e2
theorem Good.colsFrom {R C k n : Nat} {s s' : St} (h : Good R C s) (hs : colsFrom R C k s n = some s') : Good R C s' := by
  induction n generalizing s' with
  | zero => cases hs; exact h
  | succ n ih => obtain ⟨t, e, e2⟩ := colsFrom_some hs; exact (ih e).colSub e2

/-- One entry of d behind a step. -/
theorem rowSub_ent {R C i k : Nat} {q : Int} {s s' : St} (g : Good R C s) (h : rowSub R C i k q s = some s') (hi : i < R) (hk : k < R) (hik : i ≠ k) {a j : Nat} (hj : j < C) :
    ent C s'.d a j = if a = i then ent C s.d i j - q * ent C s.d k j else ent C s.d a j := by
  by_cases hq : q = 0
  · rw [rowSub, if_pos hq] at h; cases h; subst hq
    split
    · rename_i e; subst e; simp
    · rfl
  · obtain ⟨d, l, li, e1, e2, e3, rfl⟩ := rowSub_some h hq
    split
    · rename_i e; subst e; exact ent_suR g.nd hi hk hik e1 hj
    · rename_i e; exact ent_suR_far e1 hj e
theorem colSub_ent {R C j k : Nat} {q : Int} {s s' : St} (g : Good R C s) (h : colSub R C j k q s = some s') (hj : j < C) (hk : k < C) (hjk : j ≠ k) {a b : Nat} (ha : a < R) (hb : b < C) :
    ent C s'.d a b = if b = j then ent C s.d a j - q * ent C s.d a k else ent C s.d a b := by
  by_cases hq : q = 0
  · rw [colSub, if_pos hq] at h; cases h; subst hq
    split
    · rename_i e; subst e; simp
    · rfl
  · obtain ⟨d, l, li, e1, e2, e3, rfl⟩ := colSub_some h hq
    split
    · rename_i e; subst e; exact ent_suC g.nd hj hk hjk e1 ha
    · rename_i e; exact ent_suC_far hj e1 hb e

theorem rowsFrom_ent {R C k n : Nat} {s s' : St} (g : Good R C s) (h : rowsFrom R C k s n = some s') (hk : k < R) (hkc : k < C) (hn : k + 1 + n ≤ R) (hp : 0 < ent C s.d k k) :
    ent C s'.d k k = ent C s.d k k ∧ (∀ j, j < C → ∀ i, i ≤ k → ent C s'.d i j = ent C s.d i j) ∧ (∀ i, k < i → i < k + 1 + n → 0 ≤ ent C s'.d i k ∧ ent C s'.d i k < ent C s.d k k) ∧
      (∀ i, k + 1 + n ≤ i → ∀ j, j < C → ent C s'.d i j = ent C s.d i j) := by
  induction n generalizing s' with
  | zero => cases h; exact ⟨rfl, fun _ _ _ _ => rfl, fun i h1 h2 => by omega, fun _ _ _ _ => rfl⟩
  | succ n ih =>
    obtain ⟨t, e, e2⟩ := rowsFrom_some h
    obtain ⟨i1, i2, i3, i4⟩ := ih e (by omega)
    have gt := g.rowsFrom e
    have E := fun a j hj => rowSub_ent gt e2 (show k + 1 + n < R by omega) hk (by omega) (a := a) (j := j) hj
    refine ⟨?_, ?_, ?_, ?_⟩
    · rw [E k k hkc, if_neg (by omega), i1]
    · intro j hj i hi
      rw [E i j hj, if_neg (by omega), i2 j hj i hi]
    · intro i h1 h2
      rw [E i k hkc]
      split
      · rename_i ei
        subst ei
        have := fq_rem (x := ent C t.d (k + 1 + n) k) (y := ent C t.d k k) (by rw [i1]; exact hp)
        rw [i1] at this ⊢
        exact this
      · exact i3 i h1 (by omega)
    · intro i hi j hj
      rw [E i j hj, if_neg (by omega), i4 i (by omega) j hj]
theorem colsFrom_ent {R C k n : Nat} {s s' : St} (g : Good R C s) (h : colsFrom R C k s n = some s') (hk : k < R) (hkc : k < C) (hn : k + 1 + n ≤ C) (hp : 0 < ent C s.d k k) :
    ent C s'.d k k = ent C s.d k k ∧ (∀ i, i < R → ∀ j, j ≤ k → ent C s'.d i j = ent C s.d i j) ∧ (∀ j, k < j → j < k + 1 + n → 0 ≤ ent C s'.d k j ∧ ent C s'.d k j < ent C s.d k k ∧ ent C s'.d k j = ent C s.d k j - fq (ent C s.d k j) (ent C s.d k k) * ent C s.d k k) ∧
      (∀ j, k + 1 + n ≤ j → ∀ i, i < R → j < C → ent C s'.d i j = ent C s.d i j) := by
  induction n generalizing s' with
  | zero => cases h; exact ⟨rfl, fun _ _ _ _ => rfl, fun i h1 h2 => by omega, fun _ _ _ _ _ => rfl⟩
  | succ n ih =>
    obtain ⟨t, e, e2⟩ := colsFrom_some h
    obtain ⟨i1, i2, i3, i4⟩ := ih e (by omega)
    have gt := g.colsFrom e
    have E := fun a b ha hb => colSub_ent gt e2 (show k + 1 + n < C by omega) hkc (by omega) (a := a) (b := b) ha hb
    refine ⟨?_, ?_, ?_, ?_⟩
    · rw [E k k hk hkc, if_neg (by omega), i1]
    · intro i hi j hj
      rw [E i j hi (by omega), if_neg (by omega), i2 i hi j hj]
    · intro j h1 h2
      rw [E k j hk (by omega)]
      split
      · rename_i ej
        subst ej
        have hj := i4 (k + 1 + n) (Nat.le_refl _) k hk (by omega)
        have := fq_rem (x := ent C t.d k (k + 1 + n)) (y := ent C t.d k k) (by rw [i1]; exact hp)
        rw [i1, hj] at this ⊢
        exact ⟨this.1, this.2, rfl⟩
      · exact i3 j h1 (by omega)
    · intro j hj i hi hjc
      rw [E i j hi hjc, if_neg (by omega), i4 j (by omega) i hi hjc]

/-- The absolute value. -/
def av (x : Int) : Int := if x < 0 then -x else x
theorem av_nonneg (x : Int) : 0 ≤ av x := by unfold av; split <;> omega
theorem av_zero {x : Int} : av x = 0 ↔ x = 0 := by unfold av; split <;> omega

/-- The place of the smallest entry so far, and entry (i, j) beside it. -/
def pick (C : Nat) (d : List Int) (b : Option (Nat × Nat)) (i j : Nat) : Option (Nat × Nat) :=
  if ent C d i j = 0 then b else match b with
  | none => some (i, j)
  | some p => if av (ent C d i j) < av (ent C d p.1 p.2) then some (i, j) else b
def selRow (C : Nat) (d : List Int) (i k : Nat) (b : Option (Nat × Nat)) : Nat → Option (Nat × Nat)
  | 0 => b
  | n + 1 => pick C d (selRow C d i k b n) i (k + n)
def selAll (C : Nat) (d : List Int) (k : Nat) : Nat → Option (Nat × Nat)
  | 0 => none
  | n + 1 => selRow C d (k + n) k (selAll C d k n) (C - k)

/-- The place b holds a smallest entry of those of which P speaks. -/
def Least (C : Nat) (d : List Int) (P : Nat → Nat → Prop) (b : Option (Nat × Nat)) : Prop :=
  match b with
  | none => ∀ i j, P i j → ent C d i j = 0
  | some p => P p.1 p.2 ∧ ent C d p.1 p.2 ≠ 0 ∧ ∀ i j, P i j → ent C d i j ≠ 0 → av (ent C d p.1 p.2) ≤ av (ent C d i j)
theorem Least.pick {C : Nat} {d : List Int} {P Q : Nat → Nat → Prop} {b : Option (Nat × Nat)} {i j : Nat} (h : Least C d P b) (hQ : ∀ a c, Q a c ↔ P a c ∨ (a = i ∧ c = j)) : Least C d Q (pick C d b i j) := by
  unfold Sm.pick
  split
  · rename_i hz
    cases b with
    | none =>
      intro a c hq
      rcases (hQ a c).1 hq with hp | ⟨rfl, rfl⟩
      · exact h a c hp
      · exact hz
    | some p =>
      refine ⟨(hQ _ _).2 (.inl h.1), h.2.1, fun a c hq hn => ?_⟩
      rcases (hQ a c).1 hq with hp | ⟨rfl, rfl⟩
      · exact h.2.2 a c hp hn
      · exact absurd hz hn
  · rename_i hz
    cases b with
    | none =>
      refine ⟨(hQ _ _).2 (.inr ⟨rfl, rfl⟩), hz, fun a c hq hn => ?_⟩
      rcases (hQ a c).1 hq with hp | ⟨rfl, rfl⟩
      · exact absurd (h a c hp) hn
      · exact Int.le_refl _
    | some p =>
      dsimp only
      split
      · rename_i hlt
        refine ⟨(hQ _ _).2 (.inr ⟨rfl, rfl⟩), hz, fun a c hq hn => ?_⟩
        rcases (hQ a c).1 hq with hp | ⟨rfl, rfl⟩
        · have := h.2.2 a c hp hn; dsimp only; omega
        · exact Int.le_refl _
      · rename_i hge
        refine ⟨(hQ _ _).2 (.inl h.1), h.2.1, fun a c hq hn => ?_⟩
        rcases (hQ a c).1 hq with hp | ⟨rfl, rfl⟩
        · exact h.2.2 a c hp hn
        · omega
theorem selRow_least {C : Nat} {d : List Int} {i k : Nat} {b : Option (Nat × Nat)} {P : Nat → Nat → Prop} (h : Least C d P b) (n : Nat) : Least C d (fun a c => P a c ∨ (a = i ∧ k ≤ c ∧ c < k + n)) (selRow C d i k b n) := by
  induction n with
  | zero =>
    have : (fun a c => P a c ∨ (a = i ∧ k ≤ c ∧ c < k + 0)) = P := by
      funext a c
      exact propext ⟨fun g => g.elim id (fun g => by omega), .inl⟩
    rw [this]; exact h
  | succ n ih =>
    refine ih.pick (fun a c => ?_)
    constructor
    · rintro (g | ⟨rfl, g1, g2⟩)
      · exact .inl (.inl g)
      · by_cases e : c = k + n
        · exact .inr ⟨rfl, e⟩
        · exact .inl (.inr ⟨rfl, g1, by omega⟩)
    · rintro ((g | ⟨rfl, g1, g2⟩) | ⟨rfl, rfl⟩)
      · exact .inl g
      · exact .inr ⟨rfl, g1, by omega⟩
      · exact .inr ⟨rfl, by omega, by omega⟩
/-- The entries in rows k to k + n - 1 and columns from k on. -/
def Sub (C k n : Nat) (i j : Nat) : Prop := k ≤ i ∧ i < k + n ∧ k ≤ j ∧ j < C
theorem selAll_least {C : Nat} (d : List Int) {k : Nat} (hk : k ≤ C) (n : Nat) : Least C d (Sub C k n) (selAll C d k n) := by
  induction n with
  | zero => intro i j h; obtain ⟨h1, h2, _⟩ := h; omega
  | succ n ih =>
    have := selRow_least (i := k + n) (k := k) ih (C - k)
    have e : (fun a c => Sub C k n a c ∨ (a = k + n ∧ k ≤ c ∧ c < k + (C - k))) = Sub C k (n + 1) := by
      funext a c
      unfold Sub
      exact propext ⟨fun g => by omega, fun g => by omega⟩
    rw [e] at this
    exact this
/-- The place (k, k) is kept unless a smaller entry is found. -/
def First (C : Nat) (d : List Int) (k : Nat) (b : Option (Nat × Nat)) : Prop := ∃ p, b = some p ∧ (p = (k, k) ∨ av (ent C d p.1 p.2) < av (ent C d k k))
theorem First.pick {C : Nat} {d : List Int} {k i j : Nat} {b : Option (Nat × Nat)} (h : First C d k b) : First C d k (pick C d b i j) := by
  obtain ⟨p, rfl, hp⟩ := h
  unfold Sm.pick
  split
  · exact ⟨p, rfl, hp⟩
  · dsimp only
    split
    · rename_i hlt
      refine ⟨_, rfl, .inr ?_⟩
      rcases hp with rfl | hp
      · exact hlt
      · dsimp only; omega
    · exact ⟨p, rfl, hp⟩
theorem First.selRow {C : Nat} {d : List Int} {k i : Nat} {b : Option (Nat × Nat)} (h : First C d k b) (n : Nat) : First C d k (selRow C d i k b n) := by
  induction n with
  | zero => exact h
  | succ n ih => exact ih.pick
theorem selRow_first {C : Nat} {d : List Int} {k : Nat} (hz : ent C d k k ≠ 0) (n : Nat) : First C d k (selRow C d k k none (n + 1)) := by
  induction n with
  | zero =>
    refine ⟨(k, k), ?_, .inl rfl⟩
    simp only [Sm.selRow, Sm.pick, Nat.add_zero]
    rw [if_neg hz]
  | succ n ih => exact ih.pick
theorem selAll_first {C : Nat} {d : List Int} {k : Nat} (hk : k < C) (hz : ent C d k k ≠ 0) (n : Nat) : First C d k (selAll C d k (n + 1)) := by
  induction n with
  | zero =>
    obtain ⟨m, hm⟩ : ∃ m, C - k = m + 1 := ⟨C - k - 1, by omega⟩
    have := selRow_first (C := C) hz m
    rw [selAll, selAll, hm]
    exact this
  | succ n ih =>
    rw [selAll]
    exact ih.selRow _

/-- A smallest entry at (p, q) is brought to (k, k) and made positive. -/
def swapped (R C k p q : Nat) (s : St) : St := colEx R C k q (rowEx R C k p s)
def place (R C k p q : Nat) (s : St) : St := if ent C (swapped R C k p q s).d k k < 0 then rowNeg R C k (swapped R C k p q s) else swapped R C k p q s
theorem Good.place {R C k p q : Nat} {s : St} (h : Good R C s) : Good R C (place R C k p q s) := by
  unfold Sm.place
  split
  · exact (h.rowEx.colEx).rowNeg
  · exact h.rowEx.colEx

/-- Row k and column k have no entry other than 0 beside the diagonal. -/
def Clear (R C k : Nat) (d : List Int) : Prop := (∀ i, k < i → i < R → ent C d i k = 0) ∧ ∀ j, k < j → j < C → ent C d k j = 0
/-- Row i has, behind column k, an entry that the one at (k, k) does not divide. -/
def Odd (C k : Nat) (d : List Int) (i : Nat) : Prop := ∃ j, k < j ∧ j < C ∧ (ent C d i j).tmod (ent C d k k) ≠ 0
/-- i is the first row behind k that is odd. -/
def FirstOdd (R C k : Nat) (d : List Int) (i : Nat) : Prop := k < i ∧ i < R ∧ Odd C k d i ∧ ∀ a, k < a → a < i → ¬ Odd C k d a

inductive Res where
  | bad
  | fin (s : St)
  | all (s : St)
  | again (s : St)

open Classical in
/-- A round of the steps for k, and how it ends. -/
noncomputable def round (R C k : Nat) (s : St) : Res :=
  match selAll C s.d k (R - k) with
  | none => .all s
  | some p => match rowsFrom R C k (place R C k p.1 p.2 s) (R - (k + 1)) with
    | none => .bad
    | some t => match colsFrom R C k t (C - (k + 1)) with
      | none => .bad
      | some u => if Clear R C k u.d then (if h : ∃ i, FirstOdd R C k u.d i then (match rowSub R C k h.choose (-1) u with | none => .bad | some v => .again v) else .fin u) else .again u

/-- The rounds for k from s on, at most n of them, end so. -/
def Runs (R C k : Nat) : Nat → St → Res → Prop
  | 0, _, _ => False
  | n + 1, s, o => match round R C k s with
    | .again t => Runs R C k n t o
    | e => o = e

theorem FirstOdd.eq {R C k : Nat} {d : List Int} {i j : Nat} (h : FirstOdd R C k d i) (g : FirstOdd R C k d j) : i = j := by
  obtain ⟨h1, h2, h3, h4⟩ := h
  obtain ⟨g1, g2, g3, g4⟩ := g
  by_cases a : i < j
  · exact absurd h3 (g4 i h1 a)
  · by_cases b : j < i
    · exact absurd g3 (h4 j g1 b)
    · omega
theorem round_all {R C k : Nat} {s : St} (h : selAll C s.d k (R - k) = none) : round R C k s = .all s := by
  unfold round; rw [h]
theorem round_bad1 {R C k : Nat} {s : St} {p : Nat × Nat} (h : selAll C s.d k (R - k) = some p) (h1 : rowsFrom R C k (place R C k p.1 p.2 s) (R - (k + 1)) = none) : round R C k s = .bad := by
  unfold round; rw [h]; dsimp only; rw [h1]
theorem round_bad2 {R C k : Nat} {s t : St} {p : Nat × Nat} (h : selAll C s.d k (R - k) = some p) (h1 : rowsFrom R C k (place R C k p.1 p.2 s) (R - (k + 1)) = some t) (h2 : colsFrom R C k t (C - (k + 1)) = none) : round R C k s = .bad := by
  unfold round; rw [h]; dsimp only; rw [h1]; dsimp only; rw [h2]
theorem round_next {R C k : Nat} {s t u : St} {p : Nat × Nat} (h : selAll C s.d k (R - k) = some p) (h1 : rowsFrom R C k (place R C k p.1 p.2 s) (R - (k + 1)) = some t) (h2 : colsFrom R C k t (C - (k + 1)) = some u) (h3 : ¬ Clear R C k u.d) : round R C k s = .again u := by
  unfold round; rw [h]; dsimp only; rw [h1]; dsimp only; rw [h2]; dsimp only; rw [if_neg h3]
theorem round_fin {R C k : Nat} {s t u : St} {p : Nat × Nat} (h : selAll C s.d k (R - k) = some p) (h1 : rowsFrom R C k (place R C k p.1 p.2 s) (R - (k + 1)) = some t) (h2 : colsFrom R C k t (C - (k + 1)) = some u) (h3 : Clear R C k u.d) (h4 : ∀ i, ¬ FirstOdd R C k u.d i) : round R C k s = .fin u := by
  unfold round; rw [h]; dsimp only; rw [h1]; dsimp only; rw [h2]; dsimp only; rw [if_pos h3, dif_neg (fun ⟨i, h⟩ => h4 i h)]
theorem round_odd {R C k i : Nat} {s t u : St} {p : Nat × Nat} (h : selAll C s.d k (R - k) = some p) (h1 : rowsFrom R C k (place R C k p.1 p.2 s) (R - (k + 1)) = some t) (h2 : colsFrom R C k t (C - (k + 1)) = some u) (h3 : Clear R C k u.d) (h4 : FirstOdd R C k u.d i) :
    round R C k s = match rowSub R C k i (-1) u with | none => .bad | some v => .again v := by
  unfold round; rw [h]; dsimp only; rw [h1]; dsimp only; rw [h2]; dsimp only
  have hx : ∃ i, FirstOdd R C k u.d i := ⟨i, h4⟩
  rw [if_pos h3, dif_pos hx, hx.choose_spec.eq h4]

/-- What a round with a pivot leaves: the entry at (k, k) is the smallest size, what lies below it and beside it is smaller. -/
structure After (R C k : Nat) (a : Int) (s : St) : Prop where
  good : Good R C s
  pos : 0 < a
  piv : ent C s.d k k = a
  col : ∀ i, k < i → i < R → 0 ≤ ent C s.d i k ∧ ent C s.d i k < a
  row : ∀ j, k < j → j < C → 0 ≤ ent C s.d k j ∧ ent C s.d k j < a

theorem swapped_piv {R C k p q : Nat} {s : St} (g : Good R C s) (hk : k < R) (hkc : k < C) (hp : p < R) (hq : q < C) : ent C (swapped R C k p q s).d k k = ent C s.d p q := by
  have g1 := (g.rowEx (a := k) (b := p))
  have e1 : ent C (colEx R C k q (rowEx R C k p s)).d k k = ent C (rowEx R C k p s).d k q := ent_exC_a g1.nd hkc hq hk
  have e2 : ent C (rowEx R C k p s).d k q = ent C s.d p q := ent_exR_a g.nd hk hp hq
  exact e1.trans e2
theorem place_piv {R C k p q : Nat} {s : St} (g : Good R C s) (hk : k < R) (hkc : k < C) (hp : p < R) (hq : q < C) : ent C (place R C k p q s).d k k = av (ent C s.d p q) := by
  have h := swapped_piv g hk hkc hp hq
  unfold place av
  split
  · rename_i hn
    have e : ent C (rowNeg R C k (swapped R C k p q s)).d k k = -(ent C (swapped R C k p q s).d k k) := ent_neR (g.rowEx.colEx).nd hk hkc
    rw [h] at e hn
    rw [e, if_pos hn]
  · rename_i hn
    rw [h] at hn
    rw [h, if_neg hn]

theorem after_of {R C k : Nat} {s t u : St} {p : Nat × Nat} (g : Good R C s) (hk : k < R) (hkc : k < C) (h : selAll C s.d k (R - k) = some p)
    (h1 : rowsFrom R C k (place R C k p.1 p.2 s) (R - (k + 1)) = some t) (h2 : colsFrom R C k t (C - (k + 1)) = some u) : After R C k (av (ent C s.d p.1 p.2)) u := by
  have hl := selAll_least s.d (show k ≤ C by omega) (R - k)
  rw [h] at hl
  obtain ⟨⟨l1, l2, l3, l4⟩, hz, _⟩ := hl
  have hp1 : p.1 < R := by omega
  have pv := place_piv g hk hkc hp1 l4
  have ap : 0 < av (ent C s.d p.1 p.2) := by
    have h1 := av_nonneg (ent C s.d p.1 p.2)
    have h2 : av (ent C s.d p.1 p.2) ≠ 0 := fun e => hz (av_zero.1 e)
    omega
  have g0 := g.place (k := k) (p := p.1) (q := p.2)
  have g1 := g0.rowsFrom h1
  obtain ⟨r1, r2, r3, r4⟩ := rowsFrom_ent g0 h1 hk hkc (by omega) (by rw [pv]; exact ap)
  obtain ⟨c1, c2, c3, c4⟩ := colsFrom_ent g1 h2 hk hkc (by omega) (by rw [r1, pv]; exact ap)
  refine ⟨g1.colsFrom h2, ap, by rw [c1, r1, pv], ?_, ?_⟩
  · intro i h3 h4
    rw [c2 i h4 k (Nat.le_refl _)]
    have := r3 i h3 (by omega)
    rw [pv] at this
    exact this
  · intro j h3 h4
    have := c3 j h3 (by omega)
    rw [r1, pv] at this
    exact ⟨this.1, this.2.1⟩

/-- The least size of the entries from (k, k) on; 0 if all are 0. -/
def mn (R C k : Nat) (s : St) : Nat := match selAll C s.d k (R - k) with
  | none => 0
  | some p => (av (ent C s.d p.1 p.2)).toNat
theorem mn_le {R C k : Nat} {s : St} {i j : Nat} (h1 : k ≤ i) (h2 : i < R) (h3 : k ≤ j) (h4 : j < C) (hz : ent C s.d i j ≠ 0) : (mn R C k s : Int) ≤ av (ent C s.d i j) := by
  have hl := selAll_least s.d (show k ≤ C by omega) (R - k)
  unfold mn
  split
  · have := av_nonneg (ent C s.d i j); omega
  · rename_i p e
    rw [e] at hl
    have := hl.2.2 i j ⟨h1, by omega, h3, h4⟩ hz
    have := av_nonneg (ent C s.d p.1 p.2)
    omega
theorem mn_eq {R C k : Nat} {s : St} {p : Nat × Nat} (h : selAll C s.d k (R - k) = some p) : (mn R C k s : Int) = av (ent C s.d p.1 p.2) := by
  unfold mn
  rw [h]
  have := av_nonneg (ent C s.d p.1 p.2)
  dsimp only
  omega
theorem After.next {R C k : Nat} {a : Int} {u : St} (h : After R C k a u) (hk : k < R) (hkc : k < C) (hc : ¬ Clear R C k u.d) : (mn R C k u : Int) < a := by
  by_cases h1 : ∀ i, k < i → i < R → ent C u.d i k = 0
  · by_cases h2 : ∀ j, k < j → j < C → ent C u.d k j = 0
    · exact absurd ⟨h1, h2⟩ hc
    · obtain ⟨j, hj⟩ := Classical.not_forall.1 h2
      obtain ⟨hj1, hj⟩ := Classical.not_imp.1 hj
      obtain ⟨hj2, hz⟩ := Classical.not_imp.1 hj
      have := mn_le (s := u) (Nat.le_refl k) hk (by omega) hj2 hz
      have r := h.row j hj1 hj2
      unfold av at this
      split at this <;> omega
  · obtain ⟨i, hi⟩ := Classical.not_forall.1 h1
    obtain ⟨hi1, hi⟩ := Classical.not_imp.1 hi
    obtain ⟨hi2, hz⟩ := Classical.not_imp.1 hi
    have := mn_le (s := u) (by omega) hi2 (Nat.le_refl k) hkc hz
    have r := h.col i hi1 hi2
    unfold av at this
    split at this <;> omega

/-- A state whose entry at (k, k) is a, with zeros below it and an entry beside it that a does not divide. -/
def Uneven (R C k : Nat) (a : Int) (s : St) : Prop := Good R C s ∧ ent C s.d k k = a ∧ 0 < a ∧ (∀ i, k < i → i < R → ent C s.d i k = 0) ∧ ∃ j, k < j ∧ j < C ∧ (ent C s.d k j).tmod a ≠ 0

theorem After.uneven {R C k i : Nat} {a : Int} {u v : St} (h : After R C k a u) (hk : k < R) (hkc : k < C) (hc : Clear R C k u.d) (ho : FirstOdd R C k u.d i) (hv : rowSub R C k i (-1) u = some v) : Uneven R C k a v := by
  obtain ⟨h1, h2, ⟨j, j1, j2, j3⟩, _⟩ := ho
  have E := fun x y hy => rowSub_ent h.good hv hk h2 (by omega) (a := x) (j := y) hy
  refine ⟨h.good.rowSub hv, ?_, h.pos, ?_, j, j1, j2, ?_⟩
  · rw [E k k hkc, if_pos rfl, hc.1 i h1 h2, h.piv]; omega
  · intro x hx1 hx2
    rw [E x k hkc, if_neg (by omega)]
    exact hc.1 x hx1 hx2
  · rw [E k j j2, if_pos rfl, hc.2 j j1 j2, ← h.piv]
    simpa using j3

theorem fq_zero {y : Int} : fq 0 y = 0 := by unfold fq; simp
theorem rowsFrom_zero {R C k n : Nat} {s : St} (hz : ∀ i, k < i → i < k + 1 + n → ent C s.d i k = 0) : rowsFrom R C k s n = some s := by
  induction n with
  | zero => rfl
  | succ n ih =>
    rw [rowsFrom, ih (fun i h1 h2 => hz i h1 (by omega))]
    dsimp only
    rw [hz (k + 1 + n) (by omega) (by omega), fq_zero, rowSub, if_pos rfl]
theorem exch_st {R C k : Nat} (s : St) : swapped R C k k k s = s := by
  unfold swapped colEx rowEx
  simp [exch_self]

theorem Uneven.round {R C k : Nat} {a : Int} {s : St} (h : Uneven R C k a s) (hk : k < R) (hkc : k < C) (hm : (mn R C k s : Int) = a) : round R C k s = .bad ∨ ∃ u, round R C k s = .again u ∧ Good R C u ∧ (mn R C k u : Int) < a := by
  obtain ⟨g, hp, ha, hz, j, j1, j2, j3⟩ := h
  obtain ⟨m, hmm⟩ : ∃ m, R - k = m + 1 := ⟨R - k - 1, by omega⟩
  obtain ⟨p, e, hf⟩ := selAll_first hkc (d := s.d) (by rw [hp]; omega) m
  rw [← hmm] at e
  have hpk : p = (k, k) := by
    rcases hf with hf | hf
    · exact hf
    · have := mn_eq e
      rw [hm] at this
      rw [hp] at hf
      have : av a = a := by unfold av; rw [if_neg (by omega)]
      omega
  subst hpk
  have hpl : place R C k k k s = s := by
    unfold place
    rw [exch_st, hp, if_neg (by omega)]
  have h1 : rowsFrom R C k (place R C k k k s) (R - (k + 1)) = some s := by
    rw [hpl]
    exact rowsFrom_zero (fun i h1 h2 => hz i h1 (by omega))
  cases h2 : colsFrom R C k s (C - (k + 1)) with
  | none => exact .inl (round_bad2 e h1 h2)
  | some u =>
    have A := after_of g hk hkc e h1 h2
    obtain ⟨_, _, c3, _⟩ := colsFrom_ent g h2 hk hkc (by omega) (by rw [hp]; exact ha)
    have hnc : ¬ Clear R C k u.d := by
      intro hc
      have h3 := c3 j j1 (by omega)
      rw [hc.2 j j1 j2, hp] at h3
      apply j3
      have : ent C s.d k j = fq (ent C s.d k j) a * a := by omega
      rw [this]
      exact Int.mul_tmod_left _ _
    refine .inr ⟨u, round_next e h1 h2 hnc, A.good, ?_⟩
    have := A.next hk hkc hnc
    dsimp only at this
    rw [hp] at this
    have e3 : av a = a := by unfold av; rw [if_neg (by omega)]
    omega

theorem runs_one {R C k : Nat} {s : St} {o : Res} (h : round R C k s = o) (ho : ∀ t, o ≠ .again t) : Runs R C k 1 s o := by
  rw [Runs, h]
  cases o with
  | again t => exact absurd rfl (ho t)
  | _ => rfl
theorem runs_again {R C k n : Nat} {s t : St} {o : Res} (h : round R C k s = .again t) (ht : Runs R C k n t o) : Runs R C k (n + 1) s o := by
  rw [Runs, h]; exact ht

/-- The rounds for k end, from whatever valid state. -/
theorem runs_end {R C k : Nat} (hk : k < R) (hkc : k < C) : ∀ (m : Nat) (s : St), Good R C s → mn R C k s ≤ m → ∃ n o, Runs R C k n s o := by
  intro m
  induction m using Nat.strongRecOn with
  | ind m ih =>
    intro s g hm
    cases e : selAll C s.d k (R - k) with
    | none => exact ⟨1, _, runs_one (round_all e) (fun t => by simp)⟩
    | some p =>
      cases h1 : rowsFrom R C k (place R C k p.1 p.2 s) (R - (k + 1)) with
      | none => exact ⟨1, _, runs_one (round_bad1 e h1) (fun t => by simp)⟩
      | some t =>
        cases h2 : colsFrom R C k t (C - (k + 1)) with
        | none => exact ⟨1, _, runs_one (round_bad2 e h1 h2) (fun t => by simp)⟩
        | some u =>
          have A := after_of g hk hkc e h1 h2
          have me := mn_eq e
          by_cases hc : Clear R C k u.d
          · by_cases ho : ∃ i, FirstOdd R C k u.d i
            · obtain ⟨i, ho⟩ := ho
              have hr := round_odd e h1 h2 hc ho
              cases hv : rowSub R C k i (-1) u with
              | none =>
                rw [hv] at hr
                exact ⟨1, _, runs_one hr (fun t => by simp)⟩
              | some v =>
                rw [hv] at hr
                have U := A.uneven hk hkc hc ho hv
                have hle : (mn R C k v : Int) ≤ mn R C k s := by
                  have h5 := mn_le (s := v) (Nat.le_refl k) hk (Nat.le_refl k) hkc (by rw [U.2.1]; have := U.2.2.1; omega)
                  rw [U.2.1] at h5
                  have e3 : av (av (ent C s.d p.1 p.2)) = av (ent C s.d p.1 p.2) := by have := av_nonneg (ent C s.d p.1 p.2); rw [av, if_neg (by omega)]
                  omega
                by_cases hlt : mn R C k v < mn R C k s
                · obtain ⟨n, o, hn⟩ := ih (mn R C k v) (by omega) v U.1 (Nat.le_refl _)
                  exact ⟨n + 1, o, runs_again hr hn⟩
                · rcases U.round hk hkc (by omega) with hb | ⟨u', hu, gu, hlt2⟩
                  · exact ⟨2, _, runs_again hr (runs_one hb (fun t => by simp))⟩
                  · obtain ⟨n, o, hn⟩ := ih (mn R C k u') (by omega) u' gu (Nat.le_refl _)
                    exact ⟨n + 2, o, runs_again hr (runs_again hu hn)⟩
            · exact ⟨1, _, runs_one (round_fin e h1 h2 hc (fun i hi => ho ⟨i, hi⟩)) (fun t => by simp)⟩
          · have := A.next hk hkc hc
            obtain ⟨n, o, hn⟩ := ih (mn R C k u) (by omega) u A.good (Nat.le_refl _)
            exact ⟨n + 1, o, runs_again (round_next e h1 h2 hc) hn⟩

/-- Beside the diagonal, the rows and columns ahead of k hold zeros. -/
def CK (R C k : Nat) (d : List Int) : Prop := ∀ i j, i < R → j < C → (i < k ∨ j < k) → i ≠ j → ent C d i j = 0

theorem CK.place {R C k p q : Nat} {s : St} (h : CK R C k s.d) (g : Good R C s) (hk : k < R) (hkc : k < C) (hp : p < R) (hq : q < C) (hp1 : k ≤ p) (hq1 : k ≤ q) : CK R C k (place R C k p q s).d := by
  have h1 : CK R C k (rowEx R C k p s).d := by
    intro i j hi hj ho hn
    by_cases e : i = k
    · subst e
      rw [show ent C (rowEx R C i p s).d i j = ent C s.d p j from ent_exR_a g.nd hi hp hj]
      exact h p j hp hj (.inr (by omega)) (by omega)
    · by_cases e2 : i = p
      · subst e2
        rw [show ent C (rowEx R C k i s).d i j = ent C s.d k j from ent_exR_b g.nd hk hi hj]
        exact h k j hk hj (.inr (by omega)) (by omega)
      · rw [show ent C (rowEx R C k p s).d i j = ent C s.d i j from ent_exR_far hj e e2]
        exact h i j hi hj ho hn
  have g1 := g.rowEx (a := k) (b := p)
  have h2 : CK R C k (swapped R C k p q s).d := by
    intro i j hi hj ho hn
    by_cases e : j = k
    · subst e
      rw [show ent C (swapped R C j p q s).d i j = ent C (rowEx R C j p s).d i q from ent_exC_a g1.nd hj hq hi]
      exact h1 i q hi hq (.inl (by omega)) (by omega)
    · by_cases e2 : j = q
      · subst e2
        rw [show ent C (swapped R C k p j s).d i j = ent C (rowEx R C k p s).d i k from ent_exC_b g1.nd hkc hj hi]
        exact h1 i k hi hkc (.inl (by omega)) (by omega)
      · rw [show ent C (swapped R C k p q s).d i j = ent C (rowEx R C k p s).d i j from ent_exC_far hkc hq hj e e2]
        exact h1 i j hi hj ho hn
  have g2 := g1.colEx (a := k) (b := q)
  unfold Sm.place
  split
  · intro i j hi hj ho hn
    by_cases e : i = k
    · subst e
      rw [show ent C (rowNeg R C i (swapped R C i p q s)).d i j = -(ent C (swapped R C i p q s).d i j) from ent_neR g2.nd hi hj, h2 i j hi hj ho hn]
      rfl
    · rw [show ent C (rowNeg R C k (swapped R C k p q s)).d i j = ent C (swapped R C k p q s).d i j from ent_neR_far hj e]
      exact h2 i j hi hj ho hn
  · exact h2
theorem CK.rowSub {R C k i b : Nat} {q : Int} {s t : St} (h : CK R C k s.d) (g : Good R C s) (hs : rowSub R C i b q s = some t) (hi : i < R) (hb : b < R) (hib : i ≠ b) (hik : k ≤ i) (hbk : k ≤ b) : CK R C k t.d := by
  intro x y hx hy ho hn
  rw [rowSub_ent g hs hi hb hib hy]
  split
  · rename_i e
    subst e
    rw [h x y hx hy ho hn, h b y hb hy (.inr (by omega)) (by omega)]
    simp
  · exact h x y hx hy ho hn
theorem CK.colSub {R C k j b : Nat} {q : Int} {s t : St} (h : CK R C k s.d) (g : Good R C s) (hs : colSub R C j b q s = some t) (hj : j < C) (hb : b < C) (hjb : j ≠ b) (hjk : k ≤ j) (hbk : k ≤ b) : CK R C k t.d := by
  intro x y hx hy ho hn
  rw [colSub_ent g hs hj hb hjb hx hy]
  split
  · rename_i e
    subst e
    rw [h x y hx hy ho hn, h x b hx hb (.inl (by omega)) (by omega)]
    simp
  · exact h x y hx hy ho hn
theorem CK.rowsFrom {R C k n : Nat} {s t : St} (h : CK R C k s.d) (g : Good R C s) (hs : rowsFrom R C k s n = some t) (hk : k < R) (hn : k + 1 + n ≤ R) : CK R C k t.d := by
  induction n generalizing t with
  | zero => cases hs; exact h
  | succ n ih =>
    obtain ⟨u, e, e2⟩ := rowsFrom_some hs
    exact (ih e (by omega)).rowSub (g.rowsFrom e) e2 (by omega) hk (by omega) (by omega) (by omega)
theorem CK.colsFrom {R C k n : Nat} {s t : St} (h : CK R C k s.d) (g : Good R C s) (hs : colsFrom R C k s n = some t) (hk : k < C) (hn : k + 1 + n ≤ C) : CK R C k t.d := by
  induction n generalizing t with
  | zero => cases hs; exact h
  | succ n ih =>
    obtain ⟨u, e, e2⟩ := colsFrom_some hs
    exact (ih e (by omega)).colSub (g.colsFrom e) e2 (by omega) hk (by omega) (by omega) (by omega)
theorem ck_of {R C k : Nat} {s t u : St} {p : Nat × Nat} (hc : CK R C k s.d) (g : Good R C s) (hk : k < R) (hkc : k < C) (h : selAll C s.d k (R - k) = some p)
    (h1 : rowsFrom R C k (place R C k p.1 p.2 s) (R - (k + 1)) = some t) (h2 : colsFrom R C k t (C - (k + 1)) = some u) : CK R C k u.d := by
  have hl := selAll_least s.d (show k ≤ C by omega) (R - k)
  rw [h] at hl
  obtain ⟨⟨l1, l2, l3, l4⟩, hz, _⟩ := hl
  have g0 := g.place (k := k) (p := p.1) (q := p.2)
  have c0 := hc.place g hk hkc (by omega) l4 l1 l3
  exact (c0.rowsFrom g0 h1 hk (by omega)).colsFrom (g0.rowsFrom h1) h2 hkc (by omega)
theorem CK.next {R C k : Nat} {d : List Int} (h : CK R C k d) (hc : Clear R C k d) : CK R C (k + 1) d := by
  intro i j hi hj ho hn
  by_cases e : i < k ∨ j < k
  · exact h i j hi hj e hn
  · by_cases e1 : i = k
    · subst e1; exact hc.2 j (by omega) hj
    · have : j = k := by omega
      subst this
      exact hc.1 i (by omega) hi
theorem sel_zero {R C k : Nat} {d : List Int} (hk : k ≤ C) (h : selAll C d k (R - k) = none) {i j : Nat} (h1 : k ≤ i) (h2 : i < R) (h3 : k ≤ j) (h4 : j < C) : ent C d i j = 0 := by
  have hl := selAll_least d hk (R - k)
  rw [h] at hl
  exact hl i j ⟨h1, by omega, h3, h4⟩
theorem sel_next {R C k : Nat} {d : List Int} (hk : k < C) (h : selAll C d k (R - k) = none) : selAll C d (k + 1) (R - (k + 1)) = none := by
  cases e : selAll C d (k + 1) (R - (k + 1)) with
  | none => rfl
  | some p =>
    have hl := selAll_least d (show k + 1 ≤ C by omega) (R - (k + 1))
    rw [e] at hl
    obtain ⟨⟨l1, l2, l3, l4⟩, hz, _⟩ := hl
    exact absurd (sel_zero (by omega) h (by omega) (by omega) (by omega) l4) hz
theorem CK.of_sel {R C k : Nat} {d : List Int} (hkr : k < R) (hk : k < C) (h : CK R C k d) (hs : selAll C d k (R - k) = none) : CK R C (k + 1) d :=
  h.next ⟨fun i h1 h2 => sel_zero (by omega) hs (by omega) h2 (Nat.le_refl k) hk, fun j h1 h2 => sel_zero (by omega) hs (Nat.le_refl k) hkr (by omega) h2⟩
theorem runs_res {R C k : Nat} (hk : k < R) (hkc : k < C) : ∀ (n : Nat) (s : St) (o : Res), Good R C s → CK R C k s.d → Runs R C k n s o →
    o = .bad ∨ (∃ t, o = .fin t ∧ Good R C t ∧ CK R C (k + 1) t.d) ∨ (∃ t, o = .all t ∧ Good R C t ∧ selAll C t.d k (R - k) = none) := by
  intro n
  induction n with
  | zero => intro s o _ _ h; exact h.elim
  | succ n ih =>
    intro s o g hc h
    rw [Runs] at h
    cases e : selAll C s.d k (R - k) with
    | none => rw [round_all e] at h; exact .inr (.inr ⟨s, h, g, e⟩)
    | some p =>
      cases h1 : rowsFrom R C k (place R C k p.1 p.2 s) (R - (k + 1)) with
      | none => rw [round_bad1 e h1] at h; exact .inl h
      | some t =>
        cases h2 : colsFrom R C k t (C - (k + 1)) with
        | none => rw [round_bad2 e h1 h2] at h; exact .inl h
        | some u =>
          have A := after_of g hk hkc e h1 h2
          have cu := ck_of hc g hk hkc e h1 h2
          by_cases hcl : Clear R C k u.d
          · by_cases ho : ∃ i, FirstOdd R C k u.d i
            · obtain ⟨i, ho⟩ := ho
              have hr := round_odd e h1 h2 hcl ho
              cases hv : rowSub R C k i (-1) u with
              | none => rw [hv] at hr; rw [hr] at h; exact .inl h
              | some v =>
                rw [hv] at hr; rw [hr] at h
                have := ho.1
                exact ih v o (A.good.rowSub hv) (cu.rowSub A.good hv hk ho.2.1 (by omega) (Nat.le_refl k) (by omega)) h
            · rw [round_fin e h1 h2 hcl (fun i hi => ho ⟨i, hi⟩)] at h
              exact .inr (.inl ⟨u, h, A.good, cu.next hcl⟩)
          · rw [round_next e h1 h2 hcl] at h
            exact ih u o A.good cu h

/-- How the steps for k, k + 1, .. end, n of them: none where an entry leaves the limit. -/
def Outcome (R C : Nat) : Nat → Nat → St → Option St → Prop
  | 0, _, s, o => o = some s
  | n + 1, k, s, o => ∃ m r, Runs R C k m s r ∧ match r with
    | .bad => o = none
    | .fin t => Outcome R C n (k + 1) t o
    | .all t => o = some t
    | .again _ => False
/-- The same, where the later steps are made also behind a matrix of zeros. -/
def Outcome2 (R C : Nat) : Nat → Nat → St → Option St → Prop
  | 0, _, s, o => o = some s
  | n + 1, k, s, o => ∃ m r, Runs R C k m s r ∧ match r with
    | .bad => o = none
    | .fin t => Outcome2 R C n (k + 1) t o
    | .all t => Outcome2 R C n (k + 1) t o
    | .again _ => False
theorem outcome_end {R C : Nat} : ∀ (n k : Nat) (s : St), n + k ≤ R → n + k ≤ C → Good R C s → CK R C k s.d → ∃ o, Outcome R C n k s o ∧ ∀ t, o = some t → Good R C t := by
  intro n
  induction n with
  | zero => intro k s _ _ g _; exact ⟨some s, rfl, fun t h => by cases h; exact g⟩
  | succ n ih =>
    intro k s h1 h2 g hc
    obtain ⟨m, r, hr⟩ := runs_end (show k < R by omega) (show k < C by omega) _ s g (Nat.le_refl _)
    rcases runs_res (by omega) (by omega) m s r g hc hr with rfl | ⟨t, rfl, gt, ct⟩ | ⟨t, rfl, gt, st⟩
    · exact ⟨none, ⟨m, _, hr, rfl⟩, fun t h => by cases h⟩
    · obtain ⟨o, ho, hg⟩ := ih (k + 1) t (by omega) (by omega) gt ct
      exact ⟨o, ⟨m, _, hr, ho⟩, hg⟩
    · exact ⟨some t, ⟨m, _, hr, rfl⟩, fun u h => by cases h; exact gt⟩
theorem outcome2_all {R C : Nat} : ∀ (n k : Nat) (s : St), n + k ≤ C → selAll C s.d k (R - k) = none → Outcome2 R C n k s (some s) := by
  intro n
  induction n with
  | zero => intro k s _ _; rfl
  | succ n ih =>
    intro k s h2 hs
    exact ⟨1, .all s, runs_one (round_all hs) (fun t => by simp), ih (k + 1) s (by omega) (sel_next (by omega) hs)⟩
theorem Outcome.two {R C : Nat} : ∀ (n k : Nat) (s : St) (o : Option St), n + k ≤ R → n + k ≤ C → Good R C s → CK R C k s.d → Outcome R C n k s o → Outcome2 R C n k s o := by
  intro n
  induction n with
  | zero => intro k s o _ _ _ _ h; exact h
  | succ n ih =>
    intro k s o h1 h2 g hc ⟨m, r, hr, h⟩
    rcases runs_res (by omega) (by omega) m s r g hc hr with rfl | ⟨t, rfl, gt, ct⟩ | ⟨t, rfl, gt, st⟩
    · exact ⟨m, _, hr, h⟩
    · exact ⟨m, _, hr, ih (k + 1) t o (by omega) (by omega) gt ct h⟩
    · refine ⟨m, _, hr, ?_⟩
      dsimp only at h ⊢
      rw [h]
      exact outcome2_all n (k + 1) t (by omega) (sel_next (by omega) st)
end Go.Proofs.Ytpojkahlllochaa.Sm
