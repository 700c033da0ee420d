/- Orbits of permutations of small degree: plain mathematics. No condition but those that each theorem names. -/
import Derived.Test.YtiibedpacnficaaRpA
namespace Go.Proofs.Ytiibedpacnficaa
namespace Ob
open Rp
/-- b lies in every set that has a and that the permutations map into itself. -/
def R (n : Int) (zss : List (List Int)) (a b : Int) : Prop := ∀ Q : Int → Prop, Q a → (∀ c, 0 ≤ c → c < n → Q c → ∀ z ∈ zss, Q (z.getD c.toNat 0)) → Q b
theorem R.refl {n : Int} {zss : List (List Int)} (a : Int) : R n zss a a := fun _ h _ => h
theorem R.trans {n : Int} {zss : List (List Int)} {a b c : Int} (h : R n zss a b) (k : R n zss b c) : R n zss a c := fun Q h1 h2 => k Q (h Q h1 h2) h2
theorem R.step {n : Int} {zss : List (List Int)} {a b : Int} (h : R n zss a b) (h0 : 0 ≤ b) (h1 : b < n) {z : List Int} (hz : z ∈ zss) : R n zss a (z.getD b.toNat 0) := fun Q q1 q2 => q2 b h0 h1 (h Q q1 q2) z hz
theorem pm_in {n : Int} {z : List Int} (hz : Pm n z) {c : Int} (h0 : 0 ≤ c) (h1 : c < n) : 0 ≤ z.getD c.toNat 0 ∧ z.getD c.toNat 0 < n := (hz.2 c.toNat (by have := hz.1; omega)).1
theorem R.inside {n : Int} {zss : List (List Int)} (hp : ∀ z ∈ zss, Pm n z) {a b : Int} (h : R n zss a b) (h0 : 0 ≤ a) (h1 : a < n) : 0 ≤ b ∧ b < n :=
  h (fun c => 0 ≤ c ∧ c < n) ⟨h0, h1⟩ fun _ c0 c1 _ z hz => pm_in (hp z hz) c0 c1
def fwd (f : List Nat) (m : Nat) : Bool := (List.range 4).all fun i => !(m.testBit i) || m.testBit (f.getD i 0)
def bwd (f : List Nat) (m : Nat) : Bool := (List.range 4).all fun i => !(m.testBit (f.getD i 0)) || m.testBit i
theorem fin4b : ∀ a, a < 4 → ∀ b, b < 4 → ∀ c, c < 4 → ∀ d, d < 4 → ∀ m, m < 16 → (!(decide [a, b, c, d].Nodup) || !(fwd [a, b, c, d] m) || bwd [a, b, c, d] m) = true := by decide +kernel
theorem fin4 (a : Nat) (ha : a < 4) (b : Nat) (hb : b < 4) (c : Nat) (hc : c < 4) (d : Nat) (hd : d < 4) (hn : [a, b, c, d].Nodup) (m : Nat) (hm : m < 16) (h : ∀ i, i < 4 → m.testBit i = true → m.testBit ([a, b, c, d].getD i 0) = true) (i : Nat) (hi : i < 4) (hb2 : m.testBit ([a, b, c, d].getD i 0) = true) : m.testBit i = true := by
  have h1 := fin4b a ha b hb c hc d hd m hm
  have h2 : fwd [a, b, c, d] m = true := by
    rw [fwd, List.all_eq_true]
    intro j hj
    have hj4 : j < 4 := by simpa using hj
    rcases hb : m.testBit j with _ | _
    · rfl
    · rw [h j hj4 hb]; rfl
  rw [h2, show decide [a, b, c, d].Nodup = true from by simpa using hn] at h1
  have h3 : bwd [a, b, c, d] m = true := by simpa using h1
  rw [bwd, List.all_eq_true] at h3
  have := h3 i (by simpa using hi)
  rw [hb2] at this
  simpa using this
theorem bits4 (s0 s1 s2 s3 : Bool) : ∃ m, m < 16 ∧ m.testBit 0 = s0 ∧ m.testBit 1 = s1 ∧ m.testBit 2 = s2 ∧ m.testBit 3 = s3 := by
  refine ⟨s0.toNat + 2 * s1.toNat + 4 * s2.toNat + 8 * s3.toNat, ?_⟩
  cases s0 <;> cases s1 <;> cases s2 <;> cases s3 <;> decide
open Classical in
/-- What a permutation maps into a closed set lies in it. -/
theorem back {n : Int} {z : List Int} (hz : Pm n z) (hn : n ≤ 4) (S : Int → Prop) (hc : ∀ c, 0 ≤ c → c < n → S c → S (z.getD c.toNat 0)) {c : Int} (h0 : 0 ≤ c) (h1 : c < n) (h : S (z.getD c.toNat 0)) : S c := by
  have hl := hz.1
  have hv : ∀ i : Nat, (i : Int) < n → ∃ v : Nat, z.getD i 0 = (v : Int) ∧ (v : Int) < n := fun i hi => by
    have := (hz.2 i (by omega)).1
    exact ⟨(z.getD i 0).toNat, by omega, by omega⟩
  let f : Nat → Nat := fun i => if (i : Int) < n then (z.getD i 0).toNat else i
  let s : Nat → Bool := fun i => decide ((i : Int) < n ∧ S (i : Int))
  have f4 : ∀ i, i < 4 → f i < 4 := fun i hi => by
    show (if (i : Int) < n then (z.getD i 0).toNat else i) < 4
    split
    · rename_i h2
      obtain ⟨v, e, hv⟩ := hv i h2
      omega
    · exact hi
  have finj : ∀ i j, i < 4 → j < 4 → f i = f j → i = j := fun i j hi hj e => by
    have e' : (if (i : Int) < n then (z.getD i 0).toNat else i) = (if (j : Int) < n then (z.getD j 0).toNat else j) := e
    split at e'
    · rename_i h2
      obtain ⟨v, ev, hv1⟩ := hv i h2
      split at e'
      · rename_i h3
        obtain ⟨u, eu, hu1⟩ := hv j h3
        exact hz.inj (by omega) (by omega) (by omega)
      · omega
    · rename_i h2
      split at e'
      · rename_i h3
        obtain ⟨u, eu, hu1⟩ := hv j h3
        omega
      · exact e'
  have nd : [f 0, f 1, f 2, f 3].Nodup := by
    have a01 : ¬ f 0 = f 1 := fun e => by have := finj 0 1 (by omega) (by omega) e; omega
    have a02 : ¬ f 0 = f 2 := fun e => by have := finj 0 2 (by omega) (by omega) e; omega
    have a03 : ¬ f 0 = f 3 := fun e => by have := finj 0 3 (by omega) (by omega) e; omega
    have a12 : ¬ f 1 = f 2 := fun e => by have := finj 1 2 (by omega) (by omega) e; omega
    have a13 : ¬ f 1 = f 3 := fun e => by have := finj 1 3 (by omega) (by omega) e; omega
    have a23 : ¬ f 2 = f 3 := fun e => by have := finj 2 3 (by omega) (by omega) e; omega
    simp only [List.nodup_cons, List.mem_cons, List.not_mem_nil, or_false, not_or, List.nodup_nil, and_true, not_false_eq_true]
    exact ⟨⟨a01, a02, a03⟩, ⟨a12, a13⟩, a23⟩
  have gf : ∀ i, i < 4 → [f 0, f 1, f 2, f 3].getD i 0 = f i := fun i hi => by
    have h : i = 0 ∨ i = 1 ∨ i = 2 ∨ i = 3 := by omega
    rcases h with rfl | rfl | rfl | rfl <;> rfl
  obtain ⟨m, hm, m0, m1, m2, m3⟩ := bits4 (s 0) (s 1) (s 2) (s 3)
  have gs : ∀ i, i < 4 → m.testBit i = s i := fun i hi => by
    have h : i = 0 ∨ i = 1 ∨ i = 2 ∨ i = 3 := by omega
    rcases h with rfl | rfl | rfl | rfl <;> assumption
  have fs : ∀ i : Nat, (i : Int) < n → (s (f i) = true ↔ S (z.getD i 0)) := fun i hi => by
    obtain ⟨v, ev, hv1⟩ := hv i hi
    have e1 : f i = v := by
      show (if (i : Int) < n then (z.getD i 0).toNat else i) = v
      rw [if_pos hi]; omega
    rw [e1, ev]
    show decide ((v : Int) < n ∧ S (v : Int)) = true ↔ S (v : Int)
    rw [decide_eq_true_iff]
    exact ⟨fun h => h.2, fun h => ⟨hv1, h⟩⟩
  have key := fin4 (f 0) (f4 0 (by omega)) (f 1) (f4 1 (by omega)) (f 2) (f4 2 (by omega)) (f 3) (f4 3 (by omega)) nd m hm (fun i hi hs => by
    rw [gs i hi] at hs
    rw [gf i hi, gs _ (f4 i hi)]
    have hs' : (i : Int) < n ∧ S (i : Int) := of_decide_eq_true hs
    rw [fs i hs'.1]
    have := hc (i : Int) (by omega) hs'.1 hs'.2
    rwa [Int.toNat_natCast] at this)
  have kc : ((c.toNat : Nat) : Int) = c := by omega
  have hk := key c.toNat (by omega) (by
    rw [gf _ (by omega), gs _ (f4 _ (by omega)), fs _ (by omega)]
    exact h)
  rw [gs _ (by omega)] at hk
  have hk' : ((c.toNat : Nat) : Int) < n ∧ S ((c.toNat : Nat) : Int) := of_decide_eq_true hk
  rw [kc] at hk'
  exact hk'.2
theorem R.symm {n : Int} {zss : List (List Int)} (hp : ∀ z ∈ zss, Pm n z) (hn : n ≤ 4) {a b : Int} (h : R n zss a b) : R n zss b a := by
  apply Classical.byContradiction
  intro hno
  have := h (fun c => ¬ R n zss b c) hno fun c c0 c1 hq z hz hb => hq (back (hp z hz) hn (fun c => R n zss b c) (fun c c0 c1 hc => hc.step c0 c1 hz) c0 c1 hb)
  exact this (R.refl b)
def all4 : List Int := [0, 1, 2, 3]
open Classical in
/-- The class of a number, in order. -/
noncomputable def cl (n : Int) (zss : List (List Int)) (x : Int) : List Int := all4.filter fun y => decide (R n zss x y)
open Classical in
theorem mem_cl {n : Int} {zss : List (List Int)} (hp : ∀ z ∈ zss, Pm n z) (hn : n ≤ 4) {x y : Int} (h0 : 0 ≤ x) (h1 : x < n) : y ∈ cl n zss x ↔ R n zss x y := by
  unfold cl
  rw [List.mem_filter, decide_eq_true_iff]
  refine ⟨fun h => h.2, fun h => ⟨?_, h⟩⟩
  have := h.inside hp h0 h1
  have e : y = 0 ∨ y = 1 ∨ y = 2 ∨ y = 3 := by omega
  rcases e with rfl | rfl | rfl | rfl <;> simp [all4]

/-- The search: what the program lists. -/
def add (l : List Int) (y : Int) : List Int := if y ∈ l then l else l ++ [y]
def grow (zss : List (List Int)) (x : Int) (l : List Int) : Nat → List Int
  | 0 => l
  | k + 1 => add (grow zss x l k) ((zss.getD k []).getD x.toNat 0)
def bfs (zss : List (List Int)) (s : Int) : Nat → List Int
  | 0 => [s]
  | k + 1 => grow zss ((bfs zss s k).getD k 0) (bfs zss s k) zss.length
theorem add_pre (l : List Int) (y : Int) : l <+: add l y := by
  unfold add; split
  · exact List.prefix_refl _
  · exact List.prefix_append _ _
theorem add_mem (l : List Int) (y : Int) : y ∈ add l y := by
  unfold add; split
  · assumption
  · simp
theorem add_nodup {l : List Int} (h : l.Nodup) (y : Int) : (add l y).Nodup := by
  unfold add; split
  · exact h
  · rename_i hn
    rw [List.nodup_append]
    exact ⟨h, by simp, fun a ha b hb => by simp at hb; subst hb; intro e; subst e; exact hn ha⟩
theorem add_all {P : Int → Prop} {l : List Int} (h : ∀ x ∈ l, P x) {y : Int} (hy : P y) : ∀ x ∈ add l y, P x := by
  unfold add; split
  · exact h
  · intro x hx
    rcases List.mem_append.1 hx with hx | hx
    · exact h x hx
    · simp at hx; subst hx; exact hy
theorem grow_pre (zss : List (List Int)) (x : Int) (l : List Int) (k : Nat) : l <+: grow zss x l k := by
  induction k with
  | zero => exact List.prefix_refl _
  | succ k ih => exact ih.trans (add_pre _ _)
theorem grow_mono (zss : List (List Int)) (x : Int) (l : List Int) {j k : Nat} (h : j ≤ k) : grow zss x l j <+: grow zss x l k := by
  induction k with
  | zero => obtain rfl : j = 0 := by omega
            exact List.prefix_refl _
  | succ k ih =>
    by_cases e : j = k + 1
    · subst e; exact List.prefix_refl _
    · exact (ih (by omega)).trans (add_pre _ _)
theorem grow_mem (zss : List (List Int)) (x : Int) (l : List Int) {j k : Nat} (h : j < k) : (zss.getD j []).getD x.toNat 0 ∈ grow zss x l k := (grow_mono zss x l (show j + 1 ≤ k by omega)).subset (add_mem _ _)
theorem grow_nodup {zss : List (List Int)} {x : Int} {l : List Int} (h : l.Nodup) (k : Nat) : (grow zss x l k).Nodup := by
  induction k with
  | zero => exact h
  | succ k ih => exact add_nodup ih _
theorem grow_all {P : Int → Prop} {zss : List (List Int)} {x : Int} {l : List Int} (h : ∀ y ∈ l, P y) (hP : ∀ z ∈ zss, P (z.getD x.toNat 0)) {k : Nat} (hk : k ≤ zss.length) : ∀ y ∈ grow zss x l k, P y := by
  induction k with
  | zero => exact h
  | succ k ih =>
    refine add_all (ih (by omega)) (hP _ ?_)
    rw [List.getD_eq_getElem?_getD, List.getElem?_eq_getElem (by omega)]
    exact List.getElem_mem _
theorem bfs_pre (zss : List (List Int)) (s : Int) (k : Nat) : bfs zss s k <+: bfs zss s (k + 1) := grow_pre _ _ _ _
theorem bfs_nodup (zss : List (List Int)) (s : Int) (k : Nat) : (bfs zss s k).Nodup := by
  induction k with
  | zero => simp [bfs]
  | succ k ih => exact grow_nodup ih _
theorem getD_mem' {l : List Int} {k : Nat} (h : k < l.length) : l.getD k 0 ∈ l := by
  rw [List.getD_eq_getElem?_getD, List.getElem?_eq_getElem h]; exact List.getElem_mem _
/-- All that is listed lies in the class. -/
theorem bfs_all {n : Int} {zss : List (List Int)} (hp : ∀ z ∈ zss, Pm n z) {s : Int} (h0 : 0 ≤ s) (h1 : s < n) : ∀ k, (∀ j, j < k → j < (bfs zss s j).length) → ∀ y ∈ bfs zss s k, R n zss s y ∧ 0 ≤ y ∧ y < n := by
  intro k
  induction k with
  | zero => intro _ y hy; simp [bfs] at hy; subst hy; exact ⟨R.refl _, h0, h1⟩
  | succ k ih =>
    intro hj
    have ih' := ih fun j hj' => hj j (by omega)
    have hx := ih' _ (getD_mem' (hj k (by omega)))
    exact grow_all ih' (fun z hz => ⟨hx.1.step hx.2.1 hx.2.2 hz, pm_in (hp z hz) hx.2.1 hx.2.2⟩) (Nat.le_refl _)
theorem bfs_len {n : Int} {zss : List (List Int)} (hp : ∀ z ∈ zss, Pm n z) (hn : n ≤ 4) {s : Int} (h0 : 0 ≤ s) (h1 : s < n) {k : Nat} (hk : ∀ j, j < k → j < (bfs zss s j).length) : 1 ≤ (bfs zss s k).length ∧ (bfs zss s k).length ≤ 4 := by
  constructor
  · have : s ∈ bfs zss s k := by
      induction k with
      | zero => simp [bfs]
      | succ k ih => exact (bfs_pre zss s k).subset (ih fun j hj => hk j (by omega))
    exact List.length_pos_of_mem this
  · have := pigeon 4 _ (bfs_nodup zss s k) fun x hx => by have := (bfs_all hp h0 h1 k hk x hx).2; omega
    exact this
/-- When all listed numbers have been followed, the list is closed. -/
theorem bfs_closed {zss : List (List Int)} {s : Int} : ∀ k, (∀ j, j < k → j < (bfs zss s j).length) → ∀ i, i < k → ∀ z ∈ zss, z.getD ((bfs zss s k).getD i 0).toNat 0 ∈ bfs zss s k := by
  intro k
  induction k with
  | zero => intro _ i hi; omega
  | succ k ih =>
    intro hj i hi z hz
    have hjk := hj k (by omega)
    have hpre := bfs_pre zss s k
    have hget : ∀ i, i < (bfs zss s k).length → (bfs zss s (k + 1)).getD i 0 = (bfs zss s k).getD i 0 := fun i hi => by
      obtain ⟨t, ht⟩ := hpre
      rw [← ht, List.getD_eq_getElem?_getD, List.getD_eq_getElem?_getD, List.getElem?_append_left hi]
    by_cases e : i = k
    · subst e
      rw [hget i hjk]
      obtain ⟨q, hq, rfl⟩ := List.mem_iff_getElem.1 hz
      have := grow_mem zss ((bfs zss s i).getD i 0) (bfs zss s i) (j := q) (k := zss.length) hq
      rw [List.getD_eq_getElem?_getD (l := zss), List.getElem?_eq_getElem hq] at this
      exact this
    · have hik : i < (bfs zss s k).length := by
        have h1 := hj i (by omega)
        have : (bfs zss s i).length ≤ (bfs zss s k).length := by
          have hm : ∀ d, (bfs zss s i).length ≤ (bfs zss s (i + d)).length := fun d => by
            induction d with
            | zero => exact Nat.le_refl _
            | succ d ihd => exact Nat.le_trans ihd (bfs_pre zss s (i + d)).length_le
          have := hm (k - i)
          rwa [show i + (k - i) = k by omega] at this
        omega
      rw [hget i hik]
      exact hpre.subset (ih (fun j hj' => hj j (by omega)) i (by omega) z hz)
theorem bfs_mem {n : Int} {zss : List (List Int)} (hp : ∀ z ∈ zss, Pm n z) {s : Int} (h0 : 0 ≤ s) (h1 : s < n) {k : Nat} (hk : ∀ j, j < k → j < (bfs zss s j).length) (he : (bfs zss s k).length ≤ k) (y : Int) : y ∈ bfs zss s k ↔ R n zss s y := by
  refine ⟨fun h => (bfs_all hp h0 h1 k hk y h).1, fun h => ?_⟩
  refine h (fun c => c ∈ bfs zss s k) ?_ fun c c0 c1 hc z hz => ?_
  · clear he
    induction k with
    | zero => simp [bfs]
    | succ k ih => exact (bfs_pre zss s k).subset (ih fun j hj => hk j (by omega))
  · obtain ⟨i, hi, rfl⟩ := List.mem_iff_getElem.1 hc
    have := bfs_closed k hk i (by omega) z hz
    rwa [List.getD_eq_getElem?_getD (l := bfs zss s k), List.getElem?_eq_getElem hi] at this
/-- The library's sort of a short list, exchange by exchange. -/
def sink (l : List Int) : Nat → List Int
  | 0 => l
  | j + 1 => if l.getD (j + 1) 0 < l.getD j 0 then sink ((l.set (j + 1) (l.getD j 0)).set j (l.getD (j + 1) 0)) j else l
def srt (l : List Int) : Nat → List Int
  | 0 => l
  | i + 1 => sink (srt l i) (i + 1)
theorem sink_len (l : List Int) (j : Nat) : (sink l j).length = l.length := by
  induction j generalizing l with
  | zero => rfl
  | succ j ih => rw [sink]; split <;> simp [ih]
theorem srt_len (l : List Int) (i : Nat) : (srt l i).length = l.length := by
  induction i with
  | zero => rfl
  | succ i ih => rw [srt, sink_len, ih]
theorem srt1 : ∀ a : Nat, a < 4 → srt [(a : Int)] 0 = all4.filter (· ∈ [(a : Int)]) := by decide +kernel
theorem srt2 : ∀ a : Nat, a < 4 → ∀ b : Nat, b < 4 → [a, b].Nodup → srt [(a : Int), (b : Int)] 1 = all4.filter (· ∈ [(a : Int), (b : Int)]) := by decide +kernel
theorem srt3 : ∀ a : Nat, a < 4 → ∀ b : Nat, b < 4 → ∀ c : Nat, c < 4 → [a, b, c].Nodup → srt [(a : Int), (b : Int), (c : Int)] 2 = all4.filter (· ∈ [(a : Int), (b : Int), (c : Int)]) := by decide +kernel
theorem srt4b : ∀ a : Nat, a < 4 → ∀ b : Nat, b < 4 → ∀ c : Nat, c < 4 → ∀ d : Nat, d < 4 → (!(decide [a, b, c, d].Nodup) || decide (srt [(a : Int), (b : Int), (c : Int), (d : Int)] 3 = all4.filter (· ∈ [(a : Int), (b : Int), (c : Int), (d : Int)]))) = true := by decide +kernel
theorem srt4 (a : Nat) (ha : a < 4) (b : Nat) (hb : b < 4) (c : Nat) (hc : c < 4) (d : Nat) (hd : d < 4) (hn : [a, b, c, d].Nodup) : srt [(a : Int), (b : Int), (c : Int), (d : Int)] 3 = all4.filter (· ∈ [(a : Int), (b : Int), (c : Int), (d : Int)]) := by
  have h := srt4b a ha b hb c hc d hd
  rw [show decide [a, b, c, d].Nodup = true from by simpa using hn] at h
  simpa using h
theorem nat_nodup {l : List Nat} (h : (l.map fun x : Nat => (x : Int)).Nodup) : l.Nodup := by
  induction l with
  | nil => simp
  | cons a l ih =>
    rw [List.map_cons, List.nodup_cons] at h
    rw [List.nodup_cons]
    exact ⟨fun ha => h.1 (List.mem_map.2 ⟨a, ha, rfl⟩), ih h.2⟩
/-- A short list of different small numbers is sorted to the small numbers that it has. -/
theorem srt_all {l : List Int} (hn : l.Nodup) (hv : ∀ x ∈ l, 0 ≤ x ∧ x < 4) (h1 : 1 ≤ l.length) (h4 : l.length ≤ 4) : srt l (l.length - 1) = all4.filter (· ∈ l) := by
  have nat : ∀ x ∈ l, ∃ v : Nat, x = (v : Int) ∧ v < 4 := fun x hx => ⟨x.toNat, by have := hv x hx; omega, by have := hv x hx; omega⟩
  match l, h1, h4 with
  | [a], _, _ =>
    obtain ⟨a', rfl, ha⟩ := nat a (by simp)
    exact srt1 a' ha
  | [a, b], _, _ =>
    obtain ⟨a', rfl, ha⟩ := nat a (by simp)
    obtain ⟨b', rfl, hb⟩ := nat b (by simp)
    exact srt2 a' ha b' hb (nat_nodup (l := [a', b']) hn)
  | [a, b, c], _, _ =>
    obtain ⟨a', rfl, ha⟩ := nat a (by simp)
    obtain ⟨b', rfl, hb⟩ := nat b (by simp)
    obtain ⟨c', rfl, hc⟩ := nat c (by simp)
    exact srt3 a' ha b' hb c' hc (nat_nodup (l := [a', b', c']) hn)
  | [a, b, c, d], _, _ =>
    obtain ⟨a', rfl, ha⟩ := nat a (by simp)
    obtain ⟨b', rfl, hb⟩ := nat b (by simp)
    obtain ⟨c', rfl, hc⟩ := nat c (by simp)
    obtain ⟨d', rfl, hd⟩ := nat d (by simp)
    exact srt4 a' ha b' hb c' hc d' hd (nat_nodup (l := [a', b', c', d']) hn)
open Classical in
/-- The search, sorted, is the class. -/
theorem srt_cl {n : Int} {zss : List (List Int)} (hp : ∀ z ∈ zss, Pm n z) (hn : n ≤ 4) {s : Int} (h0 : 0 ≤ s) (h1 : s < n) {k : Nat} (hk : ∀ j, j < k → j < (bfs zss s j).length) (he : (bfs zss s k).length ≤ k) : srt (bfs zss s k) ((bfs zss s k).length - 1) = cl n zss s := by
  obtain ⟨l1, l4⟩ := bfs_len hp hn h0 h1 hk
  rw [srt_all (bfs_nodup zss s k) (fun x hx => by have := (bfs_all hp h0 h1 k hk x hx).2; omega) l1 l4]
  unfold cl
  refine List.filter_congr fun y _ => ?_
  rw [Bool.eq_iff_iff, decide_eq_true_iff, decide_eq_true_iff]
  exact bfs_mem hp h0 h1 hk he y
/-- What is listed of the numbers up to x. -/
noncomputable def outs (n : Int) (zss : List (List Int)) : Nat → List (List Int)
  | 0 => []
  | x + 1 => if (cl n zss (x : Int)).getD 0 0 = (x : Int) then outs n zss x ++ [cl n zss (x : Int)] else outs n zss x
end Ob
end Go.Proofs.Ytiibedpacnficaa
