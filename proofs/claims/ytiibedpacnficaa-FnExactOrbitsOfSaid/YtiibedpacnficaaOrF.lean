/- The roots of a set of permutations, as the specification finds them: plain mathematics. No condition but those that each theorem names. -/
import Derived.Test.YtiibedpacnficaaOrA
import Derived.Test.YtiibedpacnficaaSsA
namespace Go.Proofs.Ytiibedpacnficaa
open Go.RowKit
namespace Ob
open Rp

def ini (n : Nat) : List Int := (List.range n).map fun (x : Nat) => (x : Int)
theorem ini_len (n : Nat) : (ini n).length = n := by simp [ini]
theorem ini_succ (n : Nat) : ini (n + 1) = ini n ++ [(n : Int)] := by simp [ini, List.range_succ]
theorem ini_get {n i : Nat} (h : i < n) : (ini n).getD i 0 = (i : Int) := by simp [ini, List.getD_eq_getElem?_getD, h]
/-- The first k numbers equal to M are turned into m. -/
def mrg (l : List Int) (M m : Int) : Nat → List Int
  | 0 => l
  | k + 1 => if (mrg l M m k).getD k 0 = M then (mrg l M m k).set k m else mrg l M m k
theorem mrg_len (l : List Int) (M m : Int) (k : Nat) : (mrg l M m k).length = l.length := by
  induction k with
  | zero => rfl
  | succ k ih => unfold mrg; split <;> simp [ih]
theorem getD_set {l : List Int} {k i : Nat} {u : Int} (hk : k < l.length) : (l.set k u).getD i 0 = if i = k then u else l.getD i 0 := by
  rw [List.getD_eq_getElem?_getD, List.getElem?_set]
  by_cases h : k = i
  · subst h; simp [hk]
  · rw [if_neg h, if_neg (fun e => h e.symm), ← List.getD_eq_getElem?_getD]
theorem mrg_get (l : List Int) (M m : Int) (k : Nat) (hk : k ≤ l.length) (i : Nat) : (mrg l M m k).getD i 0 = if i < k ∧ l.getD i 0 = M then m else l.getD i 0 := by
  induction k generalizing i with
  | zero => simp [mrg]
  | succ k ih =>
    have ih' := ih (by omega)
    have hke : (mrg l M m k).getD k 0 = l.getD k 0 := by rw [ih' k, if_neg (by omega)]
    unfold mrg
    rw [hke]
    by_cases h : l.getD k 0 = M
    · rw [if_pos h, getD_set (by rw [mrg_len]; omega)]
      by_cases e : i = k
      · rw [if_pos e, if_pos ⟨by omega, by rw [e]; exact h⟩]
      · rw [if_neg e, ih']
        by_cases h2 : i < k ∧ l.getD i 0 = M
        · rw [if_pos h2, if_pos ⟨by omega, h2.2⟩]
        · rw [if_neg h2, if_neg (fun h3 => h2 ⟨by omega, h3.2⟩)]
    · rw [if_neg h, ih']
      by_cases h2 : i < k ∧ l.getD i 0 = M
      · rw [if_pos h2, if_pos ⟨by omega, h2.2⟩]
      · rw [if_neg h2, if_neg (fun h3 => by
          rcases Nat.lt_or_ge i k with h4 | h4
          · exact h2 ⟨h4, h3.2⟩
          · obtain rfl : i = k := by omega
            exact h h3.2)]
def rtx (n : Nat) (zs : List Int) (l : List Int) : Nat → List Int
  | 0 => l
  | x + 1 => mrg (rtx n zs l x) (max ((rtx n zs l x).getD x 0) ((rtx n zs l x).getD (zs.getD x 0).toNat 0)) (min ((rtx n zs l x).getD x 0) ((rtx n zs l x).getD (zs.getD x 0).toNat 0)) n
def rtg (n : Nat) (zss : List (List Int)) : Nat → List Int
  | 0 => ini n
  | g + 1 => rtx n (zss.getD g []) (rtg n zss g) n
theorem rtx_len (n : Nat) (zs l : List Int) (x : Nat) : (rtx n zs l x).length = l.length := by
  induction x with
  | zero => rfl
  | succ x ih => unfold rtx; rw [mrg_len, ih]
theorem rtg_len (n : Nat) (zss : List (List Int)) (g : Nat) : (rtg n zss g).length = n := by
  induction g with
  | zero => exact ini_len n
  | succ g ih => unfold rtg; rw [rtx_len, ih]
/-- What every root list keeps: roots lie in the classes of their numbers, not above them. -/
def RtOk (n : Nat) (zss : List (List Int)) (l : List Int) : Prop := l.length = n ∧ ∀ i, i < n → (0 ≤ l.getD i 0 ∧ l.getD i 0 ≤ i) ∧ R n zss i (l.getD i 0)
theorem RtOk.mrg_ {n : Nat} {zss : List (List Int)} (hp : ∀ z ∈ zss, Pm n z) (hn : n ≤ 4) {l : List Int} (h : RtOk n zss l) {x : Nat} (hx : x < n) {z : List Int} (hz : z ∈ zss) :
    RtOk n zss (mrg l (max (l.getD x 0) (l.getD (z.getD x 0).toNat 0)) (min (l.getD x 0) (l.getD (z.getD x 0).toNat 0)) n) := by
  refine ⟨by rw [mrg_len]; exact h.1, fun i hi => ?_⟩
  rw [mrg_get _ _ _ _ (by rw [h.1]; exact Nat.le_refl _)]
  have hI := h.2 i hi
  by_cases hc : i < n ∧ l.getD i 0 = max (l.getD x 0) (l.getD (z.getD x 0).toNat 0)
  · rw [if_pos hc]
    have hy := pm_in (hp z hz) (c := (x : Int)) (by omega) (by omega)
    rw [Int.toNat_natCast] at hy
    obtain ⟨y, hye⟩ : ∃ y : Nat, z.getD x 0 = y := ⟨(z.getD x 0).toNat, by omega⟩
    have hxy : R n zss (x : Int) (z.getD x 0) := by
      have := (R.refl (n := n) (zss := zss) (x : Int)).step (by omega) (by omega) hz
      rw [Int.toNat_natCast] at this
      exact this
    rw [hye] at hc hxy ⊢
    rw [Int.toNat_natCast] at hc ⊢
    have hX := h.2 x hx
    have hY := h.2 y (by omega)
    obtain ⟨a, ha⟩ : ∃ a, l.getD x 0 = a := ⟨_, rfl⟩
    obtain ⟨b, hb⟩ : ∃ b, l.getD y 0 = b := ⟨_, rfl⟩
    rw [ha, hb] at hc ⊢
    rw [ha] at hX
    rw [hb] at hY
    have hab : R n zss a b := ((hX.2.symm hp (by omega)).trans hxy).trans hY.2
    have hba := hab.symm hp (by omega)
    rw [hc.2] at hI
    refine ⟨⟨by omega, by omega⟩, ?_⟩
    rcases Int.le_total a b with hle | hle
    · rw [Int.min_eq_left hle]; rw [Int.max_eq_right hle] at hI; exact hI.2.trans hba
    · rw [Int.min_eq_right hle]; rw [Int.max_eq_left hle] at hI; exact hI.2.trans hab
  · rw [if_neg hc]; exact hI
/-- Equal roots stay equal; the pair that is followed gets equal roots. -/
theorem mrg_eq {n : Nat} {l : List Int} (hl : l.length = n) (M m : Int) {i j : Nat} (hi : i < n) (hj : j < n) (h : l.getD i 0 = l.getD j 0) : (mrg l M m n).getD i 0 = (mrg l M m n).getD j 0 := by
  rw [mrg_get _ _ _ _ (by omega), mrg_get _ _ _ _ (by omega), h]
  by_cases e : l.getD j 0 = M
  · rw [if_pos ⟨hi, e⟩, if_pos ⟨hj, e⟩]
  · rw [if_neg (fun h => e h.2), if_neg (fun h => e h.2)]
theorem mrg_pair {n : Nat} {l : List Int} (hl : l.length = n) {i j : Nat} (hi : i < n) (hj : j < n) : (mrg l (max (l.getD i 0) (l.getD j 0)) (min (l.getD i 0) (l.getD j 0)) n).getD i 0 = (mrg l (max (l.getD i 0) (l.getD j 0)) (min (l.getD i 0) (l.getD j 0)) n).getD j 0 := by
  rw [mrg_get _ _ _ _ (by omega), mrg_get _ _ _ _ (by omega)]
  generalize l.getD i 0 = a
  generalize l.getD j 0 = b
  by_cases h1 : i < n ∧ a = max a b
  · by_cases h2 : j < n ∧ b = max a b
    · rw [if_pos h1, if_pos h2]
    · rw [if_pos h1, if_neg h2]; omega
  · by_cases h2 : j < n ∧ b = max a b
    · rw [if_neg h1, if_pos h2]; omega
    · omega
theorem rtx_ok {n : Nat} {zss : List (List Int)} (hp : ∀ z ∈ zss, Pm n z) (hn : n ≤ 4) {l : List Int} (h : RtOk n zss l) {z : List Int} (hz : z ∈ zss) (x : Nat) (hx : x ≤ n) :
    RtOk n zss (rtx n z l x) ∧ (∀ i j, i < n → j < n → l.getD i 0 = l.getD j 0 → (rtx n z l x).getD i 0 = (rtx n z l x).getD j 0) ∧ ∀ i, i < x → (rtx n z l x).getD i 0 = (rtx n z l x).getD (z.getD i 0).toNat 0 := by
  induction x with
  | zero => exact ⟨h, fun _ _ _ _ e => e, fun i hi => by omega⟩
  | succ x ih =>
    obtain ⟨h1, h2, h3⟩ := ih (by omega)
    have hin : ∀ i, i < n → (z.getD i 0).toNat < n := fun i hi => by
      have hy := pm_in (hp z hz) (c := (i : Int)) (by omega) (by omega)
      rw [Int.toNat_natCast] at hy
      omega
    unfold rtx
    refine ⟨h1.mrg_ hp hn (by omega) hz, fun i j hi hj e => mrg_eq h1.1 _ _ hi hj (h2 i j hi hj e), fun i hi => ?_⟩
    rcases Nat.lt_or_ge i x with hlt | hge
    · exact mrg_eq h1.1 _ _ (by omega) (hin i (by omega)) (h3 i hlt)
    · obtain rfl : i = x := by omega
      exact mrg_pair h1.1 (by omega) (hin i (by omega))
theorem rtg_ok {n : Nat} {zss : List (List Int)} (hp : ∀ z ∈ zss, Pm n z) (hn : n ≤ 4) (g : Nat) (hg : g ≤ zss.length) :
    RtOk n zss (rtg n zss g) ∧ ∀ j, j < g → ∀ i, i < n → (rtg n zss g).getD i 0 = (rtg n zss g).getD ((zss.getD j []).getD i 0).toNat 0 := by
  induction g with
  | zero => exact ⟨⟨ini_len n, fun i hi => by show _ ∧ R _ _ _ ((ini n).getD i 0); rw [show (rtg n zss 0).getD i 0 = (i : Int) from ini_get hi, ini_get hi]; exact ⟨⟨by omega, Int.le_refl _⟩, R.refl _⟩⟩, fun j hj => by omega⟩
  | succ g ih =>
    obtain ⟨h1, h2⟩ := ih (by omega)
    have hz : zss.getD g [] ∈ zss := by
      rw [List.getD_eq_getElem?_getD, List.getElem?_eq_getElem (by omega)]
      exact List.getElem_mem _
    obtain ⟨k1, k2, k3⟩ := rtx_ok hp hn h1 hz n (Nat.le_refl _)
    unfold rtg
    refine ⟨k1, fun j hj i hi => ?_⟩
    rcases Nat.lt_or_ge j g with hlt | hge
    · have hzj : zss.getD j [] ∈ zss := by
        rw [List.getD_eq_getElem?_getD, List.getElem?_eq_getElem (by omega)]
        exact List.getElem_mem _
      have hy := pm_in (hp _ hzj) (c := (i : Int)) (by omega) (by omega)
      rw [Int.toNat_natCast] at hy
      exact k2 _ _ hi (by omega) (h2 j hlt i hi)
    · obtain rfl : j = g := by omega
      exact k3 i hi
/-- At the end a number's root is the least of its class. -/
theorem rtg_root {n : Nat} {zss : List (List Int)} (hp : ∀ z ∈ zss, Pm n z) (hn : n ≤ 4) {x : Nat} (hx : x < n) (r : Nat) (hr : r < n) :
    (rtg n zss zss.length).getD x 0 = (r : Int) ↔ R n zss r x ∧ ∀ y : Nat, y < n → R n zss r y → r ≤ y := by
  obtain ⟨h1, h2⟩ := rtg_ok hp hn zss.length (Nat.le_refl _)
  generalize rtg n zss zss.length = l at h1 h2
  have hcl : ∀ a b : Int, 0 ≤ a → a < n → R n zss a b → l.getD b.toNat 0 = l.getD a.toNat 0 := fun a b a0 a1 hR => by
    refine hR (fun b => l.getD b.toNat 0 = l.getD a.toNat 0) rfl fun c c0 c1 hc z hz => ?_
    obtain ⟨j, hj, e⟩ := List.getElem_of_mem hz
    have := h2 j hj c.toNat (by omega)
    rw [List.getD_eq_getElem?_getD (l := zss), List.getElem?_eq_getElem hj, e] at this
    rw [← hc, this]
    rfl
  constructor
  · intro h
    have hX := (h1.2 x hx).2
    rw [h] at hX
    refine ⟨hX.symm hp (by omega), fun y hy hRy => ?_⟩
    have e := hcl x y (by omega) (by omega) (hX.trans hRy)
    rw [Int.toNat_natCast, Int.toNat_natCast, h] at e
    have := (h1.2 y hy).1.2
    omega
  · rintro ⟨hR, hmin⟩
    have e := hcl r x (by omega) (by omega) hR
    rw [Int.toNat_natCast, Int.toNat_natCast] at e
    have hX := h1.2 r hr
    obtain ⟨v, hv⟩ : ∃ v : Nat, l.getD r 0 = v := ⟨(l.getD r 0).toNat, by omega⟩
    rw [e, hv]
    rw [hv] at hX
    have := hmin v (by omega) hX.2
    omega
def rowP (P : Nat → Bool) : Nat → List Int
  | 0 => []
  | x + 1 => if P x = true then rowP P x ++ [(x : Int)] else rowP P x
theorem rowP_all (P Q : Nat → Bool) (n : Nat) (hn : n ≤ 4) (h1 : ∀ x, x < n → P x = Q x) (h2 : ∀ x, n ≤ x → Q x = false) : rowP P n = all4.filter fun y => Q y.toNat := by
  have e : ∀ k, k ≤ n → rowP P k = rowP Q k := fun k hk => by
    induction k with
    | zero => rfl
    | succ k ih => unfold rowP; rw [ih (by omega), h1 k (by omega)]
  rw [e n (Nat.le_refl _)]
  have hQ : rowP Q n = rowP Q 4 := by
    have : ∀ d, rowP Q (n + d) = rowP Q n := fun d => by
      induction d with
      | zero => rfl
      | succ d ih => rw [← ih]; show (if Q (n + d) = true then rowP Q (n + d) ++ [((n + d : Nat) : Int)] else rowP Q (n + d)) = _; rw [h2 (n + d) (by omega)]; rfl
    have := this (4 - n)
    rw [show n + (4 - n) = 4 by omega] at this
    exact this.symm
  rw [hQ]
  unfold all4
  simp only [rowP, List.filter]
  show _ = (match Q 0 with | true => _ | false => _)
  rw [show (2 : Int).toNat = 2 from rfl, show (3 : Int).toNat = 3 from rfl, show (1 : Int).toNat = 1 from rfl]
  cases Q 0 <;> cases Q 1 <;> cases Q 2 <;> cases Q 3 <;> rfl
theorem rowP_none (P : Nat → Bool) (n : Nat) (h : ∀ x, x < n → P x = false) : rowP P n = [] := by
  induction n with
  | zero => rfl
  | succ n ih => unfold rowP; rw [h n (by omega), ih fun x hx => h x (by omega)]; rfl
theorem rowP_len (P : Nat → Bool) (n : Nat) : (rowP P n).length ≤ n := by
  induction n with
  | zero => exact Nat.le_refl _
  | succ n ih =>
    unfold rowP
    split
    · rw [List.length_append]; simp; omega
    · omega
theorem cl_head {n : Int} {zss : List (List Int)} (hp : ∀ z ∈ zss, Pm n z) (hn : n ≤ 4) {r : Int} (h0 : 0 ≤ r) (h1 : r < n) : (cl n zss r).getD 0 0 = r ↔ ∀ y, R n zss r y → r ≤ y := by
  have hpw : (cl n zss r).Pairwise (· < ·) := List.Pairwise.filter _ (by unfold all4; decide)
  have hm := fun y => mem_cl (y := y) hp hn h0 h1
  have hr : r ∈ cl n zss r := (hm r).2 (R.refl _)
  cases hc : cl n zss r with
  | nil => rw [hc] at hr; simp at hr
  | cons a t =>
    rw [hc] at hpw hr hm
    rw [List.pairwise_cons] at hpw
    show a = r ↔ _
    constructor
    · rintro rfl y hy
      rcases List.mem_cons.1 ((hm y).2 hy) with e | e
      · omega
      · have := hpw.1 y e; omega
    · intro h
      have ha := h a ((hm a).1 (List.mem_cons_self ..))
      rcases List.mem_cons.1 hr with e | e
      · omega
      · have := hpw.1 r e; omega
open Classical in
/-- The specification's row of r. -/
theorem row_cl {n : Nat} {zss : List (List Int)} (hp : ∀ z ∈ zss, Pm n z) (hn : n ≤ 4) (r : Nat) (hr : r < n) :
    rowP (fun x => (rtg n zss zss.length).getD x 0 == (r : Int)) n = if (cl n zss (r : Int)).getD 0 0 = (r : Int) then cl n zss (r : Int) else [] := by
  have hh := cl_head hp (by omega) (r := (r : Int)) (by omega) (by omega)
  have hin : ∀ y, R n zss (r : Int) y → 0 ≤ y ∧ y < n := fun y h => h.inside hp (by omega) (by omega)
  by_cases hm : ∀ y, R n zss (r : Int) y → (r : Int) ≤ y
  · rw [if_pos (hh.2 hm)]
    unfold cl
    rw [rowP_all _ (fun x => decide (R n zss (r : Int) (x : Int))) n hn (fun x hx => ?_) (fun x hx => ?_)]
    · refine List.filter_congr fun y hy => ?_
      have h4 : 0 ≤ y := by unfold all4 at hy; simp at hy; omega
      rw [Bool.eq_iff_iff, decide_eq_true_iff, decide_eq_true_iff, Int.toNat_of_nonneg h4]
    · rw [Bool.eq_iff_iff, beq_iff_eq, decide_eq_true_iff, rtg_root hp hn hx r hr]
      exact ⟨fun h => h.1, fun h => ⟨h, fun y hy hR => by have := hm y hR; omega⟩⟩
    · rw [decide_eq_false_iff_not]
      intro h
      have := hin _ h
      omega
  · rw [if_neg (fun h => hm (hh.1 h))]
    refine rowP_none _ _ fun x hx => ?_
    rw [Bool.eq_false_iff]
    intro h
    rw [beq_iff_eq, rtg_root hp hn hx r hr] at h
    refine hm fun y hy => ?_
    have hy2 := hin y hy
    have := h.2 y.toNat (by omega) (by rw [Int.toNat_of_nonneg hy2.1]; exact hy)
    omega
theorem outs_row {n : Nat} {zss : List (List Int)} (hp : ∀ z ∈ zss, Pm n z) (hn : n ≤ 4) (r : Nat) (hr : r < n) :
    outs n zss (r + 1) = if 0 < (rowP (fun x => (rtg n zss zss.length).getD x 0 == (r : Int)) n).length then outs n zss r ++ [rowP (fun x => (rtg n zss zss.length).getD x 0 == (r : Int)) n] else outs n zss r := by
  rw [row_cl hp hn r hr]
  show (if _ then _ else _) = _
  by_cases h : (cl n zss (r : Int)).getD 0 0 = (r : Int)
  · rw [if_pos h, if_pos h, if_pos]
    exact List.length_pos_of_mem ((mem_cl hp (by omega) (by omega) (by omega)).2 (R.refl _))
  · rw [if_neg h, if_neg h, if_neg (by simp)]
end Ob
end Go.Proofs.Ytiibedpacnficaa
