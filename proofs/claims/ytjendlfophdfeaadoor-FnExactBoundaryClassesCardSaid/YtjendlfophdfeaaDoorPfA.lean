/- Permutations of four numbers: plain mathematics. No condition but those that each theorem names. -/
import Derived.Test.YtjendlfophdfeaaDoorRows
namespace Go.Proofs.YtjendlfophdfeaaDoor
namespace P4
def tab : List (List Int) := [[0,1,2,3],[0,1,3,2],[0,2,1,3],[0,2,3,1],[0,3,1,2],[0,3,2,1],[1,0,2,3],[1,0,3,2],[1,2,0,3],[1,2,3,0],[1,3,0,2],[1,3,2,0],[2,0,1,3],[2,0,3,1],[2,1,0,3],[2,1,3,0],[2,3,0,1],[2,3,1,0],[3,0,1,2],[3,0,2,1],[3,1,0,2],[3,1,2,0],[3,2,0,1],[3,2,1,0]]
/-- The images of the permutation with the index p. -/
def im (p : Nat) : List Int := tab.getD p []
theorem im_len : ∀ p, p < 24 → (im p).length = 4 := by decide +kernel
theorem im_in : ∀ p, p < 24 → ∀ k, k < 4 → 0 ≤ (im p).getD k 0 ∧ (im p).getD k 0 < 4 := by decide +kernel
/-- The specification's list: its sizes, what is left of the index, the place that is picked, the numbers that are left. -/
def sz : Nat → Nat
  | 0 => 6
  | 1 => 2
  | _ => 1
def rem (p : Nat) : Nat → Nat
  | 0 => p
  | j + 1 => rem p j % sz j
def pick (p j : Nat) : Nat := rem p j / sz j
def left (p : Nat) : Nat → List Int
  | 0 => [0, 1, 2, 3]
  | j + 1 => (left p j).take (pick p j) ++ (left p j).drop (pick p j + 1)
theorem im_step : ∀ p, p < 24 → ∀ j, j < 4 → pick p j < 4 - j ∧ (left p j).length = 4 - j ∧ (left p j).getD (pick p j) 0 = (im p).getD j 0 ∧ rem p j < 24 := by decide +kernel
theorem sz_step : ∀ j, j < 3 → sz j / (3 - j) = sz (j + 1) := by decide +kernel
theorem sz_pos (j : Nat) : 1 ≤ sz j ∧ sz j ≤ 6 := by
  match j with
  | 0 => decide
  | 1 => decide
  | j + 2 => exact ⟨Nat.le_refl 1, Nat.le_of_ble_eq_true rfl⟩
/-- First l, then m. -/
def comp (l m : List Int) : List Int := l.map fun x => m.getD x.toNat 0
/-- The index of a list of images; 24 if it is none of a permutation. -/
def ix (l : List Int) : Nat := tab.idxOf l
theorem ix_im : ∀ p, p < 24 → ix (im p) = p := by decide +kernel
theorem im_ix {l : List Int} (h : ix l < 24) : im (ix l) = l := by
  unfold ix at h ⊢
  unfold im
  rw [List.getD_eq_getElem?_getD, List.getElem?_eq_getElem (show List.idxOf l tab < tab.length from h)]
  simp
theorem comp_ix : ∀ p, p < 24 → ∀ q, q < 24 → ix (comp (im p) (im q)) < 24 := by decide +kernel
def thn (p q : Nat) : Nat := ix (comp (im p) (im q))
theorem thn_im {p q : Nat} (hp : p < 24) (hq : q < 24) : im (thn p q) = comp (im p) (im q) := im_ix (comp_ix p hp q hq)
/-- How many of the first j numbers are less than the one at place i. -/
def cnt (l : List Int) (i : Nat) : Nat → Int
  | 0 => 0
  | j + 1 => cnt l i j + if l.getD j 0 < l.getD i 0 then 1 else 0
theorem cnt_in (l : List Int) (i j : Nat) : 0 ≤ cnt l i j ∧ cnt l i j ≤ j := by
  induction j with
  | zero => exact ⟨by simp [cnt], by simp [cnt]⟩
  | succ j ih =>
    rw [cnt]
    split <;> omega
/-- The specification's index, by its sum. -/
def lh (l : List Int) : Nat → Int
  | 0 => 0
  | i + 1 => lh l i + (sz i : Int) * (l.getD i 0 - cnt l i i)
theorem lh_im : ∀ p, p < 24 → lh (im p) 3 = p := by decide +kernel
/-- The inverse, place by place. -/
def invk (l : List Int) : Nat → List Int
  | 0 => [0, 0, 0, 0]
  | k + 1 => (invk l k).set (l.getD k 0).toNat k
theorem invk_len (l : List Int) (k : Nat) : (invk l k).length = 4 := by
  induction k with
  | zero => rfl
  | succ k ih => rw [invk, List.length_set, ih]
theorem inv_ix : ∀ p, p < 24 → ix (invk (im p) 4) < 24 := by decide +kernel
def ivt (p : Nat) : Nat := ix (invk (im p) 4)
theorem ivt_im {p : Nat} (hp : p < 24) : im (ivt p) = invk (im p) 4 := im_ix (inv_ix p hp)
/-- The sign, pair by pair. -/
def sgI (l : List Int) (j : Nat) (s : Int) : Nat → Int
  | 0 => s
  | i + 1 => if l.getD i 0 > l.getD j 0 then -(sgI l j s i) else sgI l j s i
def sgO (l : List Int) : Nat → Int
  | 0 => 1
  | j + 1 => sgI l j (sgO l j) j
theorem sgI_in {l : List Int} {j : Nat} {s : Int} (h : s = 1 ∨ s = -1) (i : Nat) : sgI l j s i = 1 ∨ sgI l j s i = -1 := by
  induction i with
  | zero => exact h
  | succ i ih =>
    rw [sgI]
    split <;> omega
theorem sgO_in (l : List Int) (j : Nat) : sgO l j = 1 ∨ sgO l j = -1 := by
  induction j with
  | zero => exact .inl rfl
  | succ j ih => exact sgI_in ih j
/-- The powers of a permutation, and its order. -/
def it (p : Nat) : Nat → Nat
  | 0 => p
  | j + 1 => thn (it p j) p
def ord (p : Nat) : Nat := ((List.range 24).find? fun j => it p j == 0).getD 0
theorem it_ord : ∀ p, p < 24 → it p (ord p) = 0 ∧ ord p < 4 ∧ ∀ j, j < ord p → it p j ≠ 0 := by decide +kernel
theorem it_lt {p : Nat} (hp : p < 24) (j : Nat) : it p j < 24 := by
  induction j with
  | zero => exact hp
  | succ j ih => exact comp_ix _ ih _ hp
theorem it_im {p : Nat} (hp : p < 24) (j : Nat) : im (it p (j + 1)) = comp (im (it p j)) (im p) := thn_im (it_lt hp j) hp
theorem im_inj {p q : Nat} (hp : p < 24) (hq : q < 24) (h : im p = im q) : p = q := by rw [← ix_im p hp, h, ix_im q hq]
/-- Does the permutation p map the numbers of l to those of m? -/
def fits (p : Nat) (l m : List Int) : Bool := decide (∀ i, i < l.length → (im p).getD (l.getD i 0).toNat 0 = m.getD i 0)
def V4 (x : Int) : Prop := 0 ≤ x ∧ x < 4
instance (x : Int) : Decidable (V4 x) := inferInstanceAs (Decidable (0 ≤ x ∧ x < 4))
end P4
end Go.Proofs.YtjendlfophdfeaaDoor
