/- Triangulations as rows of numbers: when one is valid. No condition but those that each theorem names. -/
import Derived.Test.YtjendlfophdfeaaDoorPfE
import Derived.Test.YtjendlfophdfeaaDoorFcC
namespace Go.Proofs.YtjendlfophdfeaaDoor
open Go.RowKit
namespace Tr

/-- The tetrahedron, and the permutation, that a face is glued to. -/
def tt (T : List (List Int)) (a f : Nat) : Int := (T.getD a []).getD (f * 2) 0
def pp (T : List (List Int)) (a f : Nat) : Int := (T.getD a []).getD (f * 2 + 1) 0
def Bd (T : List (List Int)) (a f : Nat) : Prop := tt T a f = -1 ∧ pp T a f = 0
/-- The face that a glued face meets. -/
def mt (T : List (List Int)) (a f : Nat) : Nat := ((P4.im (pp T a f).toNat).getD f 0).toNat
/-- What a face says can be looked up. -/
def Ok (T : List (List Int)) (a f : Nat) : Prop := Bd T a f ∨ ((0 ≤ tt T a f ∧ tt T a f < T.length) ∧ (0 ≤ pp T a f ∧ pp T a f < 24))
/-- The other face says the same. -/
def Bk (T : List (List Int)) (a f : Nat) : Prop := (tt T (tt T a f).toNat (mt T a f) = a ∧ pp T (tt T a f).toNat (mt T a f) = P4.ivt (pp T a f).toNat) ∧ ¬ ((tt T a f).toNat = a ∧ mt T a f = f)
def Good (T : List (List Int)) (a f : Nat) : Prop := Bd T a f ∨ (((0 ≤ tt T a f ∧ tt T a f < T.length) ∧ (0 ≤ pp T a f ∧ pp T a f < 24)) ∧ Bk T a f)
instance (T : List (List Int)) (a f : Nat) : Decidable (Bd T a f) := by unfold Bd; infer_instance
instance (T : List (List Int)) (a f : Nat) : Decidable (Ok T a f) := by unfold Ok; infer_instance
instance (T : List (List Int)) (a f : Nat) : Decidable (Bk T a f) := by unfold Bk; infer_instance
instance (T : List (List Int)) (a f : Nat) : Decidable (Good T a f) := by unfold Good; infer_instance
def Four (T : List (List Int)) : Prop := ∀ a, a < T.length → (T.getD a []).length = 8
def Is (T : List (List Int)) : Prop := T.length ≤ 8 ∧ Four T ∧ ∀ a, a < T.length → ∀ f, f < 4 → Good T a f
instance (T : List (List Int)) : Decidable (Four T) := by unfold Four; infer_instance
instance (T : List (List Int)) : Decidable (Is T) := by unfold Is; infer_instance

theorem Good.ok {T : List (List Int)} {a f : Nat} (h : Good T a f) : Ok T a f := h.elim .inl fun h => .inr h.1
theorem Good.bk {T : List (List Int)} {a f : Nat} (h : Good T a f) (hb : ¬ Bd T a f) : Bk T a f := h.elim (fun e => absurd e hb) fun h => h.2
theorem good_of {T : List (List Int)} {a f : Nat} (h : Ok T a f) (hb : ¬ Bd T a f → Bk T a f) : Good T a f := by
  by_cases e : Bd T a f
  · exact .inl e
  · exact .inr ⟨h.elim (fun h => absurd h e) id, hb e⟩
theorem mt_lt {T : List (List Int)} {a f : Nat} (h : 0 ≤ pp T a f ∧ pp T a f < 24) (hf : f < 4) : mt T a f < 4 := by
  have := P4.im_in (pp T a f).toNat (by omega) f hf
  unfold mt
  omega
theorem mt_cast {T : List (List Int)} {a f : Nat} (h : 0 ≤ pp T a f ∧ pp T a f < 24) (hf : f < 4) : ((mt T a f : Nat) : Int) = (P4.im (pp T a f).toNat).getD f 0 := by
  have := P4.im_in (pp T a f).toNat (by omega) f hf
  unfold mt
  omega
/-- Faces that are glued lie at valid places. -/
theorem Is.glued {T : List (List Int)} (h : Is T) {a f : Nat} (ha : a < T.length) (hf : f < 4) (hb : ¬ Bd T a f) :
    ∃ b p : Nat, tt T a f = (b : Int) ∧ pp T a f = (p : Int) ∧ b < T.length ∧ p < 24 ∧ (P4.im p).getD f 0 = (mt T a f : Nat) ∧ mt T a f < 4 ∧ tt T b (mt T a f) = a ∧ pp T b (mt T a f) = P4.ivt p ∧ ¬ (b = a ∧ mt T a f = f) := by
  have hg := h.2.2 a ha f hf
  have hk := hg.bk hb
  rcases hg with e | ⟨⟨⟨t0, t1⟩, p0, p1⟩, _⟩
  · exact absurd e hb
  refine ⟨(tt T a f).toNat, (pp T a f).toNat, by omega, by omega, by omega, by omega, (mt_cast ⟨p0, p1⟩ hf).symm, mt_lt ⟨p0, p1⟩ hf, hk.1.1, hk.1.2, hk.2⟩
/-- The image of the image under the inverse. -/
theorem ivt_at : ∀ p, p < 24 → ∀ f, f < 4 → (P4.im (P4.ivt p)).getD ((P4.im p).getD f 0).toNat 0 = (f : Int) := by decide +kernel
theorem ivt_lt : ∀ p, p < 24 → P4.ivt p < 24 := fun p hp => P4.inv_ix p hp
theorem ivt_ivt : ∀ p, p < 24 → P4.ivt (P4.ivt p) = p := by decide +kernel
/-- A face of a boundary is told by its tetrahedron alone. -/
theorem Is.bd_iff {T : List (List Int)} (h : Is T) {a f : Nat} (ha : a < T.length) (hf : f < 4) : Bd T a f ↔ tt T a f < 0 := by
  constructor
  · intro hb; have := hb.1; omega
  · intro hb
    rcases h.2.2 a ha f hf with e | ⟨⟨⟨t0, t1⟩, _⟩, _⟩
    · exact e
    · omega
theorem Is.bd_one {T : List (List Int)} (h : Is T) {a f : Nat} (ha : a < T.length) (hf : f < 4) : Bd T a f ∨ ¬ Bd T a f ∧ 0 ≤ tt T a f := by
  rcases h.2.2 a ha f hf with e | ⟨⟨⟨t0, t1⟩, _⟩, _⟩
  · exact .inl e
  · exact .inr ⟨fun e => by have := e.1; omega, t0⟩
end Tr
end Go.Proofs.YtjendlfophdfeaaDoor
