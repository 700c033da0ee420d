/- What the laws over permutations of four numbers ask: plain mathematics. No condition but those that each theorem names. -/
import Derived.Test.YtoegfldpadpohaaDoorPfA
namespace Go.Proofs.YtoegfldpadpohaaDoor
namespace P4
theorem comp_assoc {a b c : List Int} (ha : ∀ x ∈ a, 0 ≤ x ∧ x < 4) (hb : b.length = 4) : comp (comp a b) c = comp a (comp b c) := by
  unfold comp
  rw [List.map_map]
  refine List.map_congr_left fun x hx => ?_
  have h := ha x hx
  have hk : x.toNat < b.length := by omega
  show c.getD (b.getD x.toNat 0).toNat 0 = (b.map fun y => c.getD y.toNat 0).getD x.toNat 0
  rw [List.getD_eq_getElem?_getD (l := b.map _), List.getElem?_map, List.getElem?_eq_getElem hk, List.getD_eq_getElem?_getD (l := b), List.getElem?_eq_getElem hk]
  rfl
theorem im_mem : ∀ p, p < 24 → ∀ x ∈ im p, 0 ≤ x ∧ x < 4 := by decide +kernel
theorem thn_lt {p q : Nat} (hp : p < 24) (hq : q < 24) : thn p q < 24 := comp_ix p hp q hq
theorem ivt_lt {p : Nat} (hp : p < 24) : ivt p < 24 := inv_ix p hp
theorem thn_assoc {p q r : Nat} (hp : p < 24) (hq : q < 24) (hr : r < 24) : thn p (thn q r) = thn (thn p q) r := by
  refine im_inj (thn_lt hp (thn_lt hq hr)) (thn_lt (thn_lt hp hq) hr) ?_
  rw [thn_im hp (thn_lt hq hr), thn_im (thn_lt hp hq) hr, thn_im hp hq, thn_im hq hr, comp_assoc (im_mem p hp) (im_len q hq)]
theorem thn_ivt : ∀ p, p < 24 → thn p (ivt p) = 0 := by decide +kernel
theorem ivt_thn : ∀ p, p < 24 → thn (ivt p) p = 0 := by decide +kernel
theorem sg_thn : ∀ p, p < 24 → ∀ q, q < 24 → sgO (im (thn p q)) 4 = sgO (im p) 4 * sgO (im q) 4 := by decide +kernel
theorem back_at : ∀ p, p < 24 → ∀ k, k < 4 → (im (ivt p)).getD ((im p).getD k 0).toNat 0 = (k : Int) := by decide +kernel
end P4
end Go.Proofs.YtoegfldpadpohaaDoor
