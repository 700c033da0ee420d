/- Contracts of the library's functions that copy a slice of int64 and turn it round. No condition but those that each theorem names. -/
import Derived.Test.YtpkjjcfcpmcdiaaLauW
namespace Go.Proofs.Ytpkjjcfcpmcdiaa
open Go.RowKit

/-- A copy in new memory. -/
def Cloned (w : World) (n : Nat) (zs : List Int) (e : Ending) (w' : World) : Prop :=
  ∃ A c, e = .returned (.slice A n c) ∧ n ≤ c ∧ c ≤ maxLen ∧ Own w' w.heap.size w'.heap.size A n c zs ∧ Below w.heap.size w w'
theorem Ints.news {w : World} {B n : Nat} {ad : Addr} {zs : List Int} (h : Ints w B (some ad) n zs) : ∀ j u, (zs.map (Value.int .i64))[j]? = some u → w.cell? (ad.add j) = some u := by
  intro j u hu
  have hj : j < zs.length := by
    have := (List.getElem?_eq_some_iff.1 hu).1
    simpa using this
  have hl := h.1
  obtain ⟨b, off, e, _, h4⟩ := h.2 (by omega)
  cases e
  have h5 := h4 j (by omega)
  have e5 : (⟨b, off, none⟩ : Addr).add j = ⟨b, off + j, none⟩ := by unfold Addr.add; split <;> simp_all
  rw [e5, h5, ← hu, List.getElem?_map, List.getElem?_eq_getElem hj]
  simp [List.getElem?_eq_getElem hj]
theorem Own.of_row {w : World} {lo n : Nat} {v : Value} {zs : List Int} (h : w.ownsRow lo 2 1 v n (zs.map (Value.int .i64))) (hv : v ≠ .slice none 0 0) : ∃ g cap, v = .slice (some ⟨g, 0, none⟩) n cap ∧ n ≤ cap ∧ cap ≤ maxLen ∧ Own w lo w.heap.size (some ⟨g, 0, none⟩) n cap zs := by
  have h' := h
  rcases h.2 with ⟨e, _⟩ | ⟨g, cap, cur, rfl, hb, hg, hn, hm, _, _⟩
  · exact absurd e hv
  · have hlt : g < w.heap.size := by
      rcases Nat.lt_or_ge g w.heap.size with h1 | h1
      · exact h1
      · rw [Array.getElem?_eq_none h1] at hg; cases hg
    exact ⟨g, cap, rfl, hn, hm, h', fun a ha => by cases ha; exact hlt⟩

set_option maxHeartbeats 1000000 in
theorem clone_any (A : Option Addr) (n c : Nat) (zs : List Int) (w : World) (h : Ints w w.heap.size A n zs) (hn : n ≤ 1048576) :
    Calls Try.prog 20 #[.slice A n c] w (Cloned w n zs) := by
  have hl := Lib.hid h.1
  have H := Lib.hid h
  obtain ⟨ti, hi0, hz0, hz1, hz2⟩ := info_parts info2
  have HI := Lib.hid (And.intro hi0 (And.intro hz0 (And.intro hz1 hz2)))
  clear h hi0 hz0 hz1 hz2
  rcases A with _ | ad
  · have hn0 : n = 0 := by
      rcases Nat.eq_zero_or_pos n with h0 | h0
      · exact h0
      · obtain ⟨b, off, e, _⟩ := H.out.2 h0
        cases e
    subst hn0
    have HZ := Lib.hid (List.length_eq_zero_iff.1 hl.out)
    have hnl : ∀ m, (binOp .eql 24 (.slice none 0 m) (.slice none 0 0)).run Try.prog w = .ok (.bool true) w := fun m => Lib.run_eql_slice_nil w _ _ none 0 m 0 0 Try.underlying24
    by_cases hc : c = 0
    · subst hc
      go_enter Try.func20, Try.ntmps20
      go_wp2
      go_ret
      exact ⟨none, 0, rfl, Nat.le_refl _, by unfold maxLen; omega, by rw [HZ.out]; exact Own.none_ _ _ _, Below.refl _ _⟩
    · go_enter Try.func20, Try.ntmps20
      go_wp2
      go_ret
      exact ⟨none, 0, rfl, Nat.le_refl _, by unfold maxLen; omega, by rw [HZ.out]; exact Own.none_ _ _ _, Below.refl _ _⟩
  · have hnl : ∀ m k, (binOp .eql 24 (.slice (some ad) k m) (.slice none 0 0)).run Try.prog w = .ok (.bool false) w := fun m k => Lib.run_eql_slice_nil w _ _ (some ad) k m 0 0 Try.underlying24
    have OE := Lib.hid (ownEmpty w)
    have HN := Lib.hid (H.out.into (al1 w (Obj.cells #[] 2))).news
    have CL := Lib.hid (show (zs.map (Value.int .i64)).length = n * 1 by rw [List.length_map, hl.out, Nat.mul_one])
    go_enter Try.func20, Try.ntmps20
    go_wp2_with (at_builtin; refine wpList_append_own _ rfl _ _ 24 rfl w.heap.size 2 ti _ 1 8 Try.underlying24 HI.out.1 HI.out.2.1 HI.out.2.2.1 HI.out.2.2.2 rfl (by decide) (.slice (some ⟨w.heap.size, 0, none⟩) 0 0) 0 [] rfl (by exact OE.out.1) ad n c (zs.map (Value.int .i64)) rfl CL.out (by exact HN.out) (by simp [Value.oneCell']) (by unfold maxLen; omega) (by omega) (by simp <;> omega) ?_; intro v' w7 hown7 hgrow hnil; obtain ⟨g, cap, rfl, q1, q2, hown⟩ := Own.of_row (zs := zs) (by simpa using hown7) (fun e => by have := hnil.1 e; simp at this); have O7 := Lib.hid hown; have B7 := Lib.hid (((Below.refl _ _).alloc (Nat.le_refl _) _).grown hgrow (by simp <;> omega) (fun k hk => (OE.out.1.lt k hk).1)); clear hown7 hgrow hnil hown)
    go_ret
    exact ⟨_, _, rfl, q1, q2, O7.out, B7.out⟩

end Go.Proofs.Ytpkjjcfcpmcdiaa
