/- The sum of two groups, the program's and the specification's. No condition but those that each theorem names. -/
import Derived.Test.YtgmkcmdnbfolhaaDsD
import Derived.Test.YtgmkcmdnbfolhaaCokA
namespace Go.Proofs.Ytgmkcmdnbfolhaa
open Go.RowKit

theorem dsum_exists (r : Int) (zs : List Int) (s : Int) (ys : List Int) : ∃ rk ll code, ll.length ≤ 1048576 ∧
    (∀ (A B : Option Addr) (n ca m cb : Nat) (w : World), Ints w w.heap.size A n zs → Ints w w.heap.size B m ys → n ≤ 1048576 → m ≤ 1048576 → Calls Try.prog 7 #[.agg #[.int .i64 r, .slice A n ca], .agg #[.int .i64 s, .slice B m cb]] w (ResLC w rk ll code)) ∧
    (∀ (A B : Option Addr) (n ca m cb : Nat) (w : World), Ints w w.heap.size A n zs → Ints w w.heap.size B m ys → n ≤ 1048576 → m ≤ 1048576 → Calls Try.prog 9 #[.agg #[.int .i64 r, .slice A n ca], .agg #[.int .i64 s, .slice B m cb]] w (ResLC w rk ll code)) := by
  by_cases hP : AOk r zs
  case neg =>
    exact ⟨0, [], 1, by simp, fun A B n ca m cb w hA hB hn hm => dsum_spec_badA r s A B n ca m cb zs w hA hn hP, fun A B n ca m cb w hA hB hn hm => dsum_impl_badA r s A B n ca m cb zs w hA hn hP⟩
  by_cases hQ : AOk s ys
  case neg =>
    exact ⟨0, [], 1, by simp, fun A B n ca m cb w hA hB hn hm => dsum_spec_badB r s A B n ca m cb zs ys w hA hB hn hm hP hQ, fun A B n ca m cb w hA hB hn hm => dsum_impl_badB r s A B n ca m cb zs ys w hA hB hn hm hP hQ⟩
  by_cases hl : r + s ≤ 48 ∧ zs.length + ys.length ≤ 48
  case neg =>
    refine ⟨0, [], 3, by simp, fun A B n ca m cb w hA hB hn hm => ?_, fun A B n ca m cb w hA hB hn hm => ?_⟩
    · exact dsum_spec_lim r s A B n ca m cb zs ys w hA hB hn hm hP hQ (by rw [← hA.1, ← hB.1]; exact hl)
    · exact dsum_impl_lim r s A B n ca m cb zs ys w hA hB hn hm hP hQ (by rw [← hA.1, ← hB.1]; exact hl)
  obtain ⟨hrs, hN48⟩ := hl
  obtain ⟨N, hN⟩ : ∃ N, zs.length + ys.length = N := ⟨_, rfl⟩
  rw [hN] at hN48
  have hM := diagL_ok (N := N) (l := zs ++ ys) hN48 (ent_app hP.ent hQ.ent)
  obtain ⟨o, ho, hg⟩ := Sm.outcome_end (R := N) (C := N) (min N N) 0 (start N N (diagL N (zs ++ ys) N)) (by omega) (by omega) (start_good hM) (start_ck _ _ _)
  have ho2 := ho.two (min N N) 0 (start N N (diagL N (zs ++ ys) N)) o (by omega) (by omega) (start_good hM) (start_ck _ _ _)
  cases o with
  | none =>
    refine ⟨0, tors [], 3, by simp [tors], fun A B n ca m cb w hA hB hn hm => ?_, fun A B n ca m cb w hA hB hn hm => ?_⟩
    · exact dsum_spec_yes r s A B n ca m cb zs ys w hA hB hn hm N [] 0 3 false hP hQ hrs (by rw [← hA.1, ← hB.1]; exact hN) hN48 (.inr ⟨rfl, rfl, rfl, rfl⟩) (by simp) fun W R c h => factors_spec N N R (N * N) c _ none W h rfl hN48 hN48 hM ho hg
    · exact dsum_impl_yes r s A B n ca m cb zs ys w hA hB hn hm N [] 0 3 hP hQ hrs (by rw [← hA.1, ← hB.1]; exact hN) hN48 (.inr ⟨rfl, rfl, rfl⟩) (by simp) fun W R c h => inv_impl_yes N N R (N * N) c _ none W h hN48 hN48 hM ho2 hg
  | some t =>
    have hl : (nz (diag N t.d (min N N))).length ≤ 48 := by have := nz_diag_len N t.d (min N N); omega
    have ht := tors_len (nz (diag N t.d (min N N)))
    refine ⟨r + s, tors (nz (diag N t.d (min N N))), 0, by omega, fun A B n ca m cb w hA hB hn hm => ?_, fun A B n ca m cb w hA hB hn hm => ?_⟩
    · exact dsum_spec_yes r s A B n ca m cb zs ys w hA hB hn hm N (nz (diag N t.d (min N N))) (r + s) 0 true hP hQ hrs (by rw [← hA.1, ← hB.1]; exact hN) hN48 (.inl ⟨rfl, rfl, rfl⟩) hl fun W R c h => factors_spec N N R (N * N) c _ (some t) W h rfl hN48 hN48 hM ho hg
    · exact dsum_impl_yes r s A B n ca m cb zs ys w hA hB hn hm N (nz (diag N t.d (min N N))) (r + s) 0 hP hQ hrs (by rw [← hA.1, ← hB.1]; exact hN) hN48 (.inl ⟨rfl, rfl⟩) hl fun W R c h => inv_impl_yes N N R (N * N) c _ (some t) W h hN48 hN48 hM ho2 hg

end Go.Proofs.Ytgmkcmdnbfolhaa
