/- The specification's ApplyTietze: 'applied' is what it returns, as of the program's. No condition but those that each theorem names. -/
import Derived.Test.YtjommpdblbbkdaaTzR
import Derived.Test.YtjommpdblbbkdaaTzS
import Derived.Test.YtjommpdblbbkdaaTzT
import Derived.Test.YtjommpdblbbkdaaTzU
namespace Go.Proofs.Ytjommpdblbbkdaa
open Go.RowKit

theorem map_same {α : Type} {f : α → α} {l : List α} (h : ∀ z ∈ l, f z = z) : l.map f = l := by
  induction l with
  | nil => rfl
  | cons x l ih => rw [List.map_cons, h x (List.mem_cons_self ..), ih (fun z hz => h z (List.mem_cons_of_mem _ hz))]
theorem Wd.red_row {r : Int} {z : List Int} (h : Wd.isR r z = true) : Wd.Red z := Wd.red_of_places (Wd.isR_iff.1 h).2
theorem Wd.rd_rows {r : Int} {zss : List (List Int)} (h : Wd.isP r zss = true) : ∀ z ∈ zss, Wd.rd z = z := fun z hz => Wd.rd_of_red _ (Wd.red_row ((Wd.isP_iff.1 h).2.2.2 z hz))
theorem Wd.rd_set {r : Int} {zss : List (List Int)} (h : Wd.isP r zss = true) (i : Nat) (y : List Int) : (zss.set i y).map Wd.rd = zss.set i (Wd.rd y) := by
  rw [List.map_set, map_same (Wd.rd_rows h)]
theorem Wd.rd_added {r : Int} {ws : List Int} (h : Wd.isR r ws = true) : Wd.rd (-(r + 1) :: ws) = -(r + 1) :: ws := by
  refine Wd.rd_of_red _ ((Wd.red_row h).cons fun y v e => ?_)
  have h1 := (Wd.isR_iff.1 h).1
  simp only [Wd.isW, decide_eq_true_eq] at h1
  have := h1.2 y (by rw [e]; exact List.mem_cons_self ..)
  omega
theorem rd_short {chg : List (List Int)} (h : ∀ z ∈ chg, z.length ≤ 1048576) : ∀ z ∈ chg.map Wd.rd, z.length ≤ 1048576 := fun z hz => by
  obtain ⟨y, hy, rfl⟩ := List.mem_map.1 hz
  have := Wd.rd_len y
  have := h y hy
  omega

section
variable (K I J r : Int) (A Aw : Option Addr) (c nw cw : Nat) (rs : List Rw) (ws : List Int) (w : World)

/-- Where nothing forbids the move: what l04Move returns, if it is a presentation. -/
theorem sapply_fin (h : RdS w w.heap.size A rs) (hw : Ints w w.heap.size Aw nw ws) (hn : rs.length ≤ 1048576) (hrow : ∀ q ∈ rs, q.zs.length ≤ 1048576) (hwn : nw ≤ 1048576) (hp : Wd.isP r (vals rs) = true) (hK : 1 ≤ K ∧ K ≤ 6) (hmi : missing r rs.length K I J = false) (hir : K = 6 → Wd.isR r ws = true)
    (hpo : possible (vals rs) K I J = true) (r2 : Int) (chg : List (List Int)) (hl2 : chg.length ≤ 1048576) (hz2 : ∀ z ∈ chg, z.length ≤ 1048576)
    (hMV : ∀ W, Below w.heap.size w W → Calls Try.prog 35 #[.agg #[.int .i64 r, .slice A rs.length c], .agg #[.int .i64 K, .int .i64 I, .int .i64 J, .slice Aw nw cw]] W (ResPr W r2 (chg.map Wd.rd))) :
    Calls Try.prog 10 #[.agg #[.int .i64 r, .slice A rs.length c], .agg #[.int .i64 K, .int .i64 I, .int .i64 J, .slice Aw nw cw]] w (ResP w (fin 0 r2 chg).1 (fin 0 r2 chg).2.1 (fin 0 r2 chg).2.2) := by
  have MI := missing_iff (r := r) (n := rs.length) (K := K) (I := I) (J := J)
  obtain ⟨r0, r24, r48, hz⟩ := Wd.isP_iff.1 hp
  have hI : K ≠ 6 → 0 ≤ I ∧ I < rs.length := fun h1 => Decidable.byContradiction fun h2 => by rw [MI.2 (.inl ⟨h1, by omega⟩)] at hmi; cases hmi
  have hJ : K = 5 → 1 ≤ J ∧ J ≤ 24 := fun h1 => Decidable.byContradiction fun h2 => by rw [MI.2 (.inr (.inr ⟨h1, by omega⟩))] at hmi; cases hmi
  have R120 : ∀ q ∈ rs, q.zs.length ≤ 120 := fun q hq => (Wd.isW_fit (Wd.isR_iff.1 (hz _ (List.mem_map_of_mem hq))).1).1
  have PO : ∀ W, Below w.heap.size w W → Calls Try.prog 34 #[.agg #[.int .i64 r, .slice A rs.length c], .agg #[.int .i64 K, .int .i64 I, .int .i64 J, .slice Aw nw cw]] W fun e w' => e = .returned (.bool true) ∧ Below W.heap.size W w' := fun W hW => by
    have := possible_spec r K I J A Aw c nw cw rs W (h.into hW) R120 hI hJ
    rw [hpo] at this
    exact this
  have hl3 : (chg.map Wd.rd).length ≤ 1048576 := by rw [List.length_map]; exact hl2
  have hz3 := rd_short hz2
  rcases hq : Wd.isP r2 (chg.map Wd.rd) with _ | _
  · rw [show fin 0 r2 chg = (0, [], 3) from by unfold fin; rw [if_neg (by omega), if_neg (by simp [hq])]]
    by_cases h6 : K = 6
    · exact sapply_limA K I J r A Aw c nw cw rs w h hn hrow hp hK ws hw hwn hmi h6 (hir h6) PO r2 _ hl3 hz3 hMV hq
    · exact sapply_limN K I J r A Aw c nw cw rs w h hn hrow hp hK hmi h6 PO r2 _ hl3 hz3 hMV hq
  · rw [show fin 0 r2 chg = (r2, chg.map Wd.rd, 0) from by unfold fin; rw [if_neg (by omega), if_pos hq]]
    by_cases h6 : K = 6
    · exact sapply_okA K I J r A Aw c nw cw rs w h hn hrow hp hK ws hw hwn hmi h6 (hir h6) PO r2 _ hl3 hz3 hMV hq
    · exact sapply_okN K I J r A Aw c nw cw rs w h hn hrow hp hK hmi h6 PO r2 _ hl3 hz3 hMV hq

theorem apply_spec (h : RdS w w.heap.size A rs) (hw : Ints w w.heap.size Aw nw ws) (hn : rs.length ≤ 1048576) (hrow : ∀ q ∈ rs, q.zs.length ≤ 1048576) (hwn : nw ≤ 1048576) :
    Calls Try.prog 10 #[.agg #[.int .i64 r, .slice A rs.length c], .agg #[.int .i64 K, .int .i64 I, .int .i64 J, .slice Aw nw cw]] w (ResP w (applied r (vals rs) K I J ws).1 (applied r (vals rs) K I J ws).2.1 (applied r (vals rs) K I J ws).2.2) := by
  rcases hp : Wd.isP r (vals rs) with _ | _
  · rw [show applied r (vals rs) K I J ws = (0, [], 1) from by unfold applied; rw [if_pos hp]]
    exact sapply_bad K I J r A Aw c nw cw rs w h hn hrow hp
  by_cases hK : 1 ≤ K ∧ K ≤ 6
  case neg =>
    rw [show applied r (vals rs) K I J ws = (0, [], 2) from by unfold applied; rw [if_neg (by simp [hp]), if_pos hK]]
    exact sapply_no K I J r A Aw c nw cw rs w h hn hrow hp hK
  rw [show applied r (vals rs) K I J ws = fin (mvCode r (vals rs) K I J ws) (mvGen r K) (mvChg r (vals rs) K I J ws) from by unfold applied; rw [if_neg (by simp [hp]), if_neg (by simpa using hK)]]
  obtain ⟨r0, r24, r48, hz⟩ := Wd.isP_iff.1 hp
  rw [vals_len] at r48
  have LL : ∀ z ∈ vals rs, z.length ≤ 120 := fun z hz' => (Wd.isW_fit (Wd.isR_iff.1 (hz _ hz')).1).1
  have LB : ∀ z ∈ vals rs, z.length ≤ 1048576 := fun z hz' => by have := LL z hz'; omega
  have LSET : ∀ (i : Nat) (y : List Int), y.length ≤ 1048576 → ∀ z ∈ (vals rs).set i y, z.length ≤ 1048576 := fun i y hy z hz' => by
    rcases List.mem_or_eq_of_mem_set hz' with h1 | h1
    · exact LB z h1
    · rw [h1]; exact hy
  have GETI : ∀ i : Nat, (vals rs).getD i [] = (rs.getD i nilRw).zs := fun i => vals_getD rs i
  have RR := Wd.rd_rows hp
  have MI := missing_iff (r := r) (n := rs.length) (K := K) (I := I) (J := J)
  rcases hmi : missing r rs.length K I J with _ | _
  case true =>
    rw [show mvCode r (vals rs) K I J ws = 4 from by unfold mvCode; rw [vals_len, if_pos hmi]]
    rw [show fin 4 (mvGen r K) (mvChg r (vals rs) K I J ws) = (0, [], 4) from by unfold fin; rw [if_pos (by decide)]]
    exact sapply_mis K I J r A Aw c nw cw rs w h hn hrow hp hK hmi
  have hI : K ≠ 6 → 0 ≤ I ∧ I < rs.length := fun h1 => Decidable.byContradiction fun h2 => by rw [MI.2 (.inl ⟨h1, by omega⟩)] at hmi; cases hmi
  have hJ3 : K = 3 → 0 ≤ J ∧ J < rs.length := fun h1 => Decidable.byContradiction fun h2 => by rw [MI.2 (.inr (.inl ⟨h1, by omega⟩))] at hmi; cases hmi
  have hJ5 : K = 5 → 1 ≤ J ∧ J ≤ r := fun h1 => Decidable.byContradiction fun h2 => by rw [MI.2 (.inr (.inr ⟨h1, by omega⟩))] at hmi; cases hmi
  by_cases hir : K = 6 ∧ Wd.isR r ws = false
  · rw [show mvCode r (vals rs) K I J ws = 1 from by unfold mvCode; rw [vals_len, if_neg (by simp [hmi]), if_pos hir]]
    rw [show fin 1 (mvGen r K) (mvChg r (vals rs) K I J ws) = (0, [], 1) from by unfold fin; rw [if_pos (by decide)]]
    exact sapply_wrd K I J r A Aw c nw cw rs w h hn hrow hp hK ws hw hwn hmi hir.1 hir.2
  have hir2 : K = 6 → Wd.isR r ws = true := fun h6 => by
    rcases hr : Wd.isR r ws with _ | _
    · exact absurd ⟨h6, hr⟩ hir
    · rfl
  rcases hpo : possible (vals rs) K I J with _ | _
  case false =>
    have h6 : K ≠ 6 := fun e => by
      have : possible (vals rs) K I J = true := by unfold possible; rw [if_neg (by omega), if_neg (by omega), if_neg (by omega)]
      rw [this] at hpo; cases hpo
    rw [show mvCode r (vals rs) K I J ws = 5 from by unfold mvCode; rw [vals_len, if_neg (by simp [hmi]), if_neg hir, if_pos hpo]]
    rw [show fin 5 (mvGen r K) (mvChg r (vals rs) K I J ws) = (0, [], 5) from by unfold fin; rw [if_pos (by decide)]]
    refine sapply_pos K I J r A Aw c nw cw rs w h hn hrow hp hK hmi h6 (fun W hW => ?_)
    have := possible_spec r K I J A Aw c nw cw rs W (h.into hW) (fun q hq => LL _ (List.mem_map_of_mem hq)) hI (fun h5 => by have := hJ5 h5; omega)
    rw [hpo] at this
    exact this
  rw [show mvCode r (vals rs) K I J ws = 0 from by unfold mvCode; rw [vals_len, if_neg (by simp [hmi]), if_neg hir, if_neg (by simp [hpo])]]
  have hk6 : K = 1 ∨ K = 2 ∨ K = 3 ∨ K = 4 ∨ K = 5 ∨ K = 6 := by omega
  rcases hk6 with e | e | e | e | e | e
  · obtain ⟨hI0, hI1⟩ := hI (by omega)
    obtain ⟨i, rfl⟩ : ∃ i : Nat, I = i := ⟨I.toNat, by omega⟩
    have hi : i < rs.length := by omega
    have eg : mvGen r K = r := by unfold mvGen; rw [if_neg (by omega), if_neg (by omega)]
    have ec : mvChg r (vals rs) K i J ws = (vals rs).set i (Wd.inv (rs.getD i nilRw).zs) := by unfold mvChg; rw [if_pos e, Int.toNat_natCast, GETI]
    rw [eg, ec]
    refine sapply_fin K i J r A Aw c nw cw rs ws w h hw hn hrow hwn hp hK hmi hir2 hpo r _ (by rw [List.length_set, vals_len]; exact hn) (LSET _ _ (by rw [Wd.inv_len]; exact LB _ (vals_mem hi))) (fun W hW => ?_)
    rw [Wd.rd_set hp, Wd.rd_inv_red (Wd.red_row (hz _ (vals_mem hi)))]
    subst e
    exact move_inv i J r A Aw c nw cw rs W (h.into hW) hn hrow i rfl hp hi
  · obtain ⟨hI0, hI1⟩ := hI (by omega)
    obtain ⟨i, rfl⟩ : ∃ i : Nat, I = i := ⟨I.toNat, by omega⟩
    have hi : i < rs.length := by omega
    have eg : mvGen r K = r := by unfold mvGen; rw [if_neg (by omega), if_neg (by omega)]
    have ec : mvChg r (vals rs) K i J ws = (vals rs).set i (Wd.rot (rs.getD i nilRw).zs) := by unfold mvChg; rw [if_neg (by omega), if_pos e, Int.toNat_natCast, GETI]
    rw [eg, ec]
    refine sapply_fin K i J r A Aw c nw cw rs ws w h hw hn hrow hwn hp hK hmi hir2 hpo r _ (by rw [List.length_set, vals_len]; exact hn) (LSET _ _ (by rw [Wd.rot_len]; exact LB _ (vals_mem hi))) (fun W hW => ?_)
    rw [Wd.rd_set hp]
    subst e
    exact move_rot i J r A Aw c nw cw rs W (h.into hW) hn hrow i rfl hp hi
  · obtain ⟨hI0, hI1⟩ := hI (by omega)
    obtain ⟨hJ0, hJ1⟩ := hJ3 e
    obtain ⟨i, rfl⟩ : ∃ i : Nat, I = i := ⟨I.toNat, by omega⟩
    obtain ⟨j, rfl⟩ : ∃ j : Nat, J = j := ⟨J.toNat, by omega⟩
    have hi : i < rs.length := by omega
    have hj : j < rs.length := by omega
    have eg : mvGen r K = r := by unfold mvGen; rw [if_neg (by omega), if_neg (by omega)]
    have ec : mvChg r (vals rs) K i j ws = (vals rs).set i ((rs.getD i nilRw).zs ++ (rs.getD j nilRw).zs) := by unfold mvChg; rw [if_neg (by omega), if_neg (by omega), if_pos e, Int.toNat_natCast, Int.toNat_natCast, GETI, GETI]
    rw [eg, ec]
    refine sapply_fin K i j r A Aw c nw cw rs ws w h hw hn hrow hwn hp hK hmi hir2 hpo r _ (by rw [List.length_set, vals_len]; exact hn) (LSET _ _ (by have h1 := LL _ (vals_mem hi); have h2 := LL _ (vals_mem hj); rw [List.length_append]; omega)) (fun W hW => ?_)
    rw [Wd.rd_set hp]
    subst e
    exact move_mul i j r A Aw c nw cw rs W (h.into hW) hn hrow i j rfl rfl hp hi hj
  · obtain ⟨hI0, hI1⟩ := hI (by omega)
    obtain ⟨i, rfl⟩ : ∃ i : Nat, I = i := ⟨I.toNat, by omega⟩
    have hi : i < rs.length := by omega
    have eg : mvGen r K = r := by unfold mvGen; rw [if_neg (by omega), if_neg (by omega)]
    have ec : mvChg r (vals rs) K i J ws = (vals rs).eraseIdx i := by unfold mvChg; rw [if_neg (by omega), if_neg (by omega), if_neg (by omega), if_pos e, Int.toNat_natCast]
    rw [eg, ec]
    refine sapply_fin K i J r A Aw c nw cw rs ws w h hw hn hrow hwn hp hK hmi hir2 hpo r _ (by have := List.length_eraseIdx_le (vals rs) i; rw [vals_len] at this; omega) (fun z hz' => LB z (List.mem_of_mem_eraseIdx hz')) (fun W hW => ?_)
    rw [map_same (fun z hz' => RR z (List.mem_of_mem_eraseIdx hz'))]
    subst e
    exact move_drop i J r A Aw c nw cw rs W (h.into hW) hn hrow i rfl
  · obtain ⟨hI0, hI1⟩ := hI (by omega)
    obtain ⟨hJ0, hJ1⟩ := hJ5 e
    obtain ⟨i, rfl⟩ : ∃ i : Nat, I = i := ⟨I.toNat, by omega⟩
    have hi : i < rs.length := by omega
    have hoc : Wd.occ J (rs.getD i nilRw).zs = 1 := by
      have h1 := hpo
      unfold possible at h1
      rw [if_neg (by omega), if_neg (by omega), if_pos e, Int.toNat_natCast, GETI] at h1
      simpa using h1
    have eg : mvGen r K = r - 1 := by unfold mvGen; rw [if_pos e]
    have ec : mvChg r (vals rs) K i J ws = ((vals rs).eraseIdx i).map fun z => (Wd.sub J (Wd.solve J (rs.getD i nilRw).zs) z).map (Wd.ren J) := by unfold mvChg; rw [if_neg (by omega), if_neg (by omega), if_neg (by omega), if_neg (by omega), if_pos e, Int.toNat_natCast, GETI]
    have hsl := Wd.solve_len (g := J) (l := (rs.getD i nilRw).zs)
    have hrl := LL _ (vals_mem hi)
    rw [eg, ec]
    refine sapply_fin K i J r A Aw c nw cw rs ws w h hw hn hrow hwn hp hK hmi hir2 hpo (r - 1) _ (by have := List.length_eraseIdx_le (vals rs) i; rw [vals_len] at this; rw [List.length_map]; omega) (fun z hz' => ?_) (fun W hW => ?_)
    · obtain ⟨y, hy, rfl⟩ := List.mem_map.1 hz'
      have hyr := LL y (List.mem_of_mem_eraseIdx hy)
      have h3 := Wd.sub_len J (Wd.solve J (rs.getD i nilRw).zs) y
      have h4 : y.length * ((Wd.solve J (rs.getD i nilRw).zs).length + 1) ≤ 120 * 121 := Nat.mul_le_mul hyr (by omega)
      rw [List.length_map]
      omega
    · rw [List.map_map, show (Wd.rd ∘ fun z => (Wd.sub J (Wd.solve J (rs.getD i nilRw).zs) z).map (Wd.ren J)) = (fun z => (Wd.rd (Wd.sub J (Wd.solve J (rs.getD i nilRw).zs) z)).map (Wd.ren J)) from funext fun z => (Wd.put_eq (by omega) (Wd.solve_ne hoc) z).symm]
      subst e
      exact move_rem i J r A Aw c nw cw rs W (h.into hW) hn hrow i rfl hp hi hJ0 hJ1 (by rw [hoc]; decide)
  · have eg : mvGen r K = r + 1 := by unfold mvGen; rw [if_neg (by omega), if_pos e]
    have ec : mvChg r (vals rs) K I J ws = vals rs ++ [-(r + 1) :: ws] := by unfold mvChg; rw [if_neg (by omega), if_neg (by omega), if_neg (by omega), if_neg (by omega), if_neg (by omega)]
    have hwl := (Wd.isW_fit (Wd.isR_iff.1 (hir2 e)).1).1
    have hwl2 : nw ≤ 120 := by rw [← hw.1]; exact hwl
    rw [eg, ec]
    refine sapply_fin K I J r A Aw c nw cw rs ws w h hw hn hrow hwn hp hK hmi hir2 hpo (r + 1) _ (by rw [List.length_append, vals_len]; simp; omega) (fun z hz' => ?_) (fun W hW => ?_)
    · rcases List.mem_append.1 hz' with h1 | h1
      · exact LB z h1
      · simp at h1
        subst h1
        simp
        omega
    · rw [List.map_append, map_same RR, List.map_cons, Wd.rd_added (hir2 e), List.map_nil]
      subst e
      exact move_add I J r A Aw c nw cw rs W (h.into hW) hn hrow ws (hw.into hW) hwl2 hp
end

end Go.Proofs.Ytjommpdblbbkdaa
