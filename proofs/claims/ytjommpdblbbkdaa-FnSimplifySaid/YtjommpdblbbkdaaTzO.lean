/- The program's ApplyTietze. No condition but those that the theorem names. -/
import Derived.Test.YtjommpdblbbkdaaTzK
import Derived.Test.YtjommpdblbbkdaaTzM
import Derived.Test.YtjommpdblbbkdaaTzN
namespace Go.Proofs.Ytjommpdblbbkdaa
open Go.RowKit

/-- The code of a move before the limits of its result. -/
def mvCode (r : Int) (zss : List (List Int)) (K I J : Int) (ws : List Int) : Int :=
  if missing r zss.length K I J = true then 4 else if K = 6 ∧ Wd.isR r ws = false then 1 else if possible zss K I J = false then 5 else 0
def mvGen (r K : Int) : Int := if K = 5 then r - 1 else if K = 6 then r + 1 else r
/-- The relators behind a move, not reduced. -/
def mvChg (r : Int) (zss : List (List Int)) (K I J : Int) (ws : List Int) : List (List Int) :=
  if K = 1 then zss.set I.toNat (Wd.inv (zss.getD I.toNat []))
  else if K = 2 then zss.set I.toNat (Wd.rot (zss.getD I.toNat []))
  else if K = 3 then zss.set I.toNat (zss.getD I.toNat [] ++ zss.getD J.toNat [])
  else if K = 4 then zss.eraseIdx I.toNat
  else if K = 5 then (zss.eraseIdx I.toNat).map fun z => (Wd.sub J (Wd.solve J (zss.getD I.toNat [])) z).map (Wd.ren J)
  else zss ++ [-(r + 1) :: ws]
/-- What ApplyTietze returns. -/
def applied (r : Int) (zss : List (List Int)) (K I J : Int) (ws : List Int) : Int × List (List Int) × Int :=
  if Wd.isP r zss = false then (0, [], 1) else if ¬ (1 ≤ K ∧ K ≤ 6) then (0, [], 2) else fin (mvCode r zss K I J ws) (mvGen r K) (mvChg r zss K I J ws)

theorem missing_iff {r : Int} {n : Nat} {K I J : Int} : missing r n K I J = true ↔ (K ≠ 6 ∧ ¬ (0 ≤ I ∧ I ≤ (n : Int) - 1)) ∨ (K = 3 ∧ ¬ (0 ≤ J ∧ J ≤ (n : Int) - 1)) ∨ (K = 5 ∧ ¬ (1 ≤ J ∧ J ≤ r)) := by
  unfold missing
  rw [Bool.or_eq_true, Bool.or_eq_true, decide_eq_true_iff, decide_eq_true_iff, decide_eq_true_iff, or_assoc]
theorem fin_bad {b r2 : Int} {chg : List (List Int)} (h : b ≠ 0) : fin b r2 chg = fin b 0 [] := by unfold fin; rw [if_pos h, if_pos h]

/-- Short enough for the program's loops. -/
def Okz (z : List Int) : Prop := z.length ≤ 1048576 ∧ Wd.Sm z
theorem okz_set {zss : List (List Int)} {i : Nat} {z : List Int} (h : ∀ z ∈ zss, Okz z) (hz : Okz z) : ∀ y ∈ zss.set i z, Okz y := fun y hy => by
  rcases List.mem_or_eq_of_mem_set hy with h1 | h1
  · exact h y h1
  · rw [h1]; exact hz
theorem Wd.ren_sm {g : Int} {l : List Int} (hg : 1 ≤ g) (h : Wd.Sm l) : Wd.Sm (l.map (Wd.ren g)) := fun x hx => by
  obtain ⟨y, hy, rfl⟩ := List.mem_map.1 hx
  have := h y hy
  unfold Wd.ren
  split
  · omega
  · split <;> omega
theorem Wd.rot_ok {l : List Int} (h : Okz l) : Okz (Wd.rot l) := by
  unfold Wd.rot
  refine ⟨by have := h.1; simp; omega, fun x hx => ?_⟩
  rcases List.mem_append.1 hx with h1 | h1
  · exact h.2 x (List.mem_of_mem_drop h1)
  · exact h.2 x (List.mem_of_mem_take h1)

section
variable (K I J r : Int) (A Aw : Option Addr) (c nw cw : Nat) (rs : List Rw) (ws : List Int) (w : World)

theorem apply_impl (h : RdS w w.heap.size A rs) (hw : Ints w w.heap.size Aw nw ws) (hn : rs.length ≤ 1048576) (hrow : ∀ q ∈ rs, q.zs.length ≤ 1048576) (hwn : nw ≤ 1048576) :
    Calls Try.prog 16 #[.agg #[.int .i64 r, .slice A rs.length c], .agg #[.int .i64 K, .int .i64 I, .int .i64 J, .slice Aw nw cw]] w (ResP w (applied r (vals rs) K I J ws).1 (applied r (vals rs) K I J ws).2.1 (applied r (vals rs) K I J ws).2.2) := by
  rcases hp : Wd.isP r (vals rs) with _ | _
  · rw [show applied r (vals rs) K I J ws = (0, [], 1) from by unfold applied; rw [if_pos hp]]
    exact apply_bad K I J r A Aw c nw cw rs w h hn hrow hp
  by_cases hK : 1 ≤ K ∧ K ≤ 6
  case neg =>
    rw [show applied r (vals rs) K I J ws = (0, [], 2) from by unfold applied; rw [if_neg (by simp [hp]), if_pos hK]]
    exact apply_no K I J r A Aw c nw cw rs w h hn hrow hp hK
  rw [show applied r (vals rs) K I J ws = fin (mvCode r (vals rs) K I J ws) (mvGen r K) (mvChg r (vals rs) K I J ws) from by unfold applied; rw [if_neg (by simp [hp]), if_neg (by simpa using hK)]]
  obtain ⟨r0, r24, r48, hz⟩ := Wd.isP_iff.1 hp
  rw [vals_len] at r48
  have ROW : ∀ z ∈ vals rs, z.length ≤ 120 ∧ Wd.Sm z := fun z hz' => by
    have h1 := (Wd.isR_iff.1 (hz _ hz')).1
    exact ⟨(Wd.isW_fit h1).1, Wd.isW_sm h1 (by omega)⟩
  have OKR : ∀ z ∈ vals rs, Okz z := fun z hz' => ⟨by have := (ROW z hz').1; omega, (ROW z hz').2⟩
  have MI := missing_iff (r := r) (n := (vals rs).length) (K := K) (I := I) (J := J)
  rw [vals_len] at MI
  obtain ⟨b, hb⟩ : ∃ b, mvCode r (vals rs) K I J ws = b := ⟨_, rfl⟩
  have hcode := hb
  unfold mvCode at hcode
  rw [vals_len] at hcode
  have GETI : ∀ i : Nat, (vals rs).getD i [] = (rs.getD i nilRw).zs := fun i => vals_getD rs i
  rw [hb]
  have hk6 : K = 1 ∨ K = 2 ∨ K = 3 ∨ K = 4 ∨ K = 5 ∨ K = 6 := by omega
  rcases hk6 with e | e | e | e | e | e
  · -- invert
    have hno : ¬ (0 ≤ I ∧ I < rs.length) → b = 4 := fun h1 => by rw [← hcode, if_pos (MI.2 (.inl ⟨by omega, by omega⟩))]
    have hyes : (0 ≤ I ∧ I < rs.length) → b = 0 := fun h1 => by
      rw [← hcode, if_neg (fun h2 => by rcases MI.1 h2 with h3 | h3 | h3 <;> omega), if_neg (by omega), if_neg (by unfold possible; rw [if_neg (by omega), if_neg (by omega), if_neg (by omega)]; simp)]
    refine apply_inv K I J r A Aw c nw cw rs w h hn hrow _ hp e (fun W hW => ?_)
    have hC := fun W' (hb' : Below W.heap.size W W') => tz_check_inv I r A c rs.length b W' hyes hno
    by_cases hI : 0 ≤ I ∧ I < rs.length
    · obtain ⟨i, rfl⟩ : ∃ i : Nat, I = i := ⟨I.toNat, by omega⟩
      have hi : i < rs.length := by omega
      have eg : mvGen r K = r := by unfold mvGen; rw [if_neg (by omega), if_neg (by omega)]
      have ec : mvChg r (vals rs) K i J ws = (vals rs).set i (Wd.inv (rs.getD i nilRw).zs) := by unfold mvChg; rw [if_pos e, Int.toNat_natCast, GETI]
      rw [eg, ec]
      exact after_inv i r r b A c rs _ W hC (fun _ W' hb' => chg_inv i r A c rs W' ((h.into hW).into hb') hp hi) (okz_set OKR ⟨by rw [Wd.inv_len]; exact (OKR _ (vals_mem hi)).1, (OKR _ (vals_mem hi)).2.inv⟩) (by simp [vals_len]; omega)
    · rw [fin_bad (by rw [hno hI]; decide)]
      exact after_inv I r 0 b A c rs [] W hC (fun h0 => absurd h0 (by rw [hno hI]; decide)) (by simp) (by simp)
  · -- rotate
    have hno : ¬ (0 ≤ I ∧ I < rs.length) → b = 4 := fun h1 => by rw [← hcode, if_pos (MI.2 (.inl ⟨by omega, by omega⟩))]
    have hyes : (0 ≤ I ∧ I < rs.length) → b = 0 := fun h1 => by
      rw [← hcode, if_neg (fun h2 => by rcases MI.1 h2 with h3 | h3 | h3 <;> omega), if_neg (by omega), if_neg (by unfold possible; rw [if_neg (by omega), if_neg (by omega), if_neg (by omega)]; simp)]
    refine apply_rot K I J r A Aw c nw cw rs w h hn hrow _ hp e (fun W hW => ?_)
    have hC := fun W' (hb' : Below W.heap.size W W') => tz_check_rot I r A c rs.length b W' hyes hno
    by_cases hI : 0 ≤ I ∧ I < rs.length
    · obtain ⟨i, rfl⟩ : ∃ i : Nat, I = i := ⟨I.toNat, by omega⟩
      have hi : i < rs.length := by omega
      have eg : mvGen r K = r := by unfold mvGen; rw [if_neg (by omega), if_neg (by omega)]
      have ec : mvChg r (vals rs) K i J ws = (vals rs).set i (Wd.rot (rs.getD i nilRw).zs) := by unfold mvChg; rw [if_neg (by omega), if_pos e, Int.toNat_natCast, GETI]
      rw [eg, ec]
      exact after_rot i r r b A c rs _ W hC (fun _ W' hb' => chg_rot i r A c rs W' ((h.into hW).into hb') hp hi) (okz_set OKR (Wd.rot_ok (OKR _ (vals_mem hi)))) (by simp [vals_len]; omega)
    · rw [fin_bad (by rw [hno hI]; decide)]
      exact after_rot I r 0 b A c rs [] W hC (fun h0 => absurd h0 (by rw [hno hI]; decide)) (by simp) (by simp)
  · -- multiply
    have hno : ¬ ((0 ≤ I ∧ I < rs.length) ∧ (0 ≤ J ∧ J < rs.length)) → b = 4 := fun h1 => by
      rw [← hcode, if_pos (MI.2 (by by_cases h2 : 0 ≤ I ∧ I ≤ (rs.length : Int) - 1; exact .inr (.inl ⟨e, by omega⟩); exact .inl ⟨by omega, h2⟩))]
    have hmiss : ((0 ≤ I ∧ I < rs.length) ∧ (0 ≤ J ∧ J < rs.length)) → ¬ missing r rs.length K I J = true := fun h1 h2 => by rcases MI.1 h2 with h3 | h3 | h3 <;> omega
    have h5 : ((0 ≤ I ∧ I < rs.length) ∧ (0 ≤ J ∧ J < rs.length)) → I = J → b = 5 := fun h1 h2 => by
      rw [← hcode, if_neg (hmiss h1), if_neg (by omega), if_pos (by unfold possible; rw [if_pos e]; simp [h2])]
    have h0 : ((0 ≤ I ∧ I < rs.length) ∧ (0 ≤ J ∧ J < rs.length)) → I ≠ J → b = 0 := fun h1 h2 => by
      rw [← hcode, if_neg (hmiss h1), if_neg (by omega), if_neg (by unfold possible; rw [if_pos e]; simp [h2])]
    refine apply_mul K I J r A Aw c nw cw rs w h hn hrow _ hp e (fun W hW => ?_)
    have hC := fun W' (hb' : Below W.heap.size W W') => tz_check_mul I J r A c rs.length b W' hno h5 h0
    by_cases hb0 : b = 0
    · have hIJ : (0 ≤ I ∧ I < rs.length) ∧ (0 ≤ J ∧ J < rs.length) := Decidable.byContradiction fun h1 => by rw [hno h1] at hb0; omega
      obtain ⟨i, rfl⟩ : ∃ i : Nat, I = i := ⟨I.toNat, by omega⟩
      obtain ⟨j, rfl⟩ : ∃ j : Nat, J = j := ⟨J.toNat, by omega⟩
      have hi : i < rs.length := by omega
      have hj : j < rs.length := by omega
      have eg : mvGen r K = r := by unfold mvGen; rw [if_neg (by omega), if_neg (by omega)]
      have ec : mvChg r (vals rs) K i j ws = (vals rs).set i ((rs.getD i nilRw).zs ++ (rs.getD j nilRw).zs) := by unfold mvChg; rw [if_neg (by omega), if_neg (by omega), if_pos e, Int.toNat_natCast, Int.toNat_natCast, GETI, GETI]
      rw [eg, ec]
      exact after_mul i j r r b A c rs _ W hC (fun _ W' hb' => chg_mul i j r A c rs W' ((h.into hW).into hb') hp hi hj) (okz_set OKR ⟨by have h1 := (ROW _ (vals_mem hi)).1; have h2 := (ROW _ (vals_mem hj)).1; rw [List.length_append]; omega, (ROW _ (vals_mem hi)).2.app (ROW _ (vals_mem hj)).2⟩) (by simp [vals_len]; omega)
    · rw [fin_bad hb0]
      exact after_mul I J r 0 b A c rs [] W hC (fun h0 => absurd h0 hb0) (by simp) (by simp)
  · -- drop
    have hno : ¬ (0 ≤ I ∧ I < rs.length) → b = 4 := fun h1 => by rw [← hcode, if_pos (MI.2 (.inl ⟨by omega, by omega⟩))]
    have hpo : possible (vals rs) K I J = (rs.getD I.toNat nilRw).zs.isEmpty := by unfold possible; rw [if_neg (by omega), if_pos e, GETI]
    have hmiss : (0 ≤ I ∧ I < rs.length) → ¬ missing r rs.length K I J = true := fun h1 h2 => by rcases MI.1 h2 with h3 | h3 | h3 <;> omega
    have h5 : (0 ≤ I ∧ I < rs.length) → (rs.getD I.toNat nilRw).zs ≠ [] → b = 5 := fun h1 h2 => by
      rw [← hcode, if_neg (hmiss h1), if_neg (by omega), if_pos (by rw [hpo]; simpa using h2)]
    have h0 : (0 ≤ I ∧ I < rs.length) → (rs.getD I.toNat nilRw).zs = [] → b = 0 := fun h1 h2 => by
      rw [← hcode, if_neg (hmiss h1), if_neg (by omega), if_neg (by rw [hpo, h2]; simp)]
    refine apply_drop K I J r A Aw c nw cw rs w h hn hrow _ hp e (fun W hW => ?_)
    have hC := fun W' (hb' : Below W.heap.size W W') => tz_check_drop I r A c rs b W' ((h.into hW).into hb') hno h5 h0
    by_cases hb0 : b = 0
    · have hI : 0 ≤ I ∧ I < rs.length := Decidable.byContradiction fun h1 => by rw [hno h1] at hb0; omega
      obtain ⟨i, rfl⟩ : ∃ i : Nat, I = i := ⟨I.toNat, by omega⟩
      have hi : i < rs.length := by omega
      have eg : mvGen r K = r := by unfold mvGen; rw [if_neg (by omega), if_neg (by omega)]
      have ec : mvChg r (vals rs) K i J ws = (vals rs).eraseIdx i := by unfold mvChg; rw [if_neg (by omega), if_neg (by omega), if_neg (by omega), if_pos e, Int.toNat_natCast]
      rw [eg, ec]
      exact after_drop i r r b A c rs _ W hC (fun _ W' hb' => chg_drop i r A c rs W' ((h.into hW).into hb') hp hi) (fun z hz' => OKR z (List.mem_of_mem_eraseIdx hz')) (by have := List.length_eraseIdx_le (vals rs) i; rw [vals_len] at this; omega)
    · rw [fin_bad hb0]
      exact after_drop I r 0 b A c rs [] W hC (fun h0 => absurd h0 hb0) (by simp) (by simp)
  · -- remove
    have hmiss : ((0 ≤ I ∧ I < rs.length) ∧ (1 ≤ J ∧ J ≤ r)) → ¬ missing r rs.length K I J = true := fun h1 h2 => by rcases MI.1 h2 with h3 | h3 | h3 <;> omega
    have hno : ¬ ((0 ≤ I ∧ I < rs.length) ∧ (1 ≤ J ∧ J ≤ r)) → b = 4 := fun h1 => by
      rw [← hcode, if_pos (MI.2 (by by_cases h2 : 0 ≤ I ∧ I ≤ (rs.length : Int) - 1; exact .inr (.inr ⟨e, by omega⟩); exact .inl ⟨by omega, h2⟩))]
    have hpo : possible (vals rs) K I J = decide (Wd.occ J (rs.getD I.toNat nilRw).zs = 1) := by unfold possible; rw [if_neg (by omega), if_neg (by omega), if_pos e, GETI]
    have h5 : ((0 ≤ I ∧ I < rs.length) ∧ (1 ≤ J ∧ J ≤ r)) → Wd.occ J (rs.getD I.toNat nilRw).zs ≠ 1 → b = 5 := fun h1 h2 => by
      rw [← hcode, if_neg (hmiss h1), if_neg (by omega), if_pos (by rw [hpo]; simpa using h2)]
    have h0 : ((0 ≤ I ∧ I < rs.length) ∧ (1 ≤ J ∧ J ≤ r)) → Wd.occ J (rs.getD I.toNat nilRw).zs = 1 → b = 0 := fun h1 h2 => by
      rw [← hcode, if_neg (hmiss h1), if_neg (by omega), if_neg (by rw [hpo, h2]; simp)]
    refine apply_rem K I J r A Aw c nw cw rs w h hn hrow _ hp e (fun W hW => ?_)
    have hC := fun W' (hb' : Below W.heap.size W W') => tz_check_rem I J r A c rs b W' ((h.into hW).into hb') hrow r0 r24 hno h5 h0
    by_cases hb0 : b = 0
    · have hI : (0 ≤ I ∧ I < rs.length) ∧ (1 ≤ J ∧ J ≤ r) := Decidable.byContradiction fun h1 => by rw [hno h1] at hb0; omega
      have hoc : Wd.occ J (rs.getD I.toNat nilRw).zs = 1 := Decidable.byContradiction fun h1 => by rw [h5 hI h1] at hb0; omega
      obtain ⟨i, rfl⟩ : ∃ i : Nat, I = i := ⟨I.toNat, by omega⟩
      rw [Int.toNat_natCast] at hoc
      have hi : i < rs.length := by omega
      have eg : mvGen r K = r - 1 := by unfold mvGen; rw [if_pos e]
      have ec : mvChg r (vals rs) K i J ws = ((vals rs).eraseIdx i).map fun z => (Wd.sub J (Wd.solve J (rs.getD i nilRw).zs) z).map (Wd.ren J) := by unfold mvChg; rw [if_neg (by omega), if_neg (by omega), if_neg (by omega), if_neg (by omega), if_pos e, Int.toNat_natCast, GETI]
      have hsl := Wd.solve_len (g := J) (l := (rs.getD i nilRw).zs)
      have hrl := (ROW _ (vals_mem hi)).1
      rw [eg, ec]
      refine after_rem i J r (r - 1) b A c rs _ W hC (fun _ W' hb' => chg_rem i J r A c rs W' ((h.into hW).into hb') hp hi (by omega) (by omega) (by rw [hoc]; decide)) (fun z hz' => ?_) (by have := List.length_eraseIdx_le (vals rs) i; rw [vals_len] at this; simp; omega)
      obtain ⟨y, hy, rfl⟩ := List.mem_map.1 hz'
      have hyr := ROW y (List.mem_of_mem_eraseIdx hy)
      refine ⟨?_, Wd.ren_sm (by omega) (Wd.sub_sm (Wd.solve_sm (ROW _ (vals_mem hi)).2) hyr.2)⟩
      have h3 := Wd.sub_len J (Wd.solve J (rs.getD i nilRw).zs) y
      have h4 : y.length * ((Wd.solve J (rs.getD i nilRw).zs).length + 1) ≤ 120 * 121 := Nat.mul_le_mul hyr.1 (by omega)
      rw [List.length_map]
      omega
    · rw [fin_bad hb0]
      exact after_rem I J r 0 b A c rs [] W hC (fun h0 => absurd h0 hb0) (by simp) (by simp)
  · -- add
    have hmiss : ¬ missing r rs.length K I J = true := fun h2 => by rcases MI.1 h2 with h3 | h3 | h3 <;> omega
    have hpo : possible (vals rs) K I J = true := by unfold possible; rw [if_neg (by omega), if_neg (by omega), if_neg (by omega)]
    have hbv : b = if Wd.isR r ws = true then 0 else 1 := by
      rw [← hcode, if_neg hmiss]
      rcases hr : Wd.isR r ws with _ | _
      · rw [if_pos ⟨e, rfl⟩]; rfl
      · rw [if_neg (by simp), if_neg (by rw [hpo]; simp)]; rfl
    refine apply_add K I J r A Aw c nw cw rs w h hn hrow _ hp e (fun W hW => ?_)
    have hC := fun W' (hb' : Below W.heap.size W W') => tz_check_add r A Aw c rs.length nw cw ws b W' ((hw.into hW).into hb') hwn r0 r24 hbv
    by_cases hb0 : b = 0
    · have hir : Wd.isR r ws = true := Decidable.byContradiction fun h1 => by rw [hbv, if_neg h1] at hb0; omega
      have hww := (Wd.isR_iff.1 hir).1
      have hwl := (Wd.isW_fit hww).1
      have eg : mvGen r K = r + 1 := by unfold mvGen; rw [if_neg (by omega), if_pos e]
      have ec : mvChg r (vals rs) K I J ws = vals rs ++ [-(r + 1) :: ws] := by unfold mvChg; rw [if_neg (by omega), if_neg (by omega), if_neg (by omega), if_neg (by omega), if_neg (by omega)]
      rw [eg, ec]
      refine after_add Aw nw cw r (r + 1) b A c rs _ W hC (fun _ W' hb' => chg_add Aw nw cw ws r A c rs W' ((h.into hW).into hb') hp ((hw.into hW).into hb') (by rw [← hw.1]; exact hwl)) (fun z hz' => ?_) (by simp [vals_len]; omega)
      rcases List.mem_append.1 hz' with h1 | h1
      · exact OKR z h1
      · simp at h1
        subst h1
        refine ⟨by simp; omega, fun x hx => ?_⟩
        rcases List.mem_cons.1 hx with h2 | h2
        · omega
        · exact Wd.isW_sm hww (by omega) x h2
    · rw [fin_bad hb0]
      exact after_add Aw nw cw r 0 b A c rs [] W hC (fun h0 => absurd h0 hb0) (by simp) (by simp)
end

end Go.Proofs.Ytjommpdblbbkdaa
