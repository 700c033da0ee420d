/- The specification's AddTetrahedron. No condition but those that each theorem names. -/
import Derived.Test.YtajbahfbldmckaaDoorFcU
import Derived.Test.YtajbahfbldmckaaDoorFcN
namespace Go.Proofs.YtajbahfbldmckaaDoor
open Go.RowKit
/-- What AddTetrahedron hands back. -/
def Tr.addT (T : List (List Int)) : List (List Int) := if Tr.Is T ∧ T.length ≠ 8 then T ++ [Fc.fr] else []
def Tr.addC (T : List (List Int)) : Int := if Tr.Is T then (if T.length = 8 then 3 else 0) else 1
namespace Fc

/-- A store into a block that neither the list nor its rows lie in. -/
theorem OwnS.far_off {w : World} {lo hi c : Nat} {A : Option Addr} {rs : List Rw} (h : OwnS w lo hi A c rs) {p : Addr} (ho : ∀ a, A = some a → a.block ≠ p.block) (hr : ∀ q ∈ rs, q.Off p.block) (u : Value) : OwnS (w.setCell p u) lo hi A c rs := by
  refine ⟨⟨h.row.1, ?_⟩, h.top, fun q hq => (h.mine q hq).set_ p (hr q hq) u, h.off, h.apart⟩
  rcases h.row.2 with h0 | ⟨g, cap, cur, hv, hb, hg, r⟩
  · exact .inl h0
  · refine .inr ⟨g, cap, cur, hv, hb, ?_, r⟩
    injection hv with h1 h2 h3
    rw [Below.heap_setCell w _ _ g ?_]
    · exact hg
    · intro e
      exact ho _ h1 (by first | exact e | exact e.symm)

/-- A row is appended at a step of a region that draws its order; what lies between stays apart. -/
theorem step_push_row2 {w : World} {ops : Array Oper} {o : Oper} {a : Act} {K : Act → World → Prop} {Q : Exit → Act → World → Prop} {E : Prop} (hgd : o.guard = none) (s x : Operand) (ho : o.op = .call { callee := .builtin .append, args := #[s, x], argTypes := #[26, 26] })
    (lo hi lo2 c n g : Nat) (A : Option Addr) (rs : List Rw) (r : Rw) (hs : a.eval s = .slice A n c) (hn : rs.length = n) (hown : OwnS w lo hi A c rs) (hx : a.eval x = .slice (some ⟨g, 0, none⟩) 1 1) (hc : w.cell? ⟨g, 0, none⟩ = some r.sv) (hr : r.In w lo2 w.heap.size) (h12 : hi ≤ lo2) (hlo2 : lo ≤ lo2) (hlo : lo ≤ w.heap.size) (hhi : hi ≤ w.heap.size) (hlen : n ≤ 1048576)
    (h : ∀ A' c' w', OwnS w' lo w'.heap.size A' c' (rs ++ [r]) → Kept lo hi w w' → (∀ b0, hi ≤ b0 → b0 < lo2 → b0 < w.heap.size → (∀ a, A' = some a → a.block ≠ b0) ∧ ∀ q ∈ rs ++ [r], q.Off b0) → K (a.put o.dst (.slice A' (n + 1) c')) w') : if Region.wanted o (yielded ops a.tmps) = true then Oper.wp Tryd.prog o a w K Q else E := by
  obtain ⟨ti, hi0, hz0, hz1, hz2⟩ := info_parts infoS
  subst hn
  refine step_append_lies w hgd s x 26 ho lo 61 ti _ 1 24 Tryd.underlying26 hi0 hz0 hz1 hz2 rfl (by decide) (.slice A rs.length c) rs.length (rs.map Rw.sv) hs hown.row ⟨g, 0, none⟩ 1 1 [r.sv] hx rfl
    (by intro j u hj; cases j with | zero => (simp at hj; subst hj; simpa [Addr.add] using hc) | succ j => simp at hj) (by intro u hu; simp at hu; subst hu; rfl) (by omega) (by unfold maxLen; omega) (by omega) hlo _ rfl ?_
  intro g' cap w' h1 hg hat hlt
  obtain ⟨q1, q2⟩ := hown.pushed hr h12 hlo2 hhi h1 hg hat hlt
  refine h _ _ _ q1 q2 (fun b0 h3 h4 h5 => ⟨fun a' ha' => ?_, fun q hq => ?_⟩)
  · cases ha'
    dsimp only
    rcases hat with hat | hat
    · cases A with
      | none => simp [Value.ownBlock] at hat
      | some p =>
        have h6 := hown.top p rfl
        simp [Value.ownBlock] at hat
        omega
    · omega
  · rcases List.mem_append.1 hq with hq | hq
    · exact (hown.mine q hq).off (.inr h3)
    · simp at hq; subst hq
      exact hr.off (.inl h4)

/-- What a call hands back: a triangulation in memory of its own, and a code. -/
def ResTC (w : World) (zss : List (List Int)) (k : Int) (e : Ending) (w' : World) : Prop :=
  ∃ A c rs, e = .returned (.tuple #[.agg #[.slice A rs.length c], .int .i64 k]) ∧ OwnS w' w.heap.size w'.heap.size A c rs ∧ vals rs = zss ∧ Below w.heap.size w w'

theorem free_spec (w : World) : Calls Tryd.prog 46 #[] w fun e w' => e = .returned (.slice (some ⟨w.heap.size, 0, none⟩) 4 4) ∧ BlkF w' w.heap.size fr ∧ Below w.heap.size w w' := by
  go_enter Tryd.func46, Tryd.ntmps46
  go_wp2
  go_ret
  exact ⟨rfl, BlkF.new w fr, al1 _ _⟩

set_option maxRecDepth 100000 in
set_option maxHeartbeats 8000000 in
theorem addTet_spec (A : Option Addr) (n c : Nat) (T : List (List Int)) (w : World) (h : RdT w w.heap.size A n T) (hn : n ≤ 1048576) :
    Calls Tryd.prog 14 #[.agg #[.slice A n c]] w (ResTC w (Tr.addT T) (Tr.addC T)) := by
  have LN := Lib.hid h.len
  have HT := Lib.hid h
  have TI := Lib.hid (fun (W : World) (hb : Below w.heap.size w W) => isTri_specT A n c T W (h.into hb) hn)
  clear h
  obtain ⟨U, hU⟩ : ∃ U, U = (w.alloc (Obj.cells #[.slice A n c] 28)).alloc (Obj.cells #[.slice none 0 0] 28) := ⟨_, rfl⟩
  have hB : Below w.heap.size w U := by rw [hU]; exact al2 w _ _
  have z : U.heap.size = w.heap.size + 2 := by rw [hU]; simp
  have k0 : U.cell? ⟨w.heap.size, 0, none⟩ = some (.slice A n c) := by rw [hU]; simp [go_sem]
  have k1 : U.cell? ⟨w.heap.size + 1, 0, none⟩ = some (.slice none 0 0) := by rw [hU]; simp [go_sem]
  have f1 : U.frozen? ⟨w.heap.size + 1, 0, none⟩ = false := by rw [hU]; simp [go_sem]
  have DU := Lib.hid hB
  clear hB
  go_enter Tryd.func14, Tryd.ntmps14
  go_upto_region 1 with fail
  rw [← hU]
  clear hU
  go_wp2_with fail
  refine (TI.out U DU.out).mono ?_
  rintro e w1 ⟨rfl, hb⟩
  have k0 := (hb.cell (p := ⟨w.heap.size, 0, none⟩) (by dsimp only; omega)).trans k0
  have k1 := (hb.cell (p := ⟨w.heap.size + 1, 0, none⟩) (by dsimp only; omega)).trans k1
  have f1 := (hb.frozen (p := ⟨w.heap.size + 1, 0, none⟩) (by dsimp only; omega)).trans f1
  have z1 : U.heap.size ≤ w1.heap.size := hb.size
  have D1 := Lib.hid (DU.out.trans (hb.mono (by omega)))
  clear hb TI DU
  by_cases hok : Tr.Is T
  case neg =>
    rw [decide_eq_false hok]
    have R := Lib.hid (show Tr.addT T = [] ∧ Tr.addC T = 1 from by unfold Tr.addT Tr.addC; rw [if_neg (fun e => hok e.1), if_neg hok]; exact ⟨rfl, rfl⟩)
    clear hok
    go_wp2
    refine bodyPost_ret (v := .tuple #[.agg #[.slice none 0 0], .int .i64 1]) (by simp [results, Tryd.results14, k1, go_sem]) rfl ?_
    rw [R.out.1, R.out.2]
    exact ⟨none, 0, [], rfl, OwnS.nil _ _ _, rfl, D1.out.setCell (by dsimp only; omega) _⟩
  rw [decide_eq_true hok]
  have h8 : n ≤ 8 := by rw [← LN.out]; exact hok.1
  have H4 := Lib.hid hok.2.1
  go_wp2_with fail
  refine (tets_spec A n c _).mono ?_
  rintro e w2 ⟨rfl, hb⟩
  have k0 := (hb.cell (p := ⟨w.heap.size, 0, none⟩) (by dsimp only; omega)).trans k0
  have k1 := (hb.cell (p := ⟨w.heap.size + 1, 0, none⟩) (by dsimp only; omega)).trans k1
  have f1 := (hb.frozen (p := ⟨w.heap.size + 1, 0, none⟩) (by dsimp only; omega)).trans f1
  have z2 : w1.heap.size ≤ w2.heap.size := hb.size
  have D2 := Lib.hid (D1.out.trans (hb.mono (by omega)))
  clear hb D1
  by_cases he : n = 8
  · have R := Lib.hid (show Tr.addT T = [] ∧ Tr.addC T = 3 from by unfold Tr.addT Tr.addC; rw [if_neg (fun e => e.2 (by rw [LN.out]; exact he)), if_pos hok, if_pos (by rw [LN.out]; exact he)]; exact ⟨rfl, rfl⟩)
    subst he
    clear hok
    go_wp2
    refine bodyPost_ret (v := .tuple #[.agg #[.slice none 0 0], .int .i64 3]) (by simp [results, Tryd.results14, k1, go_sem]) rfl ?_
    rw [R.out.1, R.out.2]
    exact ⟨none, 0, [], rfl, OwnS.nil _ _ _, rfl, D2.out.setCell (by dsimp only; omega) _⟩
  have R := Lib.hid (show Tr.addT T = T ++ [fr] ∧ Tr.addC T = 0 from by unfold Tr.addT Tr.addC; rw [if_pos ⟨hok, fun e => he (by rw [← LN.out]; exact e)⟩, if_pos hok, if_neg (fun e => he (by rw [← LN.out]; exact e))]; exact ⟨rfl, rfl⟩)
  have i1 : ¬ (n : Int) = 8 := by omega
  have b1 : ((n : Int) == 8) = false := by simpa using i1
  clear hok
  go_wp2_with fail
  refine (own_spec A n c T w2 (HT.out.into D2.out) h8 H4.out).mono ?_
  rintro e w3 ⟨A', c', rs, rfl, hO, hV, hb⟩
  have k1 := (hb.cell (p := ⟨w.heap.size + 1, 0, none⟩) (by dsimp only; omega)).trans k1
  have f1 := (hb.frozen (p := ⟨w.heap.size + 1, 0, none⟩) (by dsimp only; omega)).trans f1
  have z3 : w2.heap.size ≤ w3.heap.size := hb.size
  have D3 := Lib.hid (D2.out.trans (hb.mono (by omega)))
  have O3 := Lib.hid hO
  have V3 := Lib.hid hV
  have hl : rs.length ≤ 8 := by rw [← Fc.vals_len, hV, LN.out]; exact h8
  clear hb hO hV D2
  go_upto_region 6 with fail
  obtain ⟨V, hVW⟩ : ∃ V, V = w3.alloc (Obj.cells #[.slice A' rs.length c'] 28) := ⟨_, rfl⟩
  obtain ⟨zV1, zV2⟩ : V.heap.size ≤ w3.heap.size + 1 ∧ w3.heap.size + 1 ≤ V.heap.size := by rw [hVW]; simp
  have e0 : V.cell? ⟨w3.heap.size, 0, none⟩ = some (.slice A' rs.length c') := by rw [hVW]; simp [go_sem]
  have fv : V.frozen? ⟨w3.heap.size, 0, none⟩ = false := by rw [hVW]; simp [go_sem]
  have hBV : Below w3.heap.size w3 V := by rw [hVW]; exact al1 _ _
  have k1 := (hBV.cell (p := ⟨w.heap.size + 1, 0, none⟩) (by dsimp only; omega)).trans k1
  have f1 := (hBV.frozen (p := ⟨w.heap.size + 1, 0, none⟩) (by dsimp only; omega)).trans f1
  have OV := Lib.hid (O3.out.below hBV (Nat.le_refl _))
  have DV := Lib.hid (D3.out.trans (hBV.mono (by omega)))
  have ne : ¬ w.heap.size + 1 = w3.heap.size := by omega
  have lt : w3.heap.size < V.heap.size := by omega
  have lt1 : w.heap.size + 1 < V.heap.size := by omega
  rw [← hVW]
  clear hVW hBV
  go_region_law (first
    | (go_simp; go_at_call 46; (refine (free_spec _).mono ?_); rintro e w5 ⟨rfl, hF, hb5'⟩; have hb5 := undrew hb5'; have B5 := Lib.hid hb5; have F5 := Lib.hid hF; have z5 := hb5.size; have e5 := (hb5.cell (p := ⟨w3.heap.size, 0, none⟩) (by dsimp only; omega)).trans e0; have f5 := (hb5.frozen (p := ⟨w3.heap.size, 0, none⟩) (by dsimp only; omega)).trans fv; have l5 : w3.heap.size < w5.heap.size := (by omega); have y5 := hF.lt; clear hF hb5 hb5')
    | (refine step_push_row2 (by rfl) _ _ (by rfl) w2.heap.size w3.heap.size V.heap.size c' rs.length w5.heap.size A' rs ⟨some ⟨V.heap.size, 0, none⟩, 4, fr⟩ (by rfl) rfl (by exact OV.out.below (B5.out.trans ((al1 w5 _).mono z5)) (by omega)) (by rfl) (by rw [sv_fr]; exact Wd.alloc_first _ _ _ _ rfl) (by exact ⟨⟨by simp [fr], by simp [fr]⟩, by unfold maxLen; dsimp only; omega, (F5.out.alloc _).mine (Nat.le_refl _) (by simp; exact Nat.lt_succ_of_lt y5) rfl⟩) (by omega) (by omega) (by simp; omega) (by simp; omega) (by omega) ?_; intro A8 c8 w8 h5 h6 h7; have X8 := Lib.hid (h7 w3.heap.size (Nat.le_refl _) (by omega) (by simp; omega)); have O8 := Lib.hid h5; have K8 := Lib.hid h6; have s8 := h6.size; simp only [World.size_alloc] at s8; have e8 := (World.cell?_of_block (a := ⟨w3.heap.size, 0, none⟩) (h6.block w3.heap.size (by simp; omega) (by omega))).trans (((al1 w5 _).cell (p := ⟨w3.heap.size, 0, none⟩) (by dsimp only; omega)).trans e5); have f8 := (World.frozen?_of_block (a := ⟨w3.heap.size, 0, none⟩) (h6.block w3.heap.size (by simp; omega) (by omega))).trans (((al1 w5 _).frozen (p := ⟨w3.heap.size, 0, none⟩) (by dsimp only; omega)).trans f5); clear h5 h6 h7))
  all_goals
    have D8 := Lib.hid (show Below w.heap.size w w8 from ((DV.out.trans (B5.out.mono (by omega))).trans ((al1 w5 _).mono (by omega))).trans (K8.out.below (by omega) (by simp; omega)))
    have k8 := (World.cell?_of_block (a := ⟨w.heap.size + 1, 0, none⟩) (K8.out.block (w.heap.size + 1) (by simp; omega) (by omega))).trans (((al1 w5 _).cell (p := ⟨w.heap.size + 1, 0, none⟩) (by dsimp only; omega)).trans ((B5.out.cell (p := ⟨w.heap.size + 1, 0, none⟩) (by dsimp only; omega)).trans k1))
    have f9 := (World.frozen?_of_block (a := ⟨w.heap.size + 1, 0, none⟩) (K8.out.block (w.heap.size + 1) (by simp; omega) (by omega))).trans (((al1 w5 _).frozen (p := ⟨w.heap.size + 1, 0, none⟩) (by dsimp only; omega)).trans ((B5.out.frozen (p := ⟨w.heap.size + 1, 0, none⟩) (by dsimp only; omega)).trans f1))
    clear k0 k1 f1 e0 fv e5 f5 lt lt1
    go_wp2
    refine bodyPost_ret (v := .tuple #[.agg #[.slice A8 (rs.length + 1) c8], .int .i64 0]) (by simp [results, Tryd.results14, k8, go_sem]) rfl ?_
    rw [R.out.1, R.out.2]
    refine ⟨A8, c8, rs ++ [⟨some ⟨V.heap.size, 0, none⟩, 4, fr⟩], by simp, ((O8.out.far_off (p := ⟨w3.heap.size, 0, none⟩) X8.out.1 X8.out.2 _).far (p := ⟨w.heap.size + 1, 0, none⟩) (.inl (by dsimp only; omega)) _).wide (by omega) (by simp [World.setCell]), by rw [vals, List.map_append, ← V3.out]; rfl, (D8.out.setCell (by dsimp only; omega) _).setCell (by dsimp only; omega) _⟩

end Fc
end Go.Proofs.YtajbahfbldmckaaDoor
