/- Rows appended to the field of a presentation that is being built; copies of presentations. No condition but those that each theorem names. -/
import Derived.Test.YtjommpdblbbkdaaSsP
import Derived.Test.YtjommpdblbbkdaaWdD
import Derived.Deep.RegionLaw
import Derived.Deep.DeepCutAuto
import Derived.Lib.SliceRun
namespace Go.Proofs.Ytjommpdblbbkdaa
open Go.RowKit

/-- What an append of a row leaves. -/
theorem OwnS.pushed {w w' : World} {lo hi lo2 c g' cap : Nat} {A : Option Addr} {rs : List Rw} {r : Rw} (hown : OwnS w lo hi A c rs) (hr : r.In w lo2 w.heap.size) (h12 : hi ≤ lo2) (hlo2 : lo ≤ lo2) (hhi : hi ≤ w.heap.size)
    (h1 : w'.ownsRow lo 34 1 (.slice (some ⟨g', 0, none⟩) (rs.length + 1) cap) (rs.length + 1) (rs.map Rw.sv ++ [r.sv])) (hg : w.grownBy w' (Value.slice A rs.length c).ownBlock) (hat : (Value.slice A rs.length c).ownBlock = some g' ∨ g' = w.heap.size) (hlt : g' < w'.heap.size) :
    OwnS w' lo w'.heap.size (some ⟨g', 0, none⟩) cap (rs ++ [r]) ∧ Kept lo hi w w' := by
  have hob : ∀ k, (Value.slice A rs.length c).ownBlock = some k → lo ≤ k ∧ k < hi ∧ ∀ q ∈ rs, q.Off k := fun k hk => by
    cases A with
    | none => simp [Value.ownBlock] at hk
    | some p =>
      have h2 := hown.top p rfl
      have h3 := fun q hq => hown.off q hq p rfl
      have h4 := (World.ownsRow.lt hown.row k hk).1
      simp [Value.ownBlock] at hk
      subst hk
      exact ⟨h4, h2, h3⟩
  have hk : Kept lo hi w w' := Wd.kept_grown hg fun k hk => ⟨(hob k hk).1, (hob k hk).2.1⟩
  have hrw : r.In w' lo w'.heap.size := (hr.grown hg fun k hk => hr.off (.inl (by have := (hob k hk).2.1; omega))).wide hlo2 hg.size
  refine ⟨⟨?_, (fun a ha => by cases ha; exact hlt), fun q hq => ?_, fun q hq a ha => ?_, ?_⟩, hk⟩
  · rw [List.length_append, List.map_append]
    exact h1
  · rcases List.mem_append.1 hq with hq | hq
    · exact ((hown.mine q hq).grown hg fun k hk => (hob k hk).2.2 q hq).wide (Nat.le_refl _) (Nat.le_trans hhi hg.size)
    · simp at hq; subst hq
      exact hrw
  · cases ha
    dsimp only
    rcases hat with hat | hat
    · rcases List.mem_append.1 hq with hq | hq
      · exact (hob _ hat).2.2 q hq
      · simp at hq; subst hq
        exact hr.off (.inl (by have := (hob _ hat).2.1; omega))
    · rcases List.mem_append.1 hq with hq | hq
      · exact (hown.mine q hq).off (.inr (by omega))
      · simp at hq; subst hq
        exact hr.off (.inr (by omega))
  · rw [List.pairwise_append]
    exact ⟨hown.apart, List.pairwise_singleton _ _, fun q hq q' hq' => by simp at hq'; subst hq'; exact Apart.of_in (hown.mine q hq) hr (.inl h12)⟩

/-- A row is appended at a step of a region that draws its order. -/
theorem step_push_row {w : World} {ops : Array Oper} {o : Oper} {a : Act} {K : Act → World → Prop} {Q : Exit → Act → World → Prop} {E : Prop} (hgd : o.guard = none) (s x : Operand) (ho : o.op = .call { callee := .builtin .append, args := #[s, x], argTypes := #[24, 24] })
    (lo hi lo2 c n g : Nat) (A : Option Addr) (rs : List Rw) (r : Rw) (hs : a.eval s = .slice A n c) (hn : rs.length = n) (hown : OwnS w lo hi A c rs) (hx : a.eval x = .slice (some ⟨g, 0, none⟩) 1 1) (hc : w.cell? ⟨g, 0, none⟩ = some r.sv) (hr : r.In w lo2 w.heap.size) (h12 : hi ≤ lo2) (hlo2 : lo ≤ lo2) (hlo : lo ≤ w.heap.size) (hhi : hi ≤ w.heap.size) (hlen : n ≤ 1048576)
    (h : ∀ A' c' w', OwnS w' lo w'.heap.size A' c' (rs ++ [r]) → Kept lo hi w w' → K (a.put o.dst (.slice A' (n + 1) c')) w') : if Region.wanted o (yielded ops a.tmps) = true then Oper.wp Try.prog o a w K Q else E := by
  obtain ⟨ti, hi0, hz0, hz1, hz2⟩ := info_parts infoS
  subst hn
  refine step_append_lies w hgd s x 24 ho lo 34 ti _ 1 24 Try.underlying24 hi0 hz0 hz1 hz2 rfl (by decide) (.slice A rs.length c) rs.length (rs.map Rw.sv) hs hown.row ⟨g, 0, none⟩ 1 1 [r.sv] hx rfl
    (by intro j u hj; cases j with | zero => (simp at hj; subst hj; simpa [Addr.add] using hc) | succ j => simp at hj) (by intro u hu; simp at hu; subst hu; rfl) (by omega) (by unfold maxLen; omega) (by omega) hlo _ rfl ?_
  intro g' cap w' h1 hg hat hlt
  obtain ⟨q1, q2⟩ := hown.pushed hr h12 hlo2 hhi h1 hg hat hlt
  exact h _ _ _ q1 q2

set_option maxHeartbeats 2000000 in
theorem cloneL_any (A : Option Addr) (n c : Nat) (zs : List Int) (w : World) (h : Ints w w.heap.size A n zs) (hn : n ≤ 1048576) :
    Calls Try.prog 53 #[.slice A n c] w (ResLM w zs) := by
  have q24 : ∀ (w : World) (a : Option Addr) (n c n' c' : Nat), (binOp .eql 34 (.slice a n c) (.slice none n' c')).run Try.prog w = .ok (.bool a.isNone) w := fun w a n c n' c' => Lib.run_eql_slice_nil w _ _ a n c n' c' Try.underlying34
  have hl := Lib.hid h.1
  cases A with
  | none =>
    have hn0 : n = 0 := by
      rcases Nat.eq_zero_or_pos n with h0 | h0
      · exact h0
      · obtain ⟨b, off, e, _⟩ := h.2 h0
        cases e
    subst hn0
    have hz : zs = [] := List.length_eq_zero_iff.1 h.1
    subst hz
    clear h
    go_enter Try.func53, Try.ntmps53
    go_wp2
    go_ret
    exact ⟨none, 0, rfl, ⟨Nat.le_refl _, Nat.zero_le _⟩, Mine.none_ _ _ _ _, Below.refl _ _⟩
  | some ad =>
    have H := Lib.hid h
    clear h
    go_enter Try.func53, Try.ntmps53
    go_wp2_with (at_builtin; refine Wd.push_any rfl _ _ rfl w.heap.size (w.heap.size + 1) 0 w.heap.size 0 n c (some ⟨w.heap.size, 0, none⟩) (some ad) [] zs rfl (by exact Wd.own_nil w) rfl (by exact H.out.below (al1 w _)) (by simp) (by simp) (by omega) ?_; intro A7 c7 w7 h5 h6; have O7 := Lib.hid (show Own w7 w.heap.size w7.heap.size A7 n c7 zs from by simpa using h5); have D7 := Lib.hid ((al1 w _).trans (h6.below (Nat.le_refl _) (by simp))); clear h5 h6)
    go_ret
    unfold ResLM
    rw [hl.out]
    exact ⟨A7, c7, rfl, Wd.own_caps O7.out, O7.out.mine, D7.out⟩

/-- A presentation in a box at cb, its rows from block lo on; nothing below the box has changed since V. -/
structure PBox (V : World) (cb lo : Nat) (r : Int) (qs : List Rw) (W : World) : Prop where
  box : ∃ A c, BoxG W cb (.int .i64 r) (.slice A qs.length c) ∧ OwnS W lo W.heap.size A c qs
  fr : Free W cb
  lt : cb < W.heap.size
  bel : Below cb V W
  lo : cb < lo
section
variable {V W W' : World} {cb lo : Nat} {r : Int} {qs : List Rw}
theorem PBox.below (h : PBox V cb lo r qs W) (hb : Below W.heap.size W W') : PBox V cb lo r qs W' := by
  obtain ⟨⟨A, c, h1, h2⟩, h3, h4, h5, h6⟩ := h
  exact ⟨⟨A, c, h1.below hb h4, (h2.below hb (Nat.le_refl _)).wide (Nat.le_refl _) hb.size⟩, h3.below hb h4, Nat.lt_of_lt_of_le h4 hb.size, h5.trans (hb.mono (by omega)), h6⟩
theorem BoxG.set1_ {b : Nat} {x y u : Value} (h : BoxG W b x y) : BoxG (W.setCell ⟨b, 1, none⟩ u) b x u := ⟨by simp [h.1, go_sem], by simp [h.2, go_sem]⟩
theorem Free.setA {g : Nat} (h : Free W g) (p : Addr) (u : Value) : Free (W.setCell p u) g := fun o => by
  have := h o
  simp [this, go_sem]
theorem PBox.pushed {w6 w7 : World} {o : Obj} {A7 A8 : Option Addr} {c7 c8 hi : Nat} {r6 : Rw} {n : Nat} (h : PBox V cb lo r qs W) (hb : Below W.heap.size W w6) (hn : qs.length = n)
    (h5 : OwnS w7 lo w7.heap.size A7 c7 (qs ++ [r6])) (h6 : Kept lo hi (w6.alloc o) w7) (hA : A7 = A8) (hc : c7 = c8) : PBox V cb lo r (qs ++ [r6]) (w7.setCell ⟨cb, 1, none⟩ (.slice A8 (n + 1) c8)) := by
  subst hA hc hn
  obtain ⟨A, c, h1, h2⟩ := h.box
  have hl := h.lt
  have hlo := h.lo
  have hs := hb.size
  have hz : (w7.setCell ⟨cb, 1, none⟩ (.slice A7 (qs.length + 1) c7)).heap.size = w7.heap.size := by simp [World.setCell]
  have h7 := ((h1.below hb hl).below (al1 w6 o) (by omega)).kept h6 (by simp; omega) (by omega)
  have h8 := ((h.fr.below hb hl).below (al1 w6 o) (by omega)).kept h6 (by simp; omega) (by omega)
  have h9 := h6.size
  simp only [World.size_alloc] at h9
  refine ⟨⟨A7, c7, ?_, ?_⟩, h8.setA _ _, by rw [hz]; omega, ?_, hlo⟩
  · rw [List.length_append]
    exact h7.set1_
  · rw [hz]
    exact h5.far (.inl hlo) _
  · exact ((h.bel.trans (hb.mono (by omega))).trans (((al1 w6 o).mono (by omega)).trans (h6.below (by omega) (by simp; omega)))).setCell (Nat.le_refl _) _
end

/-- A presentation with its rows in new memory. -/
def ResPr (w : World) (r : Int) (zss : List (List Int)) (e : Ending) (w' : World) : Prop :=
  ∃ A c rs, e = .returned (.agg #[.int .i64 r, .slice A rs.length c]) ∧ OwnS w' w.heap.size w'.heap.size A c rs ∧ vals rs = zss ∧ Below w.heap.size w w'
theorem ResPr.fin {w W : World} {cb lo b : Nat} {r : Int} {qs : List Rw} {zss : List (List Int)} {x y : Value} {V : World} {A : Option Addr} {c : Nat} (hp : PBox V cb lo r qs W) (hA : OwnS W lo W.heap.size A c qs) (hV : Below w.heap.size w V) (hb : w.heap.size ≤ b) (hbc : b < cb) (hz : vals qs = zss) :
    ResPr w r zss (.returned (.agg #[.int .i64 r, .slice A qs.length c])) ((W.setCell ⟨b, 0, none⟩ x).setCell ⟨b, 1, none⟩ y) := by
  have hlt := hp.lt
  have hlo := hp.lo
  refine ⟨A, c, qs, rfl, ?_, hz, ?_⟩
  · exact ((hA.far (p := ⟨b, 0, none⟩) (.inl (by dsimp only; omega)) _).far (p := ⟨b, 1, none⟩) (.inl (by dsimp only; omega)) _).wide (by omega) (by simp [World.setCell])
  · exact ((hV.trans (hp.bel.mono (by omega))).setCell hb _).setCell hb _

set_option maxRecDepth 100000 in
set_option maxHeartbeats 8000000 in
theorem cloneP_any (r : Int) (A : Option Addr) (c : Nat) (rs : List Rw) (w : World) (h : RdS w w.heap.size A rs) (hn : rs.length ≤ 1048576) (hrow : ∀ q ∈ rs, q.zs.length ≤ 1048576) :
    Calls Try.prog 29 #[.agg #[.int .i64 r, .slice A rs.length c]] w (ResPr w r (vals rs)) := by
  have H := Lib.hid h
  have ROW := Lib.hid hrow
  obtain ⟨n, hrn⟩ : ∃ n, rs.length = n := ⟨_, rfl⟩
  have HN := Lib.hid hrn
  rw [hrn] at hn ⊢
  have K0 := Lib.hid (BoxG.new w 26 (.int .i64 r) (.slice A n c))
  have F1 := Lib.hid (Free.new (w.alloc (Obj.cells #[.int .i64 r, .slice A n c] 26)) 26 #[.int .i64 0, .slice none 0 0])
  have K1 := Lib.hid (BoxG.new (w.alloc (Obj.cells #[.int .i64 r, .slice A n c] 26)) 26 (.int .i64 0) (.slice none 0 0))
  have D2 := Lib.hid (al2 w (Obj.cells #[.int .i64 r, .slice A n c] 26) (Obj.cells #[.int .i64 0, .slice none 0 0] 26))
  clear h hrow hrn
  go_enter Try.func29, Try.ntmps29
  go_wp2
  obtain ⟨U, hU⟩ : ∃ U, U = (w.alloc (Obj.cells #[.int .i64 r, .slice A n c] 26)).alloc (Obj.cells #[.int .i64 0, .slice none 0 0] 26) := ⟨_, rfl⟩
  have sU : U.heap.size = w.heap.size + 1 + 1 := by rw [hU]; simp
  have X0 := Lib.hid (show BoxG U w.heap.size (.int .i64 r) (.slice A n c) from by rw [hU]; exact K0.out.below (al1 _ _) (by simp))
  have X1 := Lib.hid (show BoxG U (w.heap.size + 1) (.int .i64 0) (.slice none 0 0) from by rw [hU]; simpa using K1.out)
  have Y1 := Lib.hid (show Free U (w.heap.size + 1) from by rw [hU]; simpa using F1.out)
  have DU := Lib.hid (show Below w.heap.size w U from by rw [hU]; exact D2.out)
  rw [← hU]
  clear hU K0 F1 K1 D2
  obtain ⟨V, hV⟩ : ∃ V, V = U.alloc (Obj.cells #[.int .i64 r, .slice none 0 0] 26) := ⟨_, rfl⟩
  have P0 := Lib.hid (show PBox U (w.heap.size + 1 + 1) (w.heap.size + 1 + 1 + 1) r [] V from by
    rw [hV]
    exact ⟨⟨none, 0, by rw [← sU]; exact BoxG.new U _ _ _, OwnS.nil _ _ _⟩, by rw [← sU]; exact Free.new U _ _, by simp; omega, by rw [← sU]; exact al1 _ _, by omega⟩)
  rw [← hV]
  clear hV
  go_loopw [12] (fun x W => ∃ (k : Nat) (qs : List Rw), k ≤ n ∧ x = .int .i64 k ∧ vals qs = vals (rs.take k) ∧ PBox U (w.heap.size + 1 + 1) (w.heap.size + 1 + 1 + 1) r qs W) (fun x _ => n - (intOf x).toNat)
  case atStart => exact ⟨0, [], Nat.zero_le _, rfl, rfl, P0.out⟩
  case round =>
    obtain ⟨k, qs, hk, rfl, hvq, hp⟩ := hrel
    have VQ := Lib.hid hvq
    have P := Lib.hid hp
    have DW := Lib.hid (DU.out.trans (hp.bel.mono (by omega)))
    have QL := Lib.hid (show qs.length = k from by rw [← vals_len, hvq, vals_len, List.length_take, HN.out]; omega)
    obtain ⟨A2, c2, hbx, hown⟩ := hp.box
    rw [QL.out] at hbx
    have BX := Lib.hid hbx
    have O := Lib.hid hown
    have FR := Lib.hid hp.fr
    have hlt2 := hp.lt
    have i0 : (0 : Int) ≤ (k : Int) := by omega
    clear hvq hp hbx hown P0
    by_cases hlt : k < n
    · obtain ⟨b, off, Aj, cj, zj, rfl, hb, hr, hc, hjc, hjm, hj⟩ := (H.out.below DW.out).at_ (j := k) (by rw [HN.out]; exact hlt)
      have hl := ROW.out _ (getD_mem (rs := rs) (j := k) (by rw [HN.out]; exact hlt))
      rw [hr] at hl
      dsimp only at hl
      have CL := Lib.hid (fun (W : World) (hI : Ints W W.heap.size Aj zj.length zj) => cloneL_any Aj zj.length cj zj W hI hl)
      have HJ := Lib.hid (hj.more (show w.heap.size ≤ wr.heap.size from DW.out.size))
      have NX := Lib.hid (show vals (rs.take (k + 1)) = vals qs ++ [zj] from by
        rw [take_row (by rw [HN.out]; exact hlt), hr, vals, List.map_append, VQ.out]; rfl)
      have i1 : (k : Int) < (n : Int) := by omega
      obtain ⟨bx0, bx1⟩ := BX.out
      have fx := FR.out
      unfold Free at fx
      clear hr hj
      go_wp2_with fail
      go_region_law (first
          | (refine step_push_row (by rfl) _ _ (by rfl) (w.heap.size + 1 + 1 + 1) wr.heap.size wr.heap.size c2 k w6.heap.size A2 qs ⟨R6, t6, zj⟩ (by rfl) QL.out (by exact O.out.below (B6.out.trans ((al1 w6 _).mono z6)) (Nat.le_refl _)) (by rfl) (by exact Wd.alloc_first _ _ _ _ rfl) (by exact (M6.out.below (al1 w6 _) (Nat.le_refl _)).wide (Nat.le_refl _) (by simp)) (Nat.le_refl _) (by omega) (by simp; omega) (by simp; omega) (by omega) ?_; intro A7 c7 w7 h5 h6; have O7 := Lib.hid h5; have K7 := Lib.hid h6; obtain ⟨y0, y1⟩ := ((BX.out.below B6.out (by omega)).below (al1 w6 (Obj.cells #[.slice R6 zj.length t6] 34)) (by omega)).kept K7.out (by simp; omega) (by omega); have g7 := ((FR.out.below B6.out (by omega)).below (al1 w6 (Obj.cells #[.slice R6 zj.length t6] 34)) (by omega)).kept K7.out (by simp; omega) (by omega); unfold Free at g7; clear h5 h6)
          | (go_simp; go_at_call 53; refine (CL.out _ (by exact HJ.out)).mono ?_; rintro e w6 ⟨R6, t6, rfl, hc6, hm6, hb6'⟩; have hb6 := undrew hb6'; have B6 := Lib.hid hb6; have z6 := hb6.size; have x6 : w.heap.size + 1 + 1 < w6.heap.size := (by omega); have M6 := Lib.hid (show Rw.In ⟨R6, t6, zj⟩ w6 wr.heap.size w6.heap.size from ⟨hc6.1, hc6.2, hm6⟩); obtain ⟨e0, e1⟩ := BX.out.below hb6 (by omega); clear hb6 hb6' hc6 hm6))
      all_goals
        have PX := Lib.hid (P.out.pushed B6.out QL.out O7.out K7.out rfl rfl)
        clear y0 y1 g7 e0 e1 bx0 bx1 fx
        go_wp2
        go_roundw
        case rel => exact ⟨k + 1, _, by omega, by go_num, by rw [NX.out, vals, List.map_append]; rfl, PX.out⟩
        case measure => simp [intOf]; omega
    · obtain rfl : k = n := by omega
      obtain ⟨bx0, bx1⟩ := BX.out
      have XB := Lib.hid (P.out.bel.trans (Below.refl (w.heap.size + 1 + 1) wr))
      obtain ⟨n0, n1⟩ := X1.out.below XB.out (by omega)
      have f0 := Y1.out.below XB.out (by omega)
      have VA := Lib.hid (show vals qs = vals rs from by rw [VQ.out, List.take_of_length_le (Nat.le_of_eq HN.out)])
      unfold Free at f0
      go_wp2
      refine bodyPost_ret (v := .agg #[.int .i64 r, .slice A2 k c2]) (by simp [results, Try.results29, n0, n1, go_sem]) rfl ?_
      have FIN := ResPr.fin (x := .int .i64 r) (y := .slice A2 k c2) P.out O.out DU.out (show w.heap.size ≤ w.heap.size + 1 by omega) (by omega) VA.out
      rw [QL.out] at FIN
      exact FIN

end Go.Proofs.Ytjommpdblbbkdaa
