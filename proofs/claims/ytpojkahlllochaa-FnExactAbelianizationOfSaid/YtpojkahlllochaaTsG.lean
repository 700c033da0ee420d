/- What the specification's reduction of a matrix begins with. No condition but those that each theorem names. -/
import Derived.Test.YtpojkahlllochaaTsF
import Derived.Test.YtpojkahlllochaaRed
import Derived.Deep.DeepCutAuto
import Derived.Deep.RegionHeld3
import Derived.Deep.Upon
namespace Go.Proofs.Ytpojkahlllochaa
open Go.RowKit

/-- An append of nothing, at the list of a drawn region's operations. -/
theorem step_append_none {P : Program} {w : World} {ops : Array Oper} {o : Oper} {a : Act} {K : Act → World → Prop} {Q : Exit → Act → World → Prop} {E : Prop} (hgd : o.guard = none) (s x : Operand) (t : TypeId)
    (ho : o.op = .call { callee := .builtin .append, args := #[s, x], argTypes := #[t, t] }) (e : TypeId) (i : TypeInfo) (ht : P.underlying t = some (.slice e)) (hi : P.info? e = some i)
    (b : Option Addr) (n cap : Nat) (hn : n ≤ cap) (hs : a.eval s = .slice b n cap) (A : Option Addr) (c : Nat) (hx : a.eval x = .slice A 0 c)
    (h : K (a.put o.dst (.slice b n cap)) w) : if Region.wanted o (yielded ops a.tmps) = true then Oper.wp P o a w K Q else E := by
  have hw : Region.wanted o (yielded ops a.tmps) = true := by simp [Region.wanted, hgd]
  rw [if_pos hw]
  have hr := run_append_nothing (P := P) w t t o.type e i ht hi b n cap hn (.slice A 0 c) ⟨.inl ⟨e, ht⟩, fun w' => by simp [Builtin.lenOf], by cases A <;> simp [Builtin.firstCells, loadCells, loadCellsFrom], by cases A <;> simp [Builtin.firstCells, loadCells, loadCellsFrom], by simp, by simp⟩
  unfold Oper.wp execOp
  simp only [ho, resolve, invoke, builtin, Sem.run_bind, Sem.run_pure, Result.andThen_ok, List.map_toArray, List.map_cons, List.map_nil, hs, hx, hr]
  exact h

/-- The memory in which a reduction begins. -/
def Opened (w : World) (R C n c : Nat) (A : Option Addr) (zs : List Int) (p : Value) (W : World) : Prop :=
  ∃ (gw b1 b2 b3 b4 : Nat) (Ad Al Ali Ar Ari : Option Addr) (cd cl cli cr cri : Nat), p = .pointer (some ⟨gw, 0, none⟩) ∧ Row W gw #[.int .i64 R, .int .i64 C, .slice Ad (R * C) cd, .int .i64 R, .int .i64 R, .slice Al (R * R) cl, .int .i64 R, .int .i64 R, .slice Ali (R * R) cli, .int .i64 C, .int .i64 C, .slice Ar (C * C) cr, .int .i64 C, .int .i64 C, .slice Ari (C * C) cri, .bool false] 132 ∧
    w.heap.size < b1 ∧ b1 ≤ b2 ∧ b2 ≤ b3 ∧ b3 ≤ b4 ∧ b4 ≤ gw ∧ gw < W.heap.size ∧
    Own W (w.heap.size + 1) b1 Ad (R * C) cd zs ∧ Own W b1 b2 Al (R * R) cl (ones R R) ∧ Own W b2 b3 Ali (R * R) cli (ones R R) ∧ Own W b3 b4 Ar (C * C) cr (ones C C) ∧ Own W b4 gw Ari (C * C) cri (ones C C) ∧
    Box3 W w.heap.size (.int .i64 R) (.int .i64 C) (.slice A n c) ∧ Below w.heap.size w W

theorem Opened.mk {w w5 : World} {R C n c b1 b2 b3 b4 : Nat} {A Ad Al Ali Ar Ari : Option Addr} {cd cl cli cr cri : Nat} {zs : List Int} (hn : n = R * C) (i0 : w.heap.size < b1) (i1 : b1 ≤ b2) (i2 : b2 ≤ b3) (i3 : b3 ≤ b4) (i4 : b4 ≤ w5.heap.size)
    (hd : Own w5 (w.heap.size + 1) b1 Ad n cd zs) (hl : Own w5 b1 b2 Al (ones R R).length cl (ones R R)) (hli : Own w5 b2 b3 Ali (ones R R).length cli (ones R R)) (hr : Own w5 b3 b4 Ar (ones C C).length cr (ones C C)) (hri : Own w5 b4 w5.heap.size Ari (ones C C).length cri (ones C C))
    (hx : Box3 w5 w.heap.size (.int .i64 R) (.int .i64 C) (.slice A n c)) (hb : Below w.heap.size w w5) :
    Opened w R C n c A zs (.pointer (some ⟨w5.heap.size, 0, none⟩)) (w5.alloc (Obj.cells #[.int .i64 R, .int .i64 C, .slice Ad n cd, .int .i64 R, .int .i64 R, .slice Al (ones R R).length cl, .int .i64 R, .int .i64 R, .slice Ali (ones R R).length cli, .int .i64 C, .int .i64 C, .slice Ar (ones C C).length cr, .int .i64 C, .int .i64 C, .slice Ari (ones C C).length cri, .bool false] 132)) := by
  rw [ones_len] at hl hli hr hri
  rw [ones_len, ones_len]
  have hw := hb.size
  refine ⟨w5.heap.size, b1, b2, b3, b4, Ad, Al, Ali, Ar, Ari, cd, cl, cli, cr, cri, rfl, ?_, i0, i1, i2, i3, i4, by simp, ?_, hl.al (by omega) (al1 _ _), hli.al (by omega) (al1 _ _), hr.al (by omega) (al1 _ _), hri.al (Nat.le_refl _) (al1 _ _), hx.below (al1 _ _) (by omega), hb.alloc hw _⟩
  · rw [← hn]; exact Row.new _ _ _
  · rw [← hn]; exact hd.al (by omega) (al1 _ _)
theorem Own.one {w : World} {lo hi g n c : Nat} {zs : List Int} (h : Own w lo hi (some ⟨g, 0, none⟩) n c zs) : Own w g (g + 1) (some ⟨g, 0, none⟩) n c zs := by
  refine ⟨⟨h.1.1, ?_⟩, fun a ha => by cases ha; exact Nat.lt_succ_self _⟩
  rcases h.1.2 with h0 | ⟨g', cap, cur, hv, hb, r⟩
  · exact .inl h0
  · refine .inr ⟨g', cap, cur, hv, ?_, r⟩
    injection hv with h1 _ _
    injection h1 with h1
    injection h1 with h1
    omega
theorem Sm.round_again {R C k : Nat} {s t : Sm.St} (hk : k < R) (hkc : k < C) (g : Sm.Good R C s) (hc : Sm.CK R C k s.d) (h : Sm.round R C k s = .again t) : Sm.Good R C t ∧ Sm.CK R C k t.d := by
  cases e : Sm.selAll C s.d k (R - k) with
  | none => rw [Sm.round_all e] at h; cases h
  | some p =>
    cases h1 : Sm.rowsFrom R C k (Sm.place R C k p.1 p.2 s) (R - (k + 1)) with
    | none => rw [Sm.round_bad1 e h1] at h; cases h
    | some t1 =>
      cases h2 : Sm.colsFrom R C k t1 (C - (k + 1)) with
      | none => rw [Sm.round_bad2 e h1 h2] at h; cases h
      | some u =>
        have A := Sm.after_of g hk hkc e h1 h2
        have cu := Sm.ck_of hc g hk hkc e h1 h2
        by_cases hcl : Sm.Clear R C k u.d
        · by_cases ho : ∃ i, Sm.FirstOdd R C k u.d i
          · obtain ⟨i, ho⟩ := ho
            have hr := Sm.round_odd e h1 h2 hcl ho
            cases hv : Sm.rowSub R C k i (-1) u with
            | none => rw [hv] at hr; rw [hr] at h; cases h
            | some v =>
              rw [hv] at hr; rw [hr] at h
              have := ho.1
              cases h
              exact ⟨A.good.rowSub hv, cu.rowSub A.good hv hk ho.2.1 (by omega) (Nat.le_refl k) (by omega)⟩
          · rw [Sm.round_fin e h1 h2 hcl (fun i hi => ho ⟨i, hi⟩)] at h
            cases h
        · rw [Sm.round_next e h1 h2 hcl] at h
          cases h
          exact ⟨A.good, cu⟩
/-- Five lists, each owned between two block numbers. -/
def RedFrom (w : World) (lo hi : Nat) (s : Sm.St) (Al Ali Ad Ar Ari : Option Addr) (cl cli cd cr cri : Nat) : Prop :=
  Own w lo hi Al s.l.length cl s.l ∧ Own w lo hi Ali s.li.length cli s.li ∧ Own w lo hi Ad s.d.length cd s.d ∧ Own w lo hi Ar s.r.length cr s.r ∧ Own w lo hi Ari s.ri.length cri s.ri
theorem RedFrom.ints {w : World} {lo hi : Nat} {s : Sm.St} {Al Ali Ad Ar Ari : Option Addr} {cl cli cd cr cri : Nat} (h : RedFrom w lo hi s Al Ali Ad Ar Ari cl cli cd cr cri) : RedInts w hi s Al Ali Ad Ar Ari :=
  ⟨h.1.ints, h.2.1.ints, h.2.2.1.ints, h.2.2.2.1.ints, h.2.2.2.2.ints⟩
theorem RedFrom.setCells {w : World} {lo hi g : Nat} {s : Sm.St} {Al Ali Ad Ar Ari : Option Addr} {cl cli cd cr cri : Nat} (h : RedFrom w lo hi s Al Ali Ad Ar Ari cl cli cd cr cri) (hg : g < lo) (vs : List Value) (o : Nat) : RedFrom (w.setCells g o vs) lo hi s Al Ali Ad Ar Ari cl cli cd cr cri :=
  ⟨h.1.setCells (.inl hg) vs o, h.2.1.setCells (.inl hg) vs o, h.2.2.1.setCells (.inl hg) vs o, h.2.2.2.1.setCells (.inl hg) vs o, h.2.2.2.2.setCells (.inl hg) vs o⟩
/-- How a work lies in memory: its five lists readable; or its mark. -/
def WorkRead (lo R C gw : Nat) (o : Option Sm.St) (w : World) : Prop :=
  match o with
  | some s => ∃ (Ad Al Ali Ar Ari : Option Addr) (cd cl cli cr cri : Nat), Row w gw #[.int .i64 R, .int .i64 C, .slice Ad s.d.length cd, .int .i64 R, .int .i64 R, .slice Al s.l.length cl, .int .i64 R, .int .i64 R, .slice Ali s.li.length cli, .int .i64 C, .int .i64 C, .slice Ar s.r.length cr, .int .i64 C, .int .i64 C, .slice Ari s.ri.length cri, .bool false] 132 ∧ RedFrom w lo w.heap.size s Al Ali Ad Ar Ari cl cli cd cr cri
  | none => gw < w.heap.size ∧ w.cell? ⟨gw, 15, none⟩ = some (.bool true)
/-- What the reduction answers. -/
def ReduceSays (w : World) (R C : Nat) (o : Option Sm.St) (e : Ending) (w' : World) : Prop :=
  ∃ gw, e = .returned (.pointer (some ⟨gw, 0, none⟩)) ∧ WorkRead w.heap.size R C gw o w' ∧ Below w.heap.size w w'
theorem WorkRead.of_work {L : Lay} {R C gw a0 a3 lo : Nat} {w : World} {s : Sm.St} (h : Work L R C gw w s) (g : Sm.Good R C s) (hp : Pos L gw a0 a3) (hs : a3 ≤ w.heap.size) (hlo : lo ≤ a0) : WorkRead lo R C gw (some s) w := by
  have hbd := hp.bd
  refine ⟨some ⟨L.gd, 0, none⟩, some ⟨L.gl, 0, none⟩, some ⟨L.gli, 0, none⟩, some ⟨L.gr, 0, none⟩, some ⟨L.gri, 0, none⟩, L.cd, L.cl, L.cli, L.cr, L.cri, ?_, ?_, ?_, ?_, ?_, ?_⟩
  · rw [g.nd, g.nl, g.nli, g.nr, g.nri]; exact h.row
  · rw [g.nl]; exact h.five.l.wide (by omega) (by omega)
  · rw [g.nli]; exact h.five.li.wide (by omega) (by omega)
  · rw [g.nd]; exact h.five.d.wide (by omega) (by omega)
  · rw [g.nr]; exact h.five.r.wide (by omega) (by omega)
  · rw [g.nri]; exact h.five.ri.wide (by omega) (by omega)
theorem WorkRead.of_marked {L : Lay} {R C gw lo : Nat} {w : World} (h : Marked L R C gw w) : WorkRead lo R C gw none w := ⟨Row.lt h, (Row.box16 h).2.2.2.2.2.2.2.2.2.2.2.2.2.2.2⟩

set_option maxRecDepth 100000 in
set_option maxHeartbeats 16000000 in
theorem reduce_spec (R C : Nat) (A : Option Addr) (n c : Nat) (zs : List Int) (o : Option Sm.St) (w : World) (h : Ints w w.heap.size A n zs) (hn : n = R * C) (hR : R ≤ 48) (hC : C ≤ 48) (hP : MOk R C zs) (ho : Sm.Outcome R C (min R C) 0 (start R C zs) o) :
    Calls Try.prog 111 #[.agg #[.int .i64 R, .int .i64 C, .slice A n c]] w (ReduceSays w R C o) := by
  have HO := Lib.hid ho
  have G0 := Lib.hid (start_good hP)
  clear ho hP
  have p1 := rc_le hR hC
  have HN := Lib.hid hn
  have hn1 : n ≤ 2304 := by omega
  have H := Lib.hid h
  obtain ⟨i0, hi0, hz0, hz1, hz2⟩ := info_parts info2
  have HI := Lib.hid (And.intro hi0 (And.intro hz0 (And.intro hz1 hz2)))
  have K0 := Lib.hid (Box3.new w 77 (.int .i64 R) (.int .i64 C) (.slice A n c))
  have D0 := Lib.hid (al1 w (Obj.cells #[.int .i64 R, .int .i64 C, .slice A n c] 77))
  clear hn hi0 hz0 hz1 hz2 h
  go_enter Try.func111, Try.ntmps111
  go_upto_region 1 with fail
  obtain ⟨W0, hW0⟩ : ∃ W0, W0 = w.alloc (Obj.cells #[.int .i64 R, .int .i64 C, .slice A n c] 77) := ⟨_, rfl⟩
  have s0 : w.heap.size < W0.heap.size := by rw [hW0]; simp
  have s0' : w.heap.size + 1 = W0.heap.size := by rw [hW0]; simp
  rw [← hW0] at K0 D0
  rw [← hW0]
  clear hW0
  obtain ⟨k0, k1, k2⟩ := K0.out
  go_cut [3] (fun p W => Opened w R C n c A zs p W)
  case first =>
    by_cases n0 : 0 < n
    case pos =>
      obtain ⟨b, off, rfl, hbl, hcl⟩ := H.out.2 n0
      have HNW := Lib.hid (show ∀ j u, (zs.map (Value.int .i64))[j]? = some u → (W0.alloc (Obj.cells #[] 2)).cell? ((⟨b, off, none⟩ : Addr).add j) = some u by
        intro j u hu
        have hj : j < n := by
          have := (List.getElem?_eq_some_iff.1 hu).1
          rw [List.length_map, H.out.1] at this
          exact this
        obtain ⟨b', off', e, _, hc⟩ := (((H.out.below D0.out).more (show w.heap.size ≤ W0.heap.size by omega)).below (al1 W0 (Obj.cells #[] 2))).at_ hj
        cases e
        rw [show (⟨b, off, none⟩ : Addr).add j = ⟨b, off + j, none⟩ from by unfold Addr.add; split <;> simp_all, hc]
        rw [List.getElem?_map] at hu
        have hl : j < zs.length := by rw [H.out.1]; exact hj
        rw [List.getElem?_eq_getElem hl] at hu
        simp at hu
        simp [List.getElem?_eq_getElem hl, hu])
      have HNL := Lib.hid (show (zs.map (Value.int .i64)).length = n * 1 by simp [H.out.1])
      have HOW := Lib.hid (show (W0.alloc (Obj.cells #[] 2)).ownsRow W0.heap.size 2 1 (.slice (some ⟨W0.heap.size, 0, none⟩) 0 0) 0 [] by
        have := World.ownsRow_lit (base := W0.heap.size) (e := 2) (size := 1) W0 #[] 0 (by simp) (by unfold maxLen; omega) (by simp)
        simpa using this)
      have AP := Lib.hid (show ∀ (g cap : Nat) (w' : World), w'.ownsRow W0.heap.size 2 1 (.slice (some ⟨g, 0, none⟩) (0 + n) cap) (0 + n) ([] ++ zs.map (Value.int .i64)) → ((W0.alloc (Obj.cells #[] 2)).drew).grownBy w' (Value.slice (some ⟨W0.heap.size, 0, none⟩) 0 0).ownBlock → ((Value.slice (some ⟨W0.heap.size, 0, none⟩) 0 0).ownBlock = some g ∨ g = W0.heap.size + 1) → g < w'.heap.size → Own w' W0.heap.size w'.heap.size (some ⟨g, 0, none⟩) n cap zs ∧ Below W0.heap.size W0 w' by
        intro g cap w' ho hg ht hl
        refine ⟨⟨by simpa using ho, fun a ha => by cases ha; exact hl⟩, ?_⟩
        exact ((al1 W0 (Obj.cells #[] 2)).drew).grown hg (by simp [World.drew]) (by intro k hk; have hk' : W0.heap.size = k := (by simpa [Value.ownBlock] using hk); omega))
      clear hbl hcl
      go_region_held3 (fun W => W.cell? ⟨w.heap.size, 0, none⟩ = some (.int .i64 R) ∧ W.cell? ⟨w.heap.size, 1, none⟩ = some (.int .i64 C) ∧ W.cell? ⟨w.heap.size, 2, none⟩ = some (.slice (some ⟨b, off, none⟩) n c)) (go_keep) (first
        | (refine step_append_lies _ (by rfl) _ _ _ (by rfl) W0.heap.size 2 i0 _ 1 8 Try.underlying24 HI.out.1 HI.out.2.1 HI.out.2.2.1 HI.out.2.2.2 rfl (by decide) (.slice (some ⟨W0.heap.size, 0, none⟩) 0 0) 0 [] (by rfl) (by exact HOW.out) ⟨b, off, none⟩ n c (zs.map (Value.int .i64)) (by rfl) HNL.out (by exact HNW.out) (by simp [Value.oneCell']) n0 (by unfold maxLen; omega) (by omega) (by simp) (W0.heap.size + 1) (by simp) ?_; intro g cap w1 hown1 hgrow hat hlt1; have O1 := Lib.hid hown1; have G1 := Lib.hid hgrow; have T1 := Lib.hid hat; have L1 := Lib.hid hlt1; have A1 := Lib.hid (AP.out g cap w1 hown1 hgrow hat hlt1); have OD := Lib.hid A1.out.1; have hb' := A1.out.2; have KX := Lib.hid (K0.out.below hb' (by omega)); have DD := Lib.hid (D0.out.trans (hb'.mono (by omega))); have z1 : W0.heap.size ≤ w1.heap.size := hb'.size; obtain ⟨a0, a1, a2⟩ := KX.out; clear hown1 hgrow hat hlt1 hb' A1 O1 G1 T1 L1)
        | (go_at_call 120; (have q := OR; (with_reducible refine (one_spec C _ hC).mono ?_); rintro e w5 ⟨Ari, cri, rfl, hown, hb'⟩; have z5 : w4.heap.size ≤ w5.heap.size := hb'.size; have OD := Lib.hid (OD.out.below hb' (by omega)); have OL := Lib.hid (OL.out.below hb' (by omega)); have OLI := Lib.hid (OLI.out.below hb' (by omega)); have OR := Lib.hid (OR.out.below hb' (by omega)); have ORI := Lib.hid hown; have KX := Lib.hid (KX.out.below hb' (by omega)); have DD := Lib.hid (DD.out.trans (hb'.mono (by omega))); obtain ⟨e0, e1, e2⟩ := KX.out; clear hown hb'))
        | (go_at_call 120; (have q := OLI; (with_reducible refine (one_spec C _ hC).mono ?_); rintro e w4 ⟨Ar, cr, rfl, hown, hb'⟩; have z4 : w3.heap.size ≤ w4.heap.size := hb'.size; have OD := Lib.hid (OD.out.below hb' (by omega)); have OL := Lib.hid (OL.out.below hb' (by omega)); have OLI := Lib.hid (OLI.out.below hb' (by omega)); have OR := Lib.hid hown; have KX := Lib.hid (KX.out.below hb' (by omega)); have DD := Lib.hid (DD.out.trans (hb'.mono (by omega))); obtain ⟨d0, d1, d2⟩ := KX.out; clear hown hb'))
        | (go_at_call 120; (have q := OL; (with_reducible refine (one_spec R _ hR).mono ?_); rintro e w3 ⟨Ali, cli, rfl, hown, hb'⟩; have z3 : w2.heap.size ≤ w3.heap.size := hb'.size; have OD := Lib.hid (OD.out.below hb' (by omega)); have OL := Lib.hid (OL.out.below hb' (by omega)); have OLI := Lib.hid hown; have KX := Lib.hid (KX.out.below hb' (by omega)); have DD := Lib.hid (DD.out.trans (hb'.mono (by omega))); obtain ⟨c0, c1, c2⟩ := KX.out; clear hown hb'))
        | (go_at_call 120; ((with_reducible refine (one_spec R _ hR).mono ?_); rintro e w2 ⟨Al, cl, rfl, hown, hb'⟩; have z2 : w1.heap.size ≤ w2.heap.size := hb'.size; have OD := Lib.hid (OD.out.below hb' (by omega)); have OL := Lib.hid hown; have KX := Lib.hid (KX.out.below hb' (by omega)); have DD := Lib.hid (DD.out.trans (hb'.mono (by omega))); obtain ⟨b0, b1, b2⟩ := KX.out; clear hown hb')))
      all_goals
        go_wp2_with fail
        go_meet
        exact Opened.mk HN.out (by omega) (by omega) (by omega) (by omega) (by omega) (OD.out.wide (by omega) (Nat.le_refl _)) OL.out OLI.out OR.out ORI.out KX.out DD.out

    case neg =>
      obtain rfl : n = 0 := by omega
      have hzs : zs = [] := by have := H.out.1; exact List.eq_nil_of_length_eq_zero this
      have AZ := Lib.hid (show Own ((W0.alloc (Obj.cells #[] 2)).drew) W0.heap.size ((W0.alloc (Obj.cells #[] 2)).drew).heap.size (some ⟨W0.heap.size, 0, none⟩) 0 0 zs by
        rw [hzs]
        have := World.ownsRow_lit (base := W0.heap.size) (e := 2) (size := 1) W0 #[] 0 (by simp) (by unfold maxLen; omega) (by simp)
        have this2 : (W0.alloc (Obj.cells #[] 2)).ownsRow W0.heap.size 2 1 (.slice (some ⟨W0.heap.size, 0, none⟩) 0 0) 0 ([] : List Value) := by simpa using this
        exact ⟨this2, fun a ha => by cases ha; simp [World.drew]⟩)
      clear hzs n0
      go_region_held3 (fun W => W.cell? ⟨w.heap.size, 0, none⟩ = some (.int .i64 R) ∧ W.cell? ⟨w.heap.size, 1, none⟩ = some (.int .i64 C) ∧ W.cell? ⟨w.heap.size, 2, none⟩ = some (.slice A 0 c)) (go_keep) (first
        | (refine step_append_none (by rfl) _ _ _ (by rfl) 2 i0 Try.underlying24 HI.out.1 (some ⟨W0.heap.size, 0, none⟩) 0 0 (Nat.le_refl _) (by rfl) A c (by rfl) ?_; obtain ⟨w1, hw1⟩ : ∃ w1, w1 = (W0.alloc (Obj.cells #[] 2)).drew := ⟨_, rfl⟩; have hb' : Below W0.heap.size W0 w1 := (by rw [hw1]; exact (al1 W0 (Obj.cells #[] 2)).drew); have OD := Lib.hid (show Own w1 W0.heap.size w1.heap.size (some ⟨W0.heap.size, 0, none⟩) 0 0 zs from (by rw [hw1]; exact AZ.out)); rw [← hw1]; have KX := Lib.hid (K0.out.below hb' (by omega)); have DD := Lib.hid (D0.out.trans (hb'.mono (by omega))); have z1 : W0.heap.size ≤ w1.heap.size := hb'.size; obtain ⟨a0, a1, a2⟩ := KX.out; clear hb' hw1)
        | (go_at_call 120; (have q := OR; (with_reducible refine (one_spec C _ hC).mono ?_); rintro e w5 ⟨Ari, cri, rfl, hown, hb'⟩; have z5 : w4.heap.size ≤ w5.heap.size := hb'.size; have OD := Lib.hid (OD.out.below hb' (by omega)); have OL := Lib.hid (OL.out.below hb' (by omega)); have OLI := Lib.hid (OLI.out.below hb' (by omega)); have OR := Lib.hid (OR.out.below hb' (by omega)); have ORI := Lib.hid hown; have KX := Lib.hid (KX.out.below hb' (by omega)); have DD := Lib.hid (DD.out.trans (hb'.mono (by omega))); obtain ⟨e0, e1, e2⟩ := KX.out; clear hown hb'))
        | (go_at_call 120; (have q := OLI; (with_reducible refine (one_spec C _ hC).mono ?_); rintro e w4 ⟨Ar, cr, rfl, hown, hb'⟩; have z4 : w3.heap.size ≤ w4.heap.size := hb'.size; have OD := Lib.hid (OD.out.below hb' (by omega)); have OL := Lib.hid (OL.out.below hb' (by omega)); have OLI := Lib.hid (OLI.out.below hb' (by omega)); have OR := Lib.hid hown; have KX := Lib.hid (KX.out.below hb' (by omega)); have DD := Lib.hid (DD.out.trans (hb'.mono (by omega))); obtain ⟨d0, d1, d2⟩ := KX.out; clear hown hb'))
        | (go_at_call 120; (have q := OL; (with_reducible refine (one_spec R _ hR).mono ?_); rintro e w3 ⟨Ali, cli, rfl, hown, hb'⟩; have z3 : w2.heap.size ≤ w3.heap.size := hb'.size; have OD := Lib.hid (OD.out.below hb' (by omega)); have OL := Lib.hid (OL.out.below hb' (by omega)); have OLI := Lib.hid hown; have KX := Lib.hid (KX.out.below hb' (by omega)); have DD := Lib.hid (DD.out.trans (hb'.mono (by omega))); obtain ⟨c0, c1, c2⟩ := KX.out; clear hown hb'))
        | (go_at_call 120; ((with_reducible refine (one_spec R _ hR).mono ?_); rintro e w2 ⟨Al, cl, rfl, hown, hb'⟩; have z2 : w1.heap.size ≤ w2.heap.size := hb'.size; have OD := Lib.hid (OD.out.below hb' (by omega)); have OL := Lib.hid hown; have KX := Lib.hid (KX.out.below hb' (by omega)); have DD := Lib.hid (DD.out.trans (hb'.mono (by omega))); obtain ⟨b0, b1, b2⟩ := KX.out; clear hown hb')))
      all_goals
        go_wp2_with fail
        go_meet
        exact Opened.mk HN.out (by omega) (by omega) (by omega) (by omega) (by omega) (OD.out.wide (by omega) (Nat.le_refl _)) OL.out OLI.out OR.out ORI.out KX.out DD.out

  obtain ⟨gw, b1, b2, b3, b4, Ad, Al, Ali, Ar, Ari, cd, cl, cli, cr, cri, rfl, hrow, i0, i1, i2, i3, i4, i5, hd, hl, hli, hr, hri, hx, hb⟩ := hcut
  obtain ⟨V, rfl⟩ : ∃ W : World, W = wc := ⟨_, rfl⟩
  have XR := Lib.hid hrow
  have OD := Lib.hid hd
  have OL := Lib.hid hl
  have OLI := Lib.hid hli
  have OR := Lib.hid hr
  have ORI := Lib.hid hri
  have KX := Lib.hid hx
  have BV := Lib.hid hb
  have hwV : w.heap.size < V.heap.size := by omega
  clear hrow hd hl hli hr hri hx hb k0 k1 k2 K0 D0 s0 s0' H HI
  rcases Nat.lt_or_ge C R with hcr | hcr
  · have hme : min R C = C := by omega
    rw [hme] at HO
    clear hme
    have tmin : (if (C : Int) < (R : Int) then (C : Int) else (R : Int)) = (C : Int) := by split <;> omega
    by_cases hm0 : C = 0
    case pos =>
      have HM0 := Lib.hid hm0
      have hs : o = some (start R C zs) := by have := HO.out; rw [HM0.out] at this; exact (by rw [HM0.out]; exact this)
      have HS := Lib.hid hs
      have t0 : ¬ (0 : Int) < (C : Int) := by omega
      clear hs hm0
      obtain ⟨k0, k1, k2⟩ := KX.out
      go_wp2
      refine wp_loop_rounds 1 ?_
      rw [rounds_succ]
      go_wp2
      go_ret
      rw [HS.out]
      refine ⟨gw, rfl, ⟨Ad, Al, Ali, Ar, Ari, cd, cl, cli, cr, cri, ?_, ?_, ?_, ?_, ?_, ?_⟩, BV.out⟩
      · rw [G0.out.nd, G0.out.nl, G0.out.nli, G0.out.nr, G0.out.nri]; exact XR.out
      · rw [G0.out.nl]; exact OL.out.wide (by omega) (by omega)
      · rw [G0.out.nli]; exact OLI.out.wide (by omega) (by omega)
      · rw [G0.out.nd]; exact OD.out.wide (by omega) (by omega)
      · rw [G0.out.nr]; exact OR.out.wide (by omega) (by omega)
      · rw [G0.out.nri]; exact ORI.out.wide (by omega) (by omega)
    have hM : 0 < C := by omega
    have hR0 : 0 < R := by omega
    have hC0 : 0 < C := by omega
    clear hm0
    obtain ⟨gd, _, ed, jd0, jd1, _⟩ := OD.out.at_ (Nat.mul_pos hR0 hC0)
    subst ed
    obtain ⟨gl, _, el, jl0, jl1, _⟩ := OL.out.at_ (Nat.mul_pos hR0 hR0)
    subst el
    obtain ⟨gli, _, eli, jli0, jli1, _⟩ := OLI.out.at_ (Nat.mul_pos hR0 hR0)
    subst eli
    obtain ⟨gr, _, er, jr0, jr1, _⟩ := OR.out.at_ (Nat.mul_pos hC0 hC0)
    subst er
    obtain ⟨gri, _, eri, jri0, jri1, _⟩ := ORI.out.at_ (Nat.mul_pos hC0 hC0)
    subst eri
    obtain ⟨L, hL⟩ : ∃ L : Lay, L = ⟨0, 0, 0, 0, 0, 0, gd, gl, gli, gr, gri, cd, cl, cli, cr, cri⟩ := ⟨_, rfl⟩
    have W0' : Work L R C gw V (start R C zs) := by rw [hL]; exact ⟨⟨OD.out.one, OL.out.one, OLI.out.one, OR.out.one, ORI.out.one⟩, XR.out⟩
    have P0 : Pos L gw (w.heap.size + 1) V.heap.size := by
      rw [hL]
      constructor <;> dsimp only <;> omega
    have HW := Lib.hid W0'
    have HPS := Lib.hid P0
    obtain ⟨a0, ha0⟩ : ∃ a0, w.heap.size + 1 = a0 := ⟨_, rfl⟩
    rw [ha0] at HPS
    clear W0' P0 XR OD OL OLI OR ORI hL jd0 jd1 jl0 jl1 jli0 jli1 jr0 jr1 jri0 jri1 i0 i1 i2 i3 i4 i5
    obtain ⟨k0, k1, k2⟩ := KX.out
    go_wp2
    clear k0 k1 k2
    go_loopw [4, 5, 6] (fun x _ _ wr => ∃ (k : Nat) (s : Sm.St), k ≤ C ∧ x = .int .i64 k ∧ Work L R C gw wr s ∧ Sm.Good R C s ∧ Sm.CK R C k s.d ∧ Kept a0 V.heap.size V wr ∧ Sm.Outcome R C (C - k) k s o) (fun x _ _ _ => C - (intOf x).toNat)
    case atStart => exact ⟨0, _, Nat.zero_le _, rfl, HW.out, G0.out, start_ck _ _ _, Kept.refl _ _ _, HO.out⟩
    case round =>
      obtain ⟨k, s, hk, rfl, hw, hg, hck, hkept, hout⟩ := hrel
      have W1 := Lib.hid hw
      have G1 := Lib.hid hg
      have C1 := Lib.hid hck
      have K1 := Lib.hid hkept
      have O1 := Lib.hid hout
      have z1 : V.heap.size ≤ wr.heap.size := hkept.size
      have X1 := Lib.hid (KX.out.kept hkept (by omega) (by omega))
      clear hw hg hck hkept hout
      obtain ⟨wo, rfl⟩ : ∃ wo : World, wo = wr := ⟨_, rfl⟩
      obtain ⟨k0, k1, k2⟩ := X1.out
      by_cases hlt : k < C
      case neg =>
        obtain rfl : C = k := by omega
        have hs : o = some s := by have := O1.out; rw [Nat.sub_self] at this; exact this
        have HS := Lib.hid hs
        clear hs
        go_wp2
        go_ret
        rw [HS.out]
        exact ⟨gw, rfl, WorkRead.of_work W1.out G1.out HPS.out z1 (by omega), BV.out.trans (K1.out.below (by omega) (by omega))⟩
      obtain ⟨d, hd⟩ : ∃ d, C - k = d + 1 := ⟨C - k - 1, by omega⟩
      have hout := O1.out
      rw [hd] at hout
      obtain ⟨nr, r, hruns, hres⟩ := hout
      have HRS := Lib.hid hres
      have hd2 : C - (k + 1) = d := by omega
      have HD2 := Lib.hid hd2
      have RR := Lib.hid (Sm.runs_res (show k < R by omega) (show k < C by omega) nr s r G1.out C1.out hruns)
      have RU := Lib.hid hruns
      clear hd hres hd2 hruns
      go_wp2
      clear k0 k1 k2
      go_loopg [5, 6] nr (fun g dn al wr => Kept a0 V.heap.size V wr ∧ ((∃ s' : Sm.St, dn = .bool false ∧ al = .bool false ∧ Work L R C gw wr s' ∧ Sm.Good R C s' ∧ Sm.CK R C k s'.d ∧ Sm.Runs R C k g s' r) ∨ (r = .bad ∧ dn = .bool false ∧ al = .bool false ∧ Marked L R C gw wr) ∨ (∃ t, r = .fin t ∧ dn = .bool true ∧ al = .bool false ∧ Work L R C gw wr t) ∨ (∃ t, r = .all t ∧ dn = .bool true ∧ al = .bool true ∧ Work L R C gw wr t)))
      case atStart => exact ⟨K1.out, .inl ⟨s, rfl, rfl, W1.out, G1.out, C1.out, RU.out⟩⟩
      case round =>
        obtain ⟨hkept, hor⟩ := hrel
        have K2 := Lib.hid hkept
        have z2 : V.heap.size ≤ wr.heap.size := hkept.size
        clear hkept
        rcases hor with ⟨s', rfl, rfl, hw, hg, hck, hruns⟩ | ⟨hr, rfl, rfl, hmk⟩ | ⟨t, hr, rfl, rfl, hwt⟩ | ⟨t, hr, rfl, rfl, hwt⟩
        case inr.inl =>
          have MK := Lib.hid hmk
          have HRB := Lib.hid hr
          have hn : o = none := by have := HRS.out; rw [hr] at this; exact this
          have HNO := Lib.hid hn
          clear hmk hr hn
          obtain ⟨y0, y1, y2, y3, y4, y5, y6, y7, y8, y9, y10, y11, y12, y13, y14, y15⟩ := Row.box16 MK.out
          go_wp2
          go_ret
          rw [HNO.out]
          exact ⟨gw, rfl, WorkRead.of_marked MK.out, BV.out.trans (K2.out.below (by omega) (by omega))⟩
        case inr.inr.inl =>
          have W2 := Lib.hid hwt
          have HRF := Lib.hid hr
          have hfin : Sm.Outcome R C d (k + 1) t o := by have := HRS.out; rw [hr] at this; exact this
          have HFN := Lib.hid hfin
          have hgc : Sm.Good R C t ∧ Sm.CK R C (k + 1) t.d := by
            rcases RR.out with h1 | ⟨u, h1, h2, h3⟩ | ⟨u, h1, _⟩
            · rw [hr] at h1; cases h1
            · rw [hr] at h1; cases h1; exact ⟨h2, h3⟩
            · rw [hr] at h1; cases h1
          have HGC := Lib.hid hgc
          clear hwt hr hfin hgc
          obtain ⟨y0, y1, y2, y3, y4, y5, y6, y7, y8, y9, y10, y11, y12, y13, y14, y15⟩ := W2.out.row.box16
          obtain ⟨k0, k1, k2⟩ := (KX.out.kept K2.out (by omega) (by omega))
          go_wp2
          go_roundw
          case rel => exact ⟨k + 1, t, by omega, by go_num, W2.out, HGC.out.1, HGC.out.2, K2.out, by rw [HD2.out]; exact HFN.out⟩
          case measure => simp [intOf]; omega
        case inr.inr.inr =>
          have W2 := Lib.hid hwt
          have hfin : o = some t := by have := HRS.out; rw [hr] at this; exact this
          have HFN := Lib.hid hfin
          have hgc : Sm.Good R C t := by
            rcases RR.out with h1 | ⟨u, h1, h2, h3⟩ | ⟨u, h1, h2, _⟩
            · rw [hr] at h1; cases h1
            · rw [hr] at h1; cases h1
            · rw [hr] at h1; cases h1; exact h2
          have HGC := Lib.hid hgc
          clear hwt hr hfin hgc
          obtain ⟨y0, y1, y2, y3, y4, y5, y6, y7, y8, y9, y10, y11, y12, y13, y14, y15⟩ := W2.out.row.box16
          go_wp2
          go_ret
          rw [HFN.out]
          exact ⟨gw, rfl, WorkRead.of_work W2.out HGC.out HPS.out z2 (by omega), BV.out.trans (K2.out.below (by omega) (by omega))⟩
        obtain ⟨m, hm⟩ : ∃ m, gk = m + 1 := by
          cases gk with
          | zero => exact hruns.elim
          | succ m => exact ⟨m, rfl⟩
        subst hm
        rw [Sm.Runs] at hruns
        have W2 := Lib.hid hw
        have G2 := Lib.hid hg
        have C2 := Lib.hid hck
        have HRU := Lib.hid hruns
        clear hw hg hck hruns
        obtain ⟨y0, y1, y2, y3, y4, y5, y6, y7, y8, y9, y10, y11, y12, y13, y14, y15⟩ := W2.out.row.box16
        go_wp2_with fail
        refine (round_work L R C gw a0 V.heap.size k s' _ hR hC (by omega) (by omega) HPS.out z2 W2.out G2.out C2.out).mono ?_
        rintro e w4 ⟨hk4, h4⟩
        have K4 := Lib.hid (K2.out.trans hk4)
        clear hk4 y0 y1 y2 y3 y4 y5 y6 y7 y8 y9 y10 y11 y12 y13 y14 y15
        cases hrd : Sm.round R C k s' with
        | bad =>
          rw [hrd] at h4
          obtain ⟨rfl, hmk⟩ := h4
          have hro := HRU.out
          rw [hrd] at hro
          have HRO := Lib.hid hro
          have MK := Lib.hid hmk
          clear hro hmk hrd
          go_wp2
          go_roundg m
          case measure => omega
          case rel => exact ⟨K4.out, .inr (.inl ⟨HRO.out, rfl, rfl, MK.out⟩)⟩
        | fin t =>
          rw [hrd] at h4
          obtain ⟨rfl, hwt⟩ := h4
          have hro := HRU.out
          rw [hrd] at hro
          have HRO := Lib.hid hro
          have WT := Lib.hid hwt
          clear hro hwt hrd
          go_wp2
          go_roundg m
          case measure => omega
          case rel => exact ⟨K4.out, .inr (.inr (.inl ⟨t, HRO.out, rfl, rfl, WT.out⟩))⟩
        | all t =>
          rw [hrd] at h4
          obtain ⟨rfl, hwt⟩ := h4
          have hro := HRU.out
          rw [hrd] at hro
          have HRO := Lib.hid hro
          have WT := Lib.hid hwt
          clear hro hwt hrd
          go_wp2
          go_roundg m
          case measure => omega
          case rel => exact ⟨K4.out, .inr (.inr (.inr ⟨t, HRO.out, rfl, rfl, WT.out⟩))⟩
        | again t =>
          rw [hrd] at h4
          obtain ⟨rfl, hwt⟩ := h4
          have hro := HRU.out
          rw [hrd] at hro
          have HRO := Lib.hid hro
          have HGC := Lib.hid (Sm.round_again (by omega) (by omega) G2.out C2.out hrd)
          have WT := Lib.hid hwt
          clear hro hwt hrd
          go_wp2
          go_roundg m
          case measure => omega
          case rel => exact ⟨K4.out, .inl ⟨t, rfl, rfl, WT.out, HGC.out.1, HGC.out.2, HRO.out⟩⟩
  · have hme : min R C = R := by omega
    rw [hme] at HO
    clear hme
    have tmin : (if (C : Int) < (R : Int) then (C : Int) else (R : Int)) = (R : Int) := by split <;> omega
    by_cases hm0 : R = 0
    case pos =>
      have HM0 := Lib.hid hm0
      have hs : o = some (start R C zs) := by have := HO.out; rw [HM0.out] at this; exact (by rw [HM0.out]; exact this)
      have HS := Lib.hid hs
      have t0 : ¬ (0 : Int) < (R : Int) := by omega
      clear hs hm0
      obtain ⟨k0, k1, k2⟩ := KX.out
      go_wp2
      refine wp_loop_rounds 1 ?_
      rw [rounds_succ]
      go_wp2
      go_ret
      rw [HS.out]
      refine ⟨gw, rfl, ⟨Ad, Al, Ali, Ar, Ari, cd, cl, cli, cr, cri, ?_, ?_, ?_, ?_, ?_, ?_⟩, BV.out⟩
      · rw [G0.out.nd, G0.out.nl, G0.out.nli, G0.out.nr, G0.out.nri]; exact XR.out
      · rw [G0.out.nl]; exact OL.out.wide (by omega) (by omega)
      · rw [G0.out.nli]; exact OLI.out.wide (by omega) (by omega)
      · rw [G0.out.nd]; exact OD.out.wide (by omega) (by omega)
      · rw [G0.out.nr]; exact OR.out.wide (by omega) (by omega)
      · rw [G0.out.nri]; exact ORI.out.wide (by omega) (by omega)
    have hM : 0 < R := by omega
    have hR0 : 0 < R := by omega
    have hC0 : 0 < C := by omega
    clear hm0
    obtain ⟨gd, _, ed, jd0, jd1, _⟩ := OD.out.at_ (Nat.mul_pos hR0 hC0)
    subst ed
    obtain ⟨gl, _, el, jl0, jl1, _⟩ := OL.out.at_ (Nat.mul_pos hR0 hR0)
    subst el
    obtain ⟨gli, _, eli, jli0, jli1, _⟩ := OLI.out.at_ (Nat.mul_pos hR0 hR0)
    subst eli
    obtain ⟨gr, _, er, jr0, jr1, _⟩ := OR.out.at_ (Nat.mul_pos hC0 hC0)
    subst er
    obtain ⟨gri, _, eri, jri0, jri1, _⟩ := ORI.out.at_ (Nat.mul_pos hC0 hC0)
    subst eri
    obtain ⟨L, hL⟩ : ∃ L : Lay, L = ⟨0, 0, 0, 0, 0, 0, gd, gl, gli, gr, gri, cd, cl, cli, cr, cri⟩ := ⟨_, rfl⟩
    have W0' : Work L R C gw V (start R C zs) := by rw [hL]; exact ⟨⟨OD.out.one, OL.out.one, OLI.out.one, OR.out.one, ORI.out.one⟩, XR.out⟩
    have P0 : Pos L gw (w.heap.size + 1) V.heap.size := by
      rw [hL]
      constructor <;> dsimp only <;> omega
    have HW := Lib.hid W0'
    have HPS := Lib.hid P0
    obtain ⟨a0, ha0⟩ : ∃ a0, w.heap.size + 1 = a0 := ⟨_, rfl⟩
    rw [ha0] at HPS
    clear W0' P0 XR OD OL OLI OR ORI hL jd0 jd1 jl0 jl1 jli0 jli1 jr0 jr1 jri0 jri1 i0 i1 i2 i3 i4 i5
    obtain ⟨k0, k1, k2⟩ := KX.out
    go_wp2
    clear k0 k1 k2
    go_loopw [4, 5, 6] (fun x _ _ wr => ∃ (k : Nat) (s : Sm.St), k ≤ R ∧ x = .int .i64 k ∧ Work L R C gw wr s ∧ Sm.Good R C s ∧ Sm.CK R C k s.d ∧ Kept a0 V.heap.size V wr ∧ Sm.Outcome R C (R - k) k s o) (fun x _ _ _ => R - (intOf x).toNat)
    case atStart => exact ⟨0, _, Nat.zero_le _, rfl, HW.out, G0.out, start_ck _ _ _, Kept.refl _ _ _, HO.out⟩
    case round =>
      obtain ⟨k, s, hk, rfl, hw, hg, hck, hkept, hout⟩ := hrel
      have W1 := Lib.hid hw
      have G1 := Lib.hid hg
      have C1 := Lib.hid hck
      have K1 := Lib.hid hkept
      have O1 := Lib.hid hout
      have z1 : V.heap.size ≤ wr.heap.size := hkept.size
      have X1 := Lib.hid (KX.out.kept hkept (by omega) (by omega))
      clear hw hg hck hkept hout
      obtain ⟨wo, rfl⟩ : ∃ wo : World, wo = wr := ⟨_, rfl⟩
      obtain ⟨k0, k1, k2⟩ := X1.out
      by_cases hlt : k < R
      case neg =>
        obtain rfl : R = k := by omega
        have hs : o = some s := by have := O1.out; rw [Nat.sub_self] at this; exact this
        have HS := Lib.hid hs
        clear hs
        go_wp2
        go_ret
        rw [HS.out]
        exact ⟨gw, rfl, WorkRead.of_work W1.out G1.out HPS.out z1 (by omega), BV.out.trans (K1.out.below (by omega) (by omega))⟩
      obtain ⟨d, hd⟩ : ∃ d, R - k = d + 1 := ⟨R - k - 1, by omega⟩
      have hout := O1.out
      rw [hd] at hout
      obtain ⟨nr, r, hruns, hres⟩ := hout
      have HRS := Lib.hid hres
      have hd2 : R - (k + 1) = d := by omega
      have HD2 := Lib.hid hd2
      have RR := Lib.hid (Sm.runs_res (show k < R by omega) (show k < C by omega) nr s r G1.out C1.out hruns)
      have RU := Lib.hid hruns
      clear hd hres hd2 hruns
      go_wp2
      clear k0 k1 k2
      go_loopg [5, 6] nr (fun g dn al wr => Kept a0 V.heap.size V wr ∧ ((∃ s' : Sm.St, dn = .bool false ∧ al = .bool false ∧ Work L R C gw wr s' ∧ Sm.Good R C s' ∧ Sm.CK R C k s'.d ∧ Sm.Runs R C k g s' r) ∨ (r = .bad ∧ dn = .bool false ∧ al = .bool false ∧ Marked L R C gw wr) ∨ (∃ t, r = .fin t ∧ dn = .bool true ∧ al = .bool false ∧ Work L R C gw wr t) ∨ (∃ t, r = .all t ∧ dn = .bool true ∧ al = .bool true ∧ Work L R C gw wr t)))
      case atStart => exact ⟨K1.out, .inl ⟨s, rfl, rfl, W1.out, G1.out, C1.out, RU.out⟩⟩
      case round =>
        obtain ⟨hkept, hor⟩ := hrel
        have K2 := Lib.hid hkept
        have z2 : V.heap.size ≤ wr.heap.size := hkept.size
        clear hkept
        rcases hor with ⟨s', rfl, rfl, hw, hg, hck, hruns⟩ | ⟨hr, rfl, rfl, hmk⟩ | ⟨t, hr, rfl, rfl, hwt⟩ | ⟨t, hr, rfl, rfl, hwt⟩
        case inr.inl =>
          have MK := Lib.hid hmk
          have HRB := Lib.hid hr
          have hn : o = none := by have := HRS.out; rw [hr] at this; exact this
          have HNO := Lib.hid hn
          clear hmk hr hn
          obtain ⟨y0, y1, y2, y3, y4, y5, y6, y7, y8, y9, y10, y11, y12, y13, y14, y15⟩ := Row.box16 MK.out
          go_wp2
          go_ret
          rw [HNO.out]
          exact ⟨gw, rfl, WorkRead.of_marked MK.out, BV.out.trans (K2.out.below (by omega) (by omega))⟩
        case inr.inr.inl =>
          have W2 := Lib.hid hwt
          have HRF := Lib.hid hr
          have hfin : Sm.Outcome R C d (k + 1) t o := by have := HRS.out; rw [hr] at this; exact this
          have HFN := Lib.hid hfin
          have hgc : Sm.Good R C t ∧ Sm.CK R C (k + 1) t.d := by
            rcases RR.out with h1 | ⟨u, h1, h2, h3⟩ | ⟨u, h1, _⟩
            · rw [hr] at h1; cases h1
            · rw [hr] at h1; cases h1; exact ⟨h2, h3⟩
            · rw [hr] at h1; cases h1
          have HGC := Lib.hid hgc
          clear hwt hr hfin hgc
          obtain ⟨y0, y1, y2, y3, y4, y5, y6, y7, y8, y9, y10, y11, y12, y13, y14, y15⟩ := W2.out.row.box16
          obtain ⟨k0, k1, k2⟩ := (KX.out.kept K2.out (by omega) (by omega))
          go_wp2
          go_roundw
          case rel => exact ⟨k + 1, t, by omega, by go_num, W2.out, HGC.out.1, HGC.out.2, K2.out, by rw [HD2.out]; exact HFN.out⟩
          case measure => simp [intOf]; omega
        case inr.inr.inr =>
          have W2 := Lib.hid hwt
          have hfin : o = some t := by have := HRS.out; rw [hr] at this; exact this
          have HFN := Lib.hid hfin
          have hgc : Sm.Good R C t := by
            rcases RR.out with h1 | ⟨u, h1, h2, h3⟩ | ⟨u, h1, h2, _⟩
            · rw [hr] at h1; cases h1
            · rw [hr] at h1; cases h1
            · rw [hr] at h1; cases h1; exact h2
          have HGC := Lib.hid hgc
          clear hwt hr hfin hgc
          obtain ⟨y0, y1, y2, y3, y4, y5, y6, y7, y8, y9, y10, y11, y12, y13, y14, y15⟩ := W2.out.row.box16
          go_wp2
          go_ret
          rw [HFN.out]
          exact ⟨gw, rfl, WorkRead.of_work W2.out HGC.out HPS.out z2 (by omega), BV.out.trans (K2.out.below (by omega) (by omega))⟩
        obtain ⟨m, hm⟩ : ∃ m, gk = m + 1 := by
          cases gk with
          | zero => exact hruns.elim
          | succ m => exact ⟨m, rfl⟩
        subst hm
        rw [Sm.Runs] at hruns
        have W2 := Lib.hid hw
        have G2 := Lib.hid hg
        have C2 := Lib.hid hck
        have HRU := Lib.hid hruns
        clear hw hg hck hruns
        obtain ⟨y0, y1, y2, y3, y4, y5, y6, y7, y8, y9, y10, y11, y12, y13, y14, y15⟩ := W2.out.row.box16
        go_wp2_with fail
        refine (round_work L R C gw a0 V.heap.size k s' _ hR hC (by omega) (by omega) HPS.out z2 W2.out G2.out C2.out).mono ?_
        rintro e w4 ⟨hk4, h4⟩
        have K4 := Lib.hid (K2.out.trans hk4)
        clear hk4 y0 y1 y2 y3 y4 y5 y6 y7 y8 y9 y10 y11 y12 y13 y14 y15
        cases hrd : Sm.round R C k s' with
        | bad =>
          rw [hrd] at h4
          obtain ⟨rfl, hmk⟩ := h4
          have hro := HRU.out
          rw [hrd] at hro
          have HRO := Lib.hid hro
          have MK := Lib.hid hmk
          clear hro hmk hrd
          go_wp2
          go_roundg m
          case measure => omega
          case rel => exact ⟨K4.out, .inr (.inl ⟨HRO.out, rfl, rfl, MK.out⟩)⟩
        | fin t =>
          rw [hrd] at h4
          obtain ⟨rfl, hwt⟩ := h4
          have hro := HRU.out
          rw [hrd] at hro
          have HRO := Lib.hid hro
          have WT := Lib.hid hwt
          clear hro hwt hrd
          go_wp2
          go_roundg m
          case measure => omega
          case rel => exact ⟨K4.out, .inr (.inr (.inl ⟨t, HRO.out, rfl, rfl, WT.out⟩))⟩
        | all t =>
          rw [hrd] at h4
          obtain ⟨rfl, hwt⟩ := h4
          have hro := HRU.out
          rw [hrd] at hro
          have HRO := Lib.hid hro
          have WT := Lib.hid hwt
          clear hro hwt hrd
          go_wp2
          go_roundg m
          case measure => omega
          case rel => exact ⟨K4.out, .inr (.inr (.inr ⟨t, HRO.out, rfl, rfl, WT.out⟩))⟩
        | again t =>
          rw [hrd] at h4
          obtain ⟨rfl, hwt⟩ := h4
          have hro := HRU.out
          rw [hrd] at hro
          have HRO := Lib.hid hro
          have HGC := Lib.hid (Sm.round_again (by omega) (by omega) G2.out C2.out hrd)
          have WT := Lib.hid hwt
          clear hro hwt hrd
          go_wp2
          go_roundg m
          case measure => omega
          case rel => exact ⟨K4.out, .inl ⟨t, rfl, rfl, WT.out, HGC.out.1, HGC.out.2, HRO.out⟩⟩
end Go.Proofs.Ytpojkahlllochaa
