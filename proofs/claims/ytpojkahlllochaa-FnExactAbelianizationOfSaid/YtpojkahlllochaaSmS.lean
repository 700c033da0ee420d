/- The program's Smith form. No condition but those that each theorem names. -/
import Derived.Test.YtpojkahlllochaaSmR
namespace Go.Proofs.Ytpojkahlllochaa
open Go.RowKit

theorem results_cell_tmp {P : Program} {fn : Func} {p q : Tmp} {ty : TypeId} (h : fn.results = #[.cell p ty, .tmp q]) (tmps : Array Value) (w : World) (g : Nat) (cs : List Value) (d : TypeDesc)
    (hp : tmps.getD p undef = .pointer (some ⟨g, 0, none⟩)) (hc : w.rangeAt g 0 cs) (hu : P.underlying ty = some d) (hd : d.isRow = true) (hi : (P.info? ty).map (·.size) = some cs.length) :
    (results fn tmps).run P w = .ok (.tuple #[.agg cs.toArray, tmps.getD q undef]) w := by
  have hp' : tmps[p]?.getD undef = .pointer (some ⟨g, 0, none⟩) := by simpa using hp
  simp [results, h, hp', asAddr, run_loadVar_mid w g 0 ty cs d hc hu hd hi]

/-- A reduction in new memory, with a code: the sides, the five lists. -/
def ResR (w : World) (R C : Int) (s : Sm.St) (code : Int) (e : Ending) (w' : World) : Prop :=
  ∃ (b1 b2 b3 b4 : Nat) (Ad Al Ali Ar Ari : Option Addr) (cd cl cli cr cri : Nat),
    e = .returned (.tuple #[.agg #[.int .i64 R, .int .i64 R, .slice Al s.l.length cl, .int .i64 R, .int .i64 R, .slice Ali s.li.length cli, .int .i64 R, .int .i64 C, .slice Ad s.d.length cd, .int .i64 C, .int .i64 C, .slice Ar s.r.length cr, .int .i64 C, .int .i64 C, .slice Ari s.ri.length cri], .int .i64 code]) ∧ w.heap.size ≤ b1 ∧ b1 ≤ b2 ∧ b2 ≤ b3 ∧ b3 ≤ b4 ∧ b4 ≤ w'.heap.size ∧
    Own w' w.heap.size b1 Ad s.d.length cd s.d ∧ Own w' b1 b2 Al s.l.length cl s.l ∧ Own w' b2 b3 Ali s.li.length cli s.li ∧ Own w' b3 b4 Ar s.r.length cr s.r ∧ Own w' b4 w'.heap.size Ari s.ri.length cri s.ri ∧ Below w.heap.size w w'
theorem ResR.mk {w w' : World} {R C code : Int} {s : Sm.St} {nl nli nd nr nri b1 b2 b3 b4 : Nat} {Ad Al Ali Ar Ari : Option Addr} {cd cl cli cr cri : Nat} (el : s.l.length = nl) (eli : s.li.length = nli) (ed : s.d.length = nd) (er : s.r.length = nr) (eri : s.ri.length = nri)
    (i0 : w.heap.size ≤ b1) (i1 : b1 ≤ b2) (i2 : b2 ≤ b3) (i3 : b3 ≤ b4) (i4 : b4 ≤ w'.heap.size) (hd : Own w' w.heap.size b1 Ad nd cd s.d) (hl : Own w' b1 b2 Al nl cl s.l) (hli : Own w' b2 b3 Ali nli cli s.li) (hr : Own w' b3 b4 Ar nr cr s.r) (hri : Own w' b4 w'.heap.size Ari nri cri s.ri) (hb : Below w.heap.size w w') :
    ResR w R C s code (.returned (.tuple #[.agg #[.int .i64 R, .int .i64 R, .slice Al nl cl, .int .i64 R, .int .i64 R, .slice Ali nli cli, .int .i64 R, .int .i64 C, .slice Ad nd cd, .int .i64 C, .int .i64 C, .slice Ar nr cr, .int .i64 C, .int .i64 C, .slice Ari nri cri], .int .i64 code])) w' := by
  subst el eli ed er eri
  exact ⟨b1, b2, b3, b4, Ad, Al, Ali, Ar, Ari, cd, cl, cli, cr, cri, rfl, i0, i1, i2, i3, i4, hd, hl, hli, hr, hri, hb⟩
def noSt : Sm.St := ⟨[], [], [], [], []⟩
theorem ResR.none_ {w w' : World} {code : Int} (hb : Below w.heap.size w w') : ResR w 0 0 noSt code (.returned (.tuple #[.agg #[.int .i64 0, .int .i64 0, .slice none 0 0, .int .i64 0, .int .i64 0, .slice none 0 0, .int .i64 0, .int .i64 0, .slice none 0 0, .int .i64 0, .int .i64 0, .slice none 0 0, .int .i64 0, .int .i64 0, .slice none 0 0], .int .i64 code])) w' :=
  ⟨w.heap.size, w.heap.size, w.heap.size, w.heap.size, none, none, none, none, none, 0, 0, 0, 0, 0, rfl, Nat.le_refl _, Nat.le_refl _, Nat.le_refl _, Nat.le_refl _, hb.size, Own.none_ _ _ _, Own.none_ _ _ _, Own.none_ _ _ _, Own.none_ _ _ _, Own.none_ _ _ _, hb⟩
/-- What the Smith form answers for a valid matrix. -/
def SmSays (w : World) (R C : Nat) (o : Option Sm.St) (e : Ending) (w' : World) : Prop :=
  match o with
  | some s => ResR w R C s 0 e w'
  | none => ResR w 0 0 noSt 3 e w'
def start (R C : Nat) (zs : List Int) : Sm.St := ⟨ones R R, ones R R, zs, ones C C, ones C C⟩
theorem win_rep (n : Nat) : Sm.Win (List.replicate n 0) := fun i => by
  have : (List.replicate n (0 : Int)).getD i 0 = 0 := by
    rw [List.getD_eq_getElem?_getD, List.getElem?_replicate]
    split <;> rfl
  omega
theorem ones_win (N : Nat) : ∀ i, Sm.Win (ones N i)
  | 0 => win_rep _
  | i + 1 => (ones_win N i).set _ (by omega) (by omega)
theorem start_good {R C : Nat} {zs : List Int} (hP : MOk R C zs) : Sm.Good R C (start R C zs) where
  nl := ones_len _ _
  nli := ones_len _ _
  nd := by have := hP.2.2.2.2.1; rw [castM] at this; exact_mod_cast this
  nr := ones_len _ _
  nri := ones_len _ _
  wl := ones_win _ _
  wli := ones_win _ _
  wd := fun i => by
    by_cases h : i < zs.length
    · exact hP.2.2.2.2.2 i h
    · show _ ≤ zs.getD i 0 ∧ zs.getD i 0 ≤ _
      rw [List.getD_eq_getElem?_getD, List.getElem?_eq_none (by omega)]
      simp
  wr := ones_win _ _
  wri := ones_win _ _
theorem start_ck (R C : Nat) (d : List Int) : Sm.CK R C 0 d := fun i j _ _ h => by omega

set_option maxHeartbeats 2000000 in
theorem smith_impl_no (R C : Int) (A : Option Addr) (n c : Nat) (zs : List Int) (w : World) (h : Ints w w.heap.size A n zs) (hn : n ≤ 1048576) (hP : ¬ MOk R C zs) :
    Calls Try.prog 103 #[.agg #[.int .i64 R, .int .i64 C, .slice A n c]] w (ResR w 0 0 noSt 1) := by
  have HP := Lib.hid hP
  have H := Lib.hid h
  have T0 := Lib.hid (Row.new (w.alloc (Obj.cells #[.int .i64 R, .int .i64 C, .slice A n c] 77)) #[.int .i64 0, .int .i64 0, .slice none 0 0, .int .i64 0, .int .i64 0, .slice none 0 0, .int .i64 0, .int .i64 0, .slice none 0 0, .int .i64 0, .int .i64 0, .slice none 0 0, .int .i64 0, .int .i64 0, .slice none 0 0] 120)
  simp only [World.size_alloc] at T0
  clear h hP
  go_enter Try.func103, Try.ntmps103
  go_wp2_with fail
  refine (isMi_no R C A n c zs _ (H.out.into (al2 _ _ _)) hn HP.out).mono ?_
  rintro e w1 ⟨rfl, hb⟩
  have T1 := Lib.hid (T0.out.below hb (by simp <;> omega))
  have TT := Lib.hid (T1.out.there (n := 15) rfl)
  have HB := Lib.hid (on2 _ _ hb)
  clear hb T0 T1
  go_wp2_with (refine wpList_store_mid (by rfl) 120 (.tmp 2) (.tmp 9) (by rfl) (w.heap.size + 1) 0 #[.int .i64 0, .int .i64 0, .slice none 0 0, .int .i64 0, .int .i64 0, .slice none 0 0, .int .i64 0, .int .i64 0, .slice none 0 0, .int .i64 0, .int .i64 0, .slice none 0 0, .int .i64 0, .int .i64 0, .slice none 0 0] (by rfl) (by rfl) (by exact TT.out) sizeR (by simp [Value.oneCell']) ?_)
  refine bodyPost_ret (v := .tuple #[.agg #[.int .i64 0, .int .i64 0, .slice none 0 0, .int .i64 0, .int .i64 0, .slice none 0 0, .int .i64 0, .int .i64 0, .slice none 0 0, .int .i64 0, .int .i64 0, .slice none 0 0, .int .i64 0, .int .i64 0, .slice none 0 0], .int .i64 1]) (results_cell_tmp (cs := [.int .i64 0, .int .i64 0, .slice none 0 0, .int .i64 0, .int .i64 0, .slice none 0 0, .int .i64 0, .int .i64 0, .slice none 0 0, .int .i64 0, .int .i64 0, .slice none 0 0, .int .i64 0, .int .i64 0, .slice none 0 0]) Try.results103 _ _ (w.heap.size + 1) _ (by rfl) (World.rangeAt_setCells_same _ _ _ _ TT.out) Try.underlying120 rfl sizeR) rfl ?_
  exact ResR.none_ (below_setCells (by omega) _ _ _ HB.out)

theorem runs_all_ck {R C k : Nat} (hk : k < R) (hkc : k < C) : ∀ (n : Nat) (s t : Sm.St), Sm.Good R C s → Sm.CK R C k s.d → Sm.Runs R C k n s (.all t) → Sm.CK R C k t.d ∧ Sm.selAll C t.d k (R - k) = none := by
  intro n
  induction n with
  | zero => intro s t _ _ h; exact h.elim
  | succ n ih =>
    intro s t g hc h
    rw [Sm.Runs] at h
    cases e : Sm.selAll C s.d k (R - k) with
    | none => rw [Sm.round_all e] at h; injection h with h; subst h; exact ⟨hc, e⟩
    | some p =>
      cases h1 : Sm.rowsFrom R C k (Sm.place R C k p.1 p.2 s) (R - (k + 1)) with
      | none => rw [Sm.round_bad1 e h1] at h; cases h
      | some x =>
        cases h2 : Sm.colsFrom R C k x (C - (k + 1)) with
        | none => rw [Sm.round_bad2 e h1 h2] at h; cases h
        | some u =>
          have A := Sm.after_of g hk hkc e h1 h2
          have cu := Sm.ck_of hc g hk hkc e h1 h2
          by_cases hcl : Sm.Clear R C k u.d
          · by_cases ho : ∃ i, Sm.FirstOdd R C k u.d i
            · obtain ⟨i, ho⟩ := ho
              have hr := Sm.round_odd e h1 h2 hcl ho
              cases hv : Sm.rowSub R C k i (-1) u with
              | none => rw [hv] at hr; rw [hr] at h; cases h
              | some v =>
                rw [hv] at hr; rw [hr] at h
                have := ho.1
                exact ih v t (A.good.rowSub hv) (cu.rowSub A.good hv hk ho.2.1 (by omega) (Nat.le_refl k) (by omega)) h
            · rw [Sm.round_fin e h1 h2 hcl (fun i hi => ho ⟨i, hi⟩)] at h; cases h
          · rw [Sm.round_next e h1 h2 hcl] at h
            exact ih u t A.good cu h
theorem all_ck {R C k n : Nat} {s t : Sm.St} (_hR : R ≤ 48) (_hC : C ≤ 48) (hk : k < R) (hkc : k < C) (hc : Sm.CK R C k s.d) (g : Sm.Good R C s) (h : Sm.Runs R C k n s (.all t)) : Sm.CK R C (k + 1) t.d := by
  obtain ⟨h1, h2⟩ := runs_all_ck hk hkc n s t g hc h
  exact h1.of_sel hk hkc h2

set_option maxRecDepth 100000 in
set_option maxHeartbeats 16000000 in
theorem smith_impl_yes (R C : Nat) (A : Option Addr) (n c : Nat) (zs : List Int) (o : Option Sm.St) (w : World) (h : Ints w w.heap.size A n zs) (hR : R ≤ 48) (hC : C ≤ 48) (hP : MOk R C zs) (ho : Sm.Outcome2 R C (min R C) 0 (start R C zs) o) :
    Calls Try.prog 103 #[.agg #[.int .i64 R, .int .i64 C, .slice A n c]] w (SmSays w R C o) := by
  have p1 := rc_le hR hC
  have hnn : n = R * C := by have h1 := hP.2.2.2.2.1; rw [h.1, castM] at h1; exact_mod_cast h1
  have HN := Lib.hid hnn
  have HP := Lib.hid hP
  have HO := Lib.hid ho
  have G0 := Lib.hid (start_good hP)
  have K0 := Lib.hid ((Box3.new w 77 (.int .i64 R) (.int .i64 C) (.slice A n c)).below (al1 _ (Obj.cells #[.int .i64 0, .int .i64 0, .slice none 0 0, .int .i64 0, .int .i64 0, .slice none 0 0, .int .i64 0, .int .i64 0, .slice none 0 0, .int .i64 0, .int .i64 0, .slice none 0 0, .int .i64 0, .int .i64 0, .slice none 0 0] 120)) (by simp))
  have T0 := Lib.hid (Row.new (w.alloc (Obj.cells #[.int .i64 R, .int .i64 C, .slice A n c] 77)) #[.int .i64 0, .int .i64 0, .slice none 0 0, .int .i64 0, .int .i64 0, .slice none 0 0, .int .i64 0, .int .i64 0, .slice none 0 0, .int .i64 0, .int .i64 0, .slice none 0 0, .int .i64 0, .int .i64 0, .slice none 0 0] 120)
  simp only [World.size_alloc] at T0
  have H := Lib.hid h
  clear h hP ho hnn
  rcases Nat.lt_or_ge C R with hcr | hcr
  · have hme : min R C = C := by omega
    rw [hme] at HO
    clear hme
    go_enter Try.func103, Try.ntmps103
    go_wp2_with fail
    refine (isMi_yes R C A n c zs _ (H.out.into (al2 _ _ _)) (by have := HN.out; omega) HP.out).mono ?_
    rintro e w1 ⟨rfl, hb⟩
    have s1 : w.heap.size + 1 < w1.heap.size := by have := hb.size; simp at this; omega
    have s1' : w.heap.size < w1.heap.size := by omega
    have K1 := Lib.hid (K0.out.below hb (by simp <;> omega))
    have T1 := Lib.hid (T0.out.below hb (by simp <;> omega))
    have HB1 := Lib.hid (on2 _ _ hb)
    clear hb K0 T0
    obtain ⟨k0, k1, k2⟩ := K1.out
    go_wp2_with fail
    refine (unreduced_impl R C A n c zs _ (H.out.into HB1.out) HN.out hR hC).mono ?_
    rintro e w2 ⟨gd, b1, b2, b3, b4, Al, Ali, Ar, Ari, cl, cli, cr, cri, rfl, i0, i1, i2, i3, i4, hd, hl, hli, hr, hri, hb⟩
    have s2 : w1.heap.size ≤ w2.heap.size := hb.size
    have s2' : w.heap.size < w2.heap.size := by omega
    have K2 := Lib.hid ((K1.out.below hb (by omega)).below (al1 w2 (Obj.cells #[.int .i64 R, .int .i64 R, .slice Al (R * R) cl, .int .i64 R, .int .i64 R, .slice Ali (R * R) cli, .int .i64 R, .int .i64 C, .slice (some ⟨gd, 0, none⟩) (R * C) (R * C), .int .i64 C, .int .i64 C, .slice Ar (C * C) cr, .int .i64 C, .int .i64 C, .slice Ari (C * C) cri] 120)) (by omega))
    have T2 := Lib.hid ((T1.out.below hb (by omega)).alloc (Obj.cells #[.int .i64 R, .int .i64 R, .slice Al (R * R) cl, .int .i64 R, .int .i64 R, .slice Ali (R * R) cli, .int .i64 R, .int .i64 C, .slice (some ⟨gd, 0, none⟩) (R * C) (R * C), .int .i64 C, .int .i64 C, .slice Ar (C * C) cr, .int .i64 C, .int .i64 C, .slice Ari (C * C) cri] 120))
    have Od := Lib.hid (hd.al (by omega) (al1 w2 (Obj.cells #[.int .i64 R, .int .i64 R, .slice Al (R * R) cl, .int .i64 R, .int .i64 R, .slice Ali (R * R) cli, .int .i64 R, .int .i64 C, .slice (some ⟨gd, 0, none⟩) (R * C) (R * C), .int .i64 C, .int .i64 C, .slice Ar (C * C) cr, .int .i64 C, .int .i64 C, .slice Ari (C * C) cri] 120)))
    have Ol := Lib.hid (hl.al (by omega) (al1 w2 (Obj.cells #[.int .i64 R, .int .i64 R, .slice Al (R * R) cl, .int .i64 R, .int .i64 R, .slice Ali (R * R) cli, .int .i64 R, .int .i64 C, .slice (some ⟨gd, 0, none⟩) (R * C) (R * C), .int .i64 C, .int .i64 C, .slice Ar (C * C) cr, .int .i64 C, .int .i64 C, .slice Ari (C * C) cri] 120)))
    have Oli := Lib.hid (hli.al (by omega) (al1 w2 (Obj.cells #[.int .i64 R, .int .i64 R, .slice Al (R * R) cl, .int .i64 R, .int .i64 R, .slice Ali (R * R) cli, .int .i64 R, .int .i64 C, .slice (some ⟨gd, 0, none⟩) (R * C) (R * C), .int .i64 C, .int .i64 C, .slice Ar (C * C) cr, .int .i64 C, .int .i64 C, .slice Ari (C * C) cri] 120)))
    have Or := Lib.hid (hr.al (by omega) (al1 w2 (Obj.cells #[.int .i64 R, .int .i64 R, .slice Al (R * R) cl, .int .i64 R, .int .i64 R, .slice Ali (R * R) cli, .int .i64 R, .int .i64 C, .slice (some ⟨gd, 0, none⟩) (R * C) (R * C), .int .i64 C, .int .i64 C, .slice Ar (C * C) cr, .int .i64 C, .int .i64 C, .slice Ari (C * C) cri] 120)))
    have Ori := Lib.hid (hri.al (by omega) (al1 w2 (Obj.cells #[.int .i64 R, .int .i64 R, .slice Al (R * R) cl, .int .i64 R, .int .i64 R, .slice Ali (R * R) cli, .int .i64 R, .int .i64 C, .slice (some ⟨gd, 0, none⟩) (R * C) (R * C), .int .i64 C, .int .i64 C, .slice Ar (C * C) cr, .int .i64 C, .int .i64 C, .slice Ari (C * C) cri] 120)))
    have X2 := Lib.hid (Row.new w2 #[.int .i64 R, .int .i64 R, .slice Al (R * R) cl, .int .i64 R, .int .i64 R, .slice Ali (R * R) cli, .int .i64 R, .int .i64 C, .slice (some ⟨gd, 0, none⟩) (R * C) (R * C), .int .i64 C, .int .i64 C, .slice Ar (C * C) cr, .int .i64 C, .int .i64 C, .slice Ari (C * C) cri] 120)
    have HB2 := Lib.hid ((HB1.out.trans (hb.mono (by omega))).trans ((al1 w2 (Obj.cells #[.int .i64 R, .int .i64 R, .slice Al (R * R) cl, .int .i64 R, .int .i64 R, .slice Ali (R * R) cli, .int .i64 R, .int .i64 C, .slice (some ⟨gd, 0, none⟩) (R * C) (R * C), .int .i64 C, .int .i64 C, .slice Ar (C * C) cr, .int .i64 C, .int .i64 C, .slice Ari (C * C) cri] 120)).mono (by omega)))
    clear hb hd hl hli hr hri k0 k1 k2 K1 T1 HB1
    obtain ⟨k0, k1, k2⟩ := K2.out
    go_wp2
    obtain ⟨V, hV⟩ : ∃ V, V = w2.alloc (Obj.cells #[.int .i64 R, .int .i64 R, .slice Al (R * R) cl, .int .i64 R, .int .i64 R, .slice Ali (R * R) cli, .int .i64 R, .int .i64 C, .slice (some ⟨gd, 0, none⟩) (R * C) (R * C), .int .i64 C, .int .i64 C, .slice Ar (C * C) cr, .int .i64 C, .int .i64 C, .slice Ari (C * C) cri] 120) := ⟨_, rfl⟩
    have v1 : w2.heap.size < V.heap.size := by rw [hV]; simp
    rw [← hV] at K2 T2 Od Ol Oli Or Ori X2 HB2
    rw [← hV]
    clear hV k0 k1 k2 K2
    by_cases hm0 : C = 0
    · have HM0 := Lib.hid hm0
      have t0 : ¬ 0 < C := by omega
      have t00 : ((0 : Int) < (C : Int)) = False := by simp; omega
      clear hm0
      have hs : o = some (start R C zs) := by have := HO.out; rw [HM0.out] at this; exact (by rw [HM0.out]; exact this)
      have HS := Lib.hid hs
      clear hs
      refine wp_loop_rounds 1 ?_
      rw [rounds_succ]
      have l1 := G0.out.nd
      have TT := Lib.hid (T2.out.there (n := 15) rfl)
      go_wp2_with (first | (refine wpList_load_row (by rfl) 120 (.tmp 4) (by rfl) w2.heap.size (by rfl) 120 #[.int .i64 R, .int .i64 R, .slice Al (R * R) cl, .int .i64 R, .int .i64 R, .slice Ali (R * R) cli, .int .i64 R, .int .i64 C, .slice (some ⟨gd, 0, none⟩) (R * C) (R * C), .int .i64 C, .int .i64 C, .slice Ar (C * C) cr, .int .i64 C, .int .i64 C, .slice Ari (C * C) cri] (0, 0) _ (by exact X2.out) Try.underlying120 (by rfl) sizeR ?_) | (refine wpList_store_mid (by rfl) 120 (.tmp 2) (.tmp 26) (by rfl) (w.heap.size + 1) 0 #[.int .i64 R, .int .i64 R, .slice Al (R * R) cl, .int .i64 R, .int .i64 R, .slice Ali (R * R) cli, .int .i64 R, .int .i64 C, .slice (some ⟨gd, 0, none⟩) (R * C) (R * C), .int .i64 C, .int .i64 C, .slice Ar (C * C) cr, .int .i64 C, .int .i64 C, .slice Ari (C * C) cri] (by rfl) (by rfl) (by exact TT.out) sizeR (by simp [Value.oneCell']) ?_))
      refine bodyPost_ret (v := .tuple #[.agg #[.int .i64 R, .int .i64 R, .slice Al (R * R) cl, .int .i64 R, .int .i64 R, .slice Ali (R * R) cli, .int .i64 R, .int .i64 C, .slice (some ⟨gd, 0, none⟩) (R * C) (R * C), .int .i64 C, .int .i64 C, .slice Ar (C * C) cr, .int .i64 C, .int .i64 C, .slice Ari (C * C) cri], .int .i64 0]) (results_cell_tmp (cs := [.int .i64 R, .int .i64 R, .slice Al (R * R) cl, .int .i64 R, .int .i64 R, .slice Ali (R * R) cli, .int .i64 R, .int .i64 C, .slice (some ⟨gd, 0, none⟩) (R * C) (R * C), .int .i64 C, .int .i64 C, .slice Ar (C * C) cr, .int .i64 C, .int .i64 C, .slice Ari (C * C) cri]) Try.results103 _ _ (w.heap.size + 1) _ (by rfl) (World.rangeAt_setCells_same _ _ _ _ TT.out) Try.underlying120 rfl sizeR) rfl ?_
      rw [HS.out]
      have z0 : (V.setCells (w.heap.size + 1) 0 (#[.int .i64 R, .int .i64 R, .slice Al (R * R) cl, .int .i64 R, .int .i64 R, .slice Ali (R * R) cli, .int .i64 R, .int .i64 C, .slice (some ⟨gd, 0, none⟩) (R * C) (R * C), .int .i64 C, .int .i64 C, .slice Ar (C * C) cr, .int .i64 C, .int .i64 C, .slice Ari (C * C) cri]).toList).heap.size = V.heap.size := size_setCells _ _ _ _
      have el := G0.out.nl
      have eli := G0.out.nli
      have er := G0.out.nr
      have eri := G0.out.nri
      have ed := G0.out.nd
      exact ResR.mk el eli ed er eri (by omega) (by omega) (by omega) (by omega) (by rw [z0]; omega) ((Od.out.setCells (g := w.heap.size + 1) (by omega) _ 0).wide (by omega) (by omega)) (Ol.out.setCells (g := w.heap.size + 1) (by omega) _ 0) (Oli.out.setCells (g := w.heap.size + 1) (by omega) _ 0) (Or.out.setCells (g := w.heap.size + 1) (by omega) _ 0) ((Ori.out.setCells (g := w.heap.size + 1) (by omega) _ 0).wide (by omega) (by rw [z0]; omega)) (below_setCells (by omega) _ _ _ HB2.out)
    · have hR0 : 0 < R := by omega
      have hC0 : 0 < C := by omega
      obtain ⟨gl, _, el, _⟩ := Ol.out.at_ (Nat.mul_pos (by omega) (by omega))
      subst el
      obtain ⟨gli, _, eli, _⟩ := Oli.out.at_ (Nat.mul_pos (by omega) (by omega))
      subst eli
      obtain ⟨gr, _, er, _⟩ := Or.out.at_ (Nat.mul_pos (by omega) (by omega))
      subst er
      obtain ⟨gri, _, eri, _⟩ := Ori.out.at_ (Nat.mul_pos (by omega) (by omega))
      subst eri
      obtain ⟨L, hL⟩ : ∃ L : Lay, L = ⟨w1.heap.size, b1, b2, b3, b4, w2.heap.size, gd, gl, gli, gr, gri, R * C, cl, cli, cr, cri⟩ := ⟨_, rfl⟩
      have qb0 : L.b0 = w1.heap.size := by rw [hL]
      have qb1 : L.b1 = b1 := by rw [hL]
      have qb2 : L.b2 = b2 := by rw [hL]
      have qb3 : L.b3 = b3 := by rw [hL]
      have qb4 : L.b4 = b4 := by rw [hL]
      have qb5 : L.b5 = w2.heap.size := by rw [hL]
      have qgd : L.gd = gd := by rw [hL]
      have qgl : L.gl = gl := by rw [hL]
      have qgli : L.gli = gli := by rw [hL]
      have qgr : L.gr = gr := by rw [hL]
      have qgri : L.gri = gri := by rw [hL]
      have qcd : L.cd = R * C := by rw [hL]
      have qcl : L.cl = cl := by rw [hL]
      have qcli : L.cli = cli := by rw [hL]
      have qcr : L.cr = cr := by rw [hL]
      have qcri : L.cri = cri := by rw [hL]
      have F0 : Five L R C V (start R C zs) := by rw [hL]; exact ⟨Od.out, Ol.out, Oli.out, Or.out, Ori.out⟩
      have OK : L.Ok V := by rw [hL]; exact ⟨i0, i1, i2, i3, i4, by dsimp only; omega⟩
      have X3 := Lib.hid X2.out
      rw [← qgd, ← qgl, ← qgli, ← qgr, ← qgri] at X3
      rw [← qcl, ← qcli, ← qcr, ← qcri] at X3
      have HF0 := Lib.hid F0
      have HOK := Lib.hid OK
      have c5 : L.b5 ≤ w2.heap.size := by omega
      have c0 : w1.heap.size ≤ L.b0 := by omega
      have c0' : w.heap.size + 1 < L.b0 := by omega
      have QD := Lib.hid qcd
      have QB := Lib.hid (show L.b0 = w1.heap.size ∧ L.b5 = w2.heap.size from ⟨qb0, qb5⟩)
      have X4 : Row V w2.heap.size #[.int .i64 R, .int .i64 R, .slice (some ⟨L.gl, 0, none⟩) (R * R) L.cl, .int .i64 R, .int .i64 R, .slice (some ⟨L.gli, 0, none⟩) (R * R) L.cli, .int .i64 R, .int .i64 C, .slice (some ⟨L.gd, 0, none⟩) (R * C) L.cd, .int .i64 C, .int .i64 C, .slice (some ⟨L.gr, 0, none⟩) (C * C) L.cr, .int .i64 C, .int .i64 C, .slice (some ⟨L.gri, 0, none⟩) (C * C) L.cri] 120 := by rw [QD.out]; exact X3.out
      have HX := Lib.hid X4
      clear F0 OK qb0 qb1 qb2 qb3 qb4 qb5 qgd qgl qgli qgr qgri qcd qcl qcli qcr qcri hL X2 X3 X4 Od Ol Oli Or Ori
      have HRZ := Lib.hid (Kept.refl L.b0 L.b5 V)
      go_loopw [17, 5] (fun x _ wr => ∃ (k : Nat) (s : Sm.St), k ≤ C ∧ x = .int .i64 k ∧ Five L R C wr s ∧ Sm.Good R C s ∧ Sm.CK R C k s.d ∧ Kept L.b0 L.b5 V wr ∧ Sm.Outcome2 R C (C - k) k s o) (fun x _ _ => C - (intOf x).toNat)
      case atStart => exact ⟨0, _, Nat.zero_le _, rfl, HF0.out, G0.out, start_ck _ _ _, Kept.refl _ _ _, HO.out⟩
      case round =>
        obtain ⟨k, s, hk, rfl, hf, hg, hck, hkept, hout⟩ := hrel
        have F1 := Lib.hid hf
        have G1 := Lib.hid hg
        have C1 := Lib.hid hck
        have K1 := Lib.hid hkept
        have O1 := Lib.hid hout
        have z1 : V.heap.size ≤ wr.heap.size := hkept.size
        have OK1 := Lib.hid (HOK.out.more z1)
        have X1 := Lib.hid (HX.out.kept hkept (by omega))
        have T1 := Lib.hid (T2.out.kept hkept (by omega))
        clear hf hg hck hkept hout
        by_cases hlt : k < C
        · obtain ⟨d, hd⟩ : ∃ d, C - k = d + 1 := ⟨C - k - 1, by omega⟩
          have hout := O1.out
          rw [hd] at hout
          obtain ⟨nr, r, hruns, hres⟩ := hout
          have HRS := Lib.hid hres
          have hd2 : C - (k + 1) = d := by omega
          have HD2 := Lib.hid hd2
          have rr := Sm.runs_res (show k < R by omega) (show k < C by omega) nr s r G1.out C1.out hruns
          have RR := Lib.hid rr
          have RU := Lib.hid hruns
          clear hd hres hd2 rr hruns
          go_wp2_with (first | (refine wpList_load_row (by rfl) 120 (.tmp 4) (by rfl) w2.heap.size (by rfl) 120 #[.int .i64 R, .int .i64 R, .slice (some ⟨L.gl, 0, none⟩) (R * R) L.cl, .int .i64 R, .int .i64 R, .slice (some ⟨L.gli, 0, none⟩) (R * R) L.cli, .int .i64 R, .int .i64 C, .slice (some ⟨L.gd, 0, none⟩) (R * C) L.cd, .int .i64 C, .int .i64 C, .slice (some ⟨L.gr, 0, none⟩) (C * C) L.cr, .int .i64 C, .int .i64 C, .slice (some ⟨L.gri, 0, none⟩) (C * C) L.cri] (0, 0) _ (by exact X1.out) Try.underlying120 (by rfl) sizeR ?_))
          refine (settle_impl L R C k nr s r _ hR hC (by omega) (by omega) OK1.out F1.out G1.out C1.out RU.out).mono ?_
          intro e w4 h4
          rcases RR.out with rfl | ⟨t, rfl, gt, ct⟩ | ⟨t, rfl, gt, st⟩
          · obtain ⟨rfl, hk4⟩ := h4
            have hn : o = none := HRS.out
            have HNO := Lib.hid hn
            have K4 := Lib.hid (K1.out.trans hk4)
            have T4 := Lib.hid (T1.out.kept hk4 (by omega))
            have TT := Lib.hid (T4.out.there (n := 15) rfl)
            clear hk4 hn
            go_wp2_with (refine wpList_store_mid (by rfl) 120 (.tmp 2) (.tmp 24) (by rfl) (w.heap.size + 1) 0 #[.int .i64 0, .int .i64 0, .slice none 0 0, .int .i64 0, .int .i64 0, .slice none 0 0, .int .i64 0, .int .i64 0, .slice none 0 0, .int .i64 0, .int .i64 0, .slice none 0 0, .int .i64 0, .int .i64 0, .slice none 0 0] (by rfl) (by rfl) (by exact TT.out) sizeR (by simp [Value.oneCell']) ?_)
            refine bodyPost_ret (v := .tuple #[.agg #[.int .i64 0, .int .i64 0, .slice none 0 0, .int .i64 0, .int .i64 0, .slice none 0 0, .int .i64 0, .int .i64 0, .slice none 0 0, .int .i64 0, .int .i64 0, .slice none 0 0, .int .i64 0, .int .i64 0, .slice none 0 0], .int .i64 3]) (results_cell_tmp (cs := [.int .i64 0, .int .i64 0, .slice none 0 0, .int .i64 0, .int .i64 0, .slice none 0 0, .int .i64 0, .int .i64 0, .slice none 0 0, .int .i64 0, .int .i64 0, .slice none 0 0, .int .i64 0, .int .i64 0, .slice none 0 0]) Try.results103 _ _ (w.heap.size + 1) _ (by rfl) (World.rangeAt_setCells_same _ _ _ _ TT.out) Try.underlying120 rfl sizeR) rfl ?_
            rw [HNO.out]
            exact ResR.none_ (below_setCells (by omega) _ _ _ (HB2.out.trans (K4.out.below (by omega) (by omega))))
          · obtain ⟨rfl, hf4, hk4⟩ := h4
            have F4 := Lib.hid hf4
            have K4 := Lib.hid (K1.out.trans hk4)
            have G4 := Lib.hid gt
            have C4 := Lib.hid ct
            clear hf4 hk4 gt ct
            go_wp2
            go_roundw
            case rel => exact ⟨k + 1, t, by omega, by go_num, F4.out, G4.out, C4.out, K4.out, by rw [HD2.out]; exact HRS.out⟩
            case measure => simp [intOf]; omega
          · obtain ⟨rfl, hf4, hk4⟩ := h4
            have F4 := Lib.hid hf4
            have K4 := Lib.hid (K1.out.trans hk4)
            have G4 := Lib.hid gt
            have S4 := Lib.hid st
            have C4 := Lib.hid (all_ck hR hC (by omega) (by omega) C1.out G1.out RU.out)
            clear hf4 hk4 gt st
            go_wp2
            go_roundw
            case rel => exact ⟨k + 1, t, by omega, by go_num, F4.out, G4.out, C4.out, K4.out, by rw [HD2.out]; exact HRS.out⟩
            case measure => simp [intOf]; omega
        · obtain rfl : C = k := by omega
          have hs : o = some s := by have := O1.out; rw [Nat.sub_self] at this; exact this
          have HS := Lib.hid hs
          clear hs
          obtain ⟨j0, j1, j2, j3, j4, j5⟩ := OK1.out
          have TT := Lib.hid (T1.out.there (n := 15) rfl)
          go_wp2_with (first | (refine wpList_load_row (by rfl) 120 (.tmp 4) (by rfl) w2.heap.size (by rfl) 120 #[.int .i64 R, .int .i64 R, .slice (some ⟨L.gl, 0, none⟩) (R * R) L.cl, .int .i64 R, .int .i64 R, .slice (some ⟨L.gli, 0, none⟩) (R * R) L.cli, .int .i64 R, .int .i64 C, .slice (some ⟨L.gd, 0, none⟩) (R * C) L.cd, .int .i64 C, .int .i64 C, .slice (some ⟨L.gr, 0, none⟩) (C * C) L.cr, .int .i64 C, .int .i64 C, .slice (some ⟨L.gri, 0, none⟩) (C * C) L.cri] (0, 0) _ (by exact X1.out) Try.underlying120 (by rfl) sizeR ?_) | (refine wpList_store_mid (by rfl) 120 (.tmp 2) (.tmp 26) (by rfl) (w.heap.size + 1) 0 #[.int .i64 R, .int .i64 R, .slice (some ⟨L.gl, 0, none⟩) (R * R) L.cl, .int .i64 R, .int .i64 R, .slice (some ⟨L.gli, 0, none⟩) (R * R) L.cli, .int .i64 R, .int .i64 C, .slice (some ⟨L.gd, 0, none⟩) (R * C) L.cd, .int .i64 C, .int .i64 C, .slice (some ⟨L.gr, 0, none⟩) (C * C) L.cr, .int .i64 C, .int .i64 C, .slice (some ⟨L.gri, 0, none⟩) (C * C) L.cri] (by rfl) (by rfl) (by exact TT.out) sizeR (by simp [Value.oneCell']) ?_))
          refine bodyPost_ret (v := .tuple #[.agg #[.int .i64 R, .int .i64 R, .slice (some ⟨L.gl, 0, none⟩) (R * R) L.cl, .int .i64 R, .int .i64 R, .slice (some ⟨L.gli, 0, none⟩) (R * R) L.cli, .int .i64 R, .int .i64 C, .slice (some ⟨L.gd, 0, none⟩) (R * C) L.cd, .int .i64 C, .int .i64 C, .slice (some ⟨L.gr, 0, none⟩) (C * C) L.cr, .int .i64 C, .int .i64 C, .slice (some ⟨L.gri, 0, none⟩) (C * C) L.cri], .int .i64 0]) (results_cell_tmp (cs := [.int .i64 R, .int .i64 R, .slice (some ⟨L.gl, 0, none⟩) (R * R) L.cl, .int .i64 R, .int .i64 R, .slice (some ⟨L.gli, 0, none⟩) (R * R) L.cli, .int .i64 R, .int .i64 C, .slice (some ⟨L.gd, 0, none⟩) (R * C) L.cd, .int .i64 C, .int .i64 C, .slice (some ⟨L.gr, 0, none⟩) (C * C) L.cr, .int .i64 C, .int .i64 C, .slice (some ⟨L.gri, 0, none⟩) (C * C) L.cri]) Try.results103 _ _ (w.heap.size + 1) _ (by rfl) (World.rangeAt_setCells_same _ _ _ _ TT.out) Try.underlying120 rfl sizeR) rfl ?_
          rw [HS.out]
          have z0 : (wr.setCells (w.heap.size + 1) 0 (#[.int .i64 R, .int .i64 R, .slice (some ⟨L.gl, 0, none⟩) (R * R) L.cl, .int .i64 R, .int .i64 R, .slice (some ⟨L.gli, 0, none⟩) (R * R) L.cli, .int .i64 R, .int .i64 C, .slice (some ⟨L.gd, 0, none⟩) (R * C) L.cd, .int .i64 C, .int .i64 C, .slice (some ⟨L.gr, 0, none⟩) (C * C) L.cr, .int .i64 C, .int .i64 C, .slice (some ⟨L.gri, 0, none⟩) (C * C) L.cri]).toList).heap.size = wr.heap.size := size_setCells _ _ _ _
          have el := G1.out.nl
          have eli := G1.out.nli
          have ed := G1.out.nd
          have er := G1.out.nr
          have eri := G1.out.nri
          have qb := QB.out
          exact ResR.mk el eli ed er eri (by omega) (by omega) (by omega) (by omega) (by rw [z0]; omega) ((F1.out.d.setCells (g := w.heap.size + 1) (by omega) _ 0).wide (by omega) (by omega)) (F1.out.l.setCells (g := w.heap.size + 1) (by omega) _ 0) (F1.out.li.setCells (g := w.heap.size + 1) (by omega) _ 0) (F1.out.r.setCells (g := w.heap.size + 1) (by omega) _ 0) ((F1.out.ri.setCells (g := w.heap.size + 1) (by omega) _ 0).wide (by omega) (by rw [z0]; omega)) (below_setCells (by omega) _ _ _ (HB2.out.trans (K1.out.below (by omega) (by omega))))
  · have hme : min R C = R := by omega
    rw [hme] at HO
    clear hme
    go_enter Try.func103, Try.ntmps103
    go_wp2_with fail
    refine (isMi_yes R C A n c zs _ (H.out.into (al2 _ _ _)) (by have := HN.out; omega) HP.out).mono ?_
    rintro e w1 ⟨rfl, hb⟩
    have s1 : w.heap.size + 1 < w1.heap.size := by have := hb.size; simp at this; omega
    have s1' : w.heap.size < w1.heap.size := by omega
    have K1 := Lib.hid (K0.out.below hb (by simp <;> omega))
    have T1 := Lib.hid (T0.out.below hb (by simp <;> omega))
    have HB1 := Lib.hid (on2 _ _ hb)
    clear hb K0 T0
    obtain ⟨k0, k1, k2⟩ := K1.out
    go_wp2_with fail
    refine (unreduced_impl R C A n c zs _ (H.out.into HB1.out) HN.out hR hC).mono ?_
    rintro e w2 ⟨gd, b1, b2, b3, b4, Al, Ali, Ar, Ari, cl, cli, cr, cri, rfl, i0, i1, i2, i3, i4, hd, hl, hli, hr, hri, hb⟩
    have s2 : w1.heap.size ≤ w2.heap.size := hb.size
    have s2' : w.heap.size < w2.heap.size := by omega
    have K2 := Lib.hid ((K1.out.below hb (by omega)).below (al1 w2 (Obj.cells #[.int .i64 R, .int .i64 R, .slice Al (R * R) cl, .int .i64 R, .int .i64 R, .slice Ali (R * R) cli, .int .i64 R, .int .i64 C, .slice (some ⟨gd, 0, none⟩) (R * C) (R * C), .int .i64 C, .int .i64 C, .slice Ar (C * C) cr, .int .i64 C, .int .i64 C, .slice Ari (C * C) cri] 120)) (by omega))
    have T2 := Lib.hid ((T1.out.below hb (by omega)).alloc (Obj.cells #[.int .i64 R, .int .i64 R, .slice Al (R * R) cl, .int .i64 R, .int .i64 R, .slice Ali (R * R) cli, .int .i64 R, .int .i64 C, .slice (some ⟨gd, 0, none⟩) (R * C) (R * C), .int .i64 C, .int .i64 C, .slice Ar (C * C) cr, .int .i64 C, .int .i64 C, .slice Ari (C * C) cri] 120))
    have Od := Lib.hid (hd.al (by omega) (al1 w2 (Obj.cells #[.int .i64 R, .int .i64 R, .slice Al (R * R) cl, .int .i64 R, .int .i64 R, .slice Ali (R * R) cli, .int .i64 R, .int .i64 C, .slice (some ⟨gd, 0, none⟩) (R * C) (R * C), .int .i64 C, .int .i64 C, .slice Ar (C * C) cr, .int .i64 C, .int .i64 C, .slice Ari (C * C) cri] 120)))
    have Ol := Lib.hid (hl.al (by omega) (al1 w2 (Obj.cells #[.int .i64 R, .int .i64 R, .slice Al (R * R) cl, .int .i64 R, .int .i64 R, .slice Ali (R * R) cli, .int .i64 R, .int .i64 C, .slice (some ⟨gd, 0, none⟩) (R * C) (R * C), .int .i64 C, .int .i64 C, .slice Ar (C * C) cr, .int .i64 C, .int .i64 C, .slice Ari (C * C) cri] 120)))
    have Oli := Lib.hid (hli.al (by omega) (al1 w2 (Obj.cells #[.int .i64 R, .int .i64 R, .slice Al (R * R) cl, .int .i64 R, .int .i64 R, .slice Ali (R * R) cli, .int .i64 R, .int .i64 C, .slice (some ⟨gd, 0, none⟩) (R * C) (R * C), .int .i64 C, .int .i64 C, .slice Ar (C * C) cr, .int .i64 C, .int .i64 C, .slice Ari (C * C) cri] 120)))
    have Or := Lib.hid (hr.al (by omega) (al1 w2 (Obj.cells #[.int .i64 R, .int .i64 R, .slice Al (R * R) cl, .int .i64 R, .int .i64 R, .slice Ali (R * R) cli, .int .i64 R, .int .i64 C, .slice (some ⟨gd, 0, none⟩) (R * C) (R * C), .int .i64 C, .int .i64 C, .slice Ar (C * C) cr, .int .i64 C, .int .i64 C, .slice Ari (C * C) cri] 120)))
    have Ori := Lib.hid (hri.al (by omega) (al1 w2 (Obj.cells #[.int .i64 R, .int .i64 R, .slice Al (R * R) cl, .int .i64 R, .int .i64 R, .slice Ali (R * R) cli, .int .i64 R, .int .i64 C, .slice (some ⟨gd, 0, none⟩) (R * C) (R * C), .int .i64 C, .int .i64 C, .slice Ar (C * C) cr, .int .i64 C, .int .i64 C, .slice Ari (C * C) cri] 120)))
    have X2 := Lib.hid (Row.new w2 #[.int .i64 R, .int .i64 R, .slice Al (R * R) cl, .int .i64 R, .int .i64 R, .slice Ali (R * R) cli, .int .i64 R, .int .i64 C, .slice (some ⟨gd, 0, none⟩) (R * C) (R * C), .int .i64 C, .int .i64 C, .slice Ar (C * C) cr, .int .i64 C, .int .i64 C, .slice Ari (C * C) cri] 120)
    have HB2 := Lib.hid ((HB1.out.trans (hb.mono (by omega))).trans ((al1 w2 (Obj.cells #[.int .i64 R, .int .i64 R, .slice Al (R * R) cl, .int .i64 R, .int .i64 R, .slice Ali (R * R) cli, .int .i64 R, .int .i64 C, .slice (some ⟨gd, 0, none⟩) (R * C) (R * C), .int .i64 C, .int .i64 C, .slice Ar (C * C) cr, .int .i64 C, .int .i64 C, .slice Ari (C * C) cri] 120)).mono (by omega)))
    clear hb hd hl hli hr hri k0 k1 k2 K1 T1 HB1
    obtain ⟨k0, k1, k2⟩ := K2.out
    go_wp2
    obtain ⟨V, hV⟩ : ∃ V, V = w2.alloc (Obj.cells #[.int .i64 R, .int .i64 R, .slice Al (R * R) cl, .int .i64 R, .int .i64 R, .slice Ali (R * R) cli, .int .i64 R, .int .i64 C, .slice (some ⟨gd, 0, none⟩) (R * C) (R * C), .int .i64 C, .int .i64 C, .slice Ar (C * C) cr, .int .i64 C, .int .i64 C, .slice Ari (C * C) cri] 120) := ⟨_, rfl⟩
    have v1 : w2.heap.size < V.heap.size := by rw [hV]; simp
    rw [← hV] at K2 T2 Od Ol Oli Or Ori X2 HB2
    rw [← hV]
    clear hV k0 k1 k2 K2
    by_cases hm0 : R = 0
    · have HM0 := Lib.hid hm0
      have t0 : ¬ 0 < R := by omega
      have t00 : ((0 : Int) < (R : Int)) = False := by simp; omega
      clear hm0
      have hs : o = some (start R C zs) := by have := HO.out; rw [HM0.out] at this; exact (by rw [HM0.out]; exact this)
      have HS := Lib.hid hs
      clear hs
      refine wp_loop_rounds 1 ?_
      rw [rounds_succ]
      have l1 := G0.out.nd
      have TT := Lib.hid (T2.out.there (n := 15) rfl)
      go_wp2_with (first | (refine wpList_load_row (by rfl) 120 (.tmp 4) (by rfl) w2.heap.size (by rfl) 120 #[.int .i64 R, .int .i64 R, .slice Al (R * R) cl, .int .i64 R, .int .i64 R, .slice Ali (R * R) cli, .int .i64 R, .int .i64 C, .slice (some ⟨gd, 0, none⟩) (R * C) (R * C), .int .i64 C, .int .i64 C, .slice Ar (C * C) cr, .int .i64 C, .int .i64 C, .slice Ari (C * C) cri] (0, 0) _ (by exact X2.out) Try.underlying120 (by rfl) sizeR ?_) | (refine wpList_store_mid (by rfl) 120 (.tmp 2) (.tmp 26) (by rfl) (w.heap.size + 1) 0 #[.int .i64 R, .int .i64 R, .slice Al (R * R) cl, .int .i64 R, .int .i64 R, .slice Ali (R * R) cli, .int .i64 R, .int .i64 C, .slice (some ⟨gd, 0, none⟩) (R * C) (R * C), .int .i64 C, .int .i64 C, .slice Ar (C * C) cr, .int .i64 C, .int .i64 C, .slice Ari (C * C) cri] (by rfl) (by rfl) (by exact TT.out) sizeR (by simp [Value.oneCell']) ?_))
      refine bodyPost_ret (v := .tuple #[.agg #[.int .i64 R, .int .i64 R, .slice Al (R * R) cl, .int .i64 R, .int .i64 R, .slice Ali (R * R) cli, .int .i64 R, .int .i64 C, .slice (some ⟨gd, 0, none⟩) (R * C) (R * C), .int .i64 C, .int .i64 C, .slice Ar (C * C) cr, .int .i64 C, .int .i64 C, .slice Ari (C * C) cri], .int .i64 0]) (results_cell_tmp (cs := [.int .i64 R, .int .i64 R, .slice Al (R * R) cl, .int .i64 R, .int .i64 R, .slice Ali (R * R) cli, .int .i64 R, .int .i64 C, .slice (some ⟨gd, 0, none⟩) (R * C) (R * C), .int .i64 C, .int .i64 C, .slice Ar (C * C) cr, .int .i64 C, .int .i64 C, .slice Ari (C * C) cri]) Try.results103 _ _ (w.heap.size + 1) _ (by rfl) (World.rangeAt_setCells_same _ _ _ _ TT.out) Try.underlying120 rfl sizeR) rfl ?_
      rw [HS.out]
      have z0 : (V.setCells (w.heap.size + 1) 0 (#[.int .i64 R, .int .i64 R, .slice Al (R * R) cl, .int .i64 R, .int .i64 R, .slice Ali (R * R) cli, .int .i64 R, .int .i64 C, .slice (some ⟨gd, 0, none⟩) (R * C) (R * C), .int .i64 C, .int .i64 C, .slice Ar (C * C) cr, .int .i64 C, .int .i64 C, .slice Ari (C * C) cri]).toList).heap.size = V.heap.size := size_setCells _ _ _ _
      have el := G0.out.nl
      have eli := G0.out.nli
      have er := G0.out.nr
      have eri := G0.out.nri
      have ed := G0.out.nd
      exact ResR.mk el eli ed er eri (by omega) (by omega) (by omega) (by omega) (by rw [z0]; omega) ((Od.out.setCells (g := w.heap.size + 1) (by omega) _ 0).wide (by omega) (by omega)) (Ol.out.setCells (g := w.heap.size + 1) (by omega) _ 0) (Oli.out.setCells (g := w.heap.size + 1) (by omega) _ 0) (Or.out.setCells (g := w.heap.size + 1) (by omega) _ 0) ((Ori.out.setCells (g := w.heap.size + 1) (by omega) _ 0).wide (by omega) (by rw [z0]; omega)) (below_setCells (by omega) _ _ _ HB2.out)
    · have hR0 : 0 < R := by omega
      have hC0 : 0 < C := by omega
      obtain ⟨gl, _, el, _⟩ := Ol.out.at_ (Nat.mul_pos (by omega) (by omega))
      subst el
      obtain ⟨gli, _, eli, _⟩ := Oli.out.at_ (Nat.mul_pos (by omega) (by omega))
      subst eli
      obtain ⟨gr, _, er, _⟩ := Or.out.at_ (Nat.mul_pos (by omega) (by omega))
      subst er
      obtain ⟨gri, _, eri, _⟩ := Ori.out.at_ (Nat.mul_pos (by omega) (by omega))
      subst eri
      obtain ⟨L, hL⟩ : ∃ L : Lay, L = ⟨w1.heap.size, b1, b2, b3, b4, w2.heap.size, gd, gl, gli, gr, gri, R * C, cl, cli, cr, cri⟩ := ⟨_, rfl⟩
      have qb0 : L.b0 = w1.heap.size := by rw [hL]
      have qb1 : L.b1 = b1 := by rw [hL]
      have qb2 : L.b2 = b2 := by rw [hL]
      have qb3 : L.b3 = b3 := by rw [hL]
      have qb4 : L.b4 = b4 := by rw [hL]
      have qb5 : L.b5 = w2.heap.size := by rw [hL]
      have qgd : L.gd = gd := by rw [hL]
      have qgl : L.gl = gl := by rw [hL]
      have qgli : L.gli = gli := by rw [hL]
      have qgr : L.gr = gr := by rw [hL]
      have qgri : L.gri = gri := by rw [hL]
      have qcd : L.cd = R * C := by rw [hL]
      have qcl : L.cl = cl := by rw [hL]
      have qcli : L.cli = cli := by rw [hL]
      have qcr : L.cr = cr := by rw [hL]
      have qcri : L.cri = cri := by rw [hL]
      have F0 : Five L R C V (start R C zs) := by rw [hL]; exact ⟨Od.out, Ol.out, Oli.out, Or.out, Ori.out⟩
      have OK : L.Ok V := by rw [hL]; exact ⟨i0, i1, i2, i3, i4, by dsimp only; omega⟩
      have X3 := Lib.hid X2.out
      rw [← qgd, ← qgl, ← qgli, ← qgr, ← qgri] at X3
      rw [← qcl, ← qcli, ← qcr, ← qcri] at X3
      have HF0 := Lib.hid F0
      have HOK := Lib.hid OK
      have c5 : L.b5 ≤ w2.heap.size := by omega
      have c0 : w1.heap.size ≤ L.b0 := by omega
      have c0' : w.heap.size + 1 < L.b0 := by omega
      have QD := Lib.hid qcd
      have QB := Lib.hid (show L.b0 = w1.heap.size ∧ L.b5 = w2.heap.size from ⟨qb0, qb5⟩)
      have X4 : Row V w2.heap.size #[.int .i64 R, .int .i64 R, .slice (some ⟨L.gl, 0, none⟩) (R * R) L.cl, .int .i64 R, .int .i64 R, .slice (some ⟨L.gli, 0, none⟩) (R * R) L.cli, .int .i64 R, .int .i64 C, .slice (some ⟨L.gd, 0, none⟩) (R * C) L.cd, .int .i64 C, .int .i64 C, .slice (some ⟨L.gr, 0, none⟩) (C * C) L.cr, .int .i64 C, .int .i64 C, .slice (some ⟨L.gri, 0, none⟩) (C * C) L.cri] 120 := by rw [QD.out]; exact X3.out
      have HX := Lib.hid X4
      clear F0 OK qb0 qb1 qb2 qb3 qb4 qb5 qgd qgl qgli qgr qgri qcd qcl qcli qcr qcri hL X2 X3 X4 Od Ol Oli Or Ori
      have HRZ := Lib.hid (Kept.refl L.b0 L.b5 V)
      go_loopw [17, 5] (fun x _ wr => ∃ (k : Nat) (s : Sm.St), k ≤ R ∧ x = .int .i64 k ∧ Five L R C wr s ∧ Sm.Good R C s ∧ Sm.CK R C k s.d ∧ Kept L.b0 L.b5 V wr ∧ Sm.Outcome2 R C (R - k) k s o) (fun x _ _ => R - (intOf x).toNat)
      case atStart => exact ⟨0, _, Nat.zero_le _, rfl, HF0.out, G0.out, start_ck _ _ _, Kept.refl _ _ _, HO.out⟩
      case round =>
        obtain ⟨k, s, hk, rfl, hf, hg, hck, hkept, hout⟩ := hrel
        have F1 := Lib.hid hf
        have G1 := Lib.hid hg
        have C1 := Lib.hid hck
        have K1 := Lib.hid hkept
        have O1 := Lib.hid hout
        have z1 : V.heap.size ≤ wr.heap.size := hkept.size
        have OK1 := Lib.hid (HOK.out.more z1)
        have X1 := Lib.hid (HX.out.kept hkept (by omega))
        have T1 := Lib.hid (T2.out.kept hkept (by omega))
        clear hf hg hck hkept hout
        by_cases hlt : k < R
        · obtain ⟨d, hd⟩ : ∃ d, R - k = d + 1 := ⟨R - k - 1, by omega⟩
          have hout := O1.out
          rw [hd] at hout
          obtain ⟨nr, r, hruns, hres⟩ := hout
          have HRS := Lib.hid hres
          have hd2 : R - (k + 1) = d := by omega
          have HD2 := Lib.hid hd2
          have rr := Sm.runs_res (show k < R by omega) (show k < C by omega) nr s r G1.out C1.out hruns
          have RR := Lib.hid rr
          have RU := Lib.hid hruns
          clear hd hres hd2 rr hruns
          go_wp2_with (first | (refine wpList_load_row (by rfl) 120 (.tmp 4) (by rfl) w2.heap.size (by rfl) 120 #[.int .i64 R, .int .i64 R, .slice (some ⟨L.gl, 0, none⟩) (R * R) L.cl, .int .i64 R, .int .i64 R, .slice (some ⟨L.gli, 0, none⟩) (R * R) L.cli, .int .i64 R, .int .i64 C, .slice (some ⟨L.gd, 0, none⟩) (R * C) L.cd, .int .i64 C, .int .i64 C, .slice (some ⟨L.gr, 0, none⟩) (C * C) L.cr, .int .i64 C, .int .i64 C, .slice (some ⟨L.gri, 0, none⟩) (C * C) L.cri] (0, 0) _ (by exact X1.out) Try.underlying120 (by rfl) sizeR ?_))
          refine (settle_impl L R C k nr s r _ hR hC (by omega) (by omega) OK1.out F1.out G1.out C1.out RU.out).mono ?_
          intro e w4 h4
          rcases RR.out with rfl | ⟨t, rfl, gt, ct⟩ | ⟨t, rfl, gt, st⟩
          · obtain ⟨rfl, hk4⟩ := h4
            have hn : o = none := HRS.out
            have HNO := Lib.hid hn
            have K4 := Lib.hid (K1.out.trans hk4)
            have T4 := Lib.hid (T1.out.kept hk4 (by omega))
            have TT := Lib.hid (T4.out.there (n := 15) rfl)
            clear hk4 hn
            go_wp2_with (refine wpList_store_mid (by rfl) 120 (.tmp 2) (.tmp 24) (by rfl) (w.heap.size + 1) 0 #[.int .i64 0, .int .i64 0, .slice none 0 0, .int .i64 0, .int .i64 0, .slice none 0 0, .int .i64 0, .int .i64 0, .slice none 0 0, .int .i64 0, .int .i64 0, .slice none 0 0, .int .i64 0, .int .i64 0, .slice none 0 0] (by rfl) (by rfl) (by exact TT.out) sizeR (by simp [Value.oneCell']) ?_)
            refine bodyPost_ret (v := .tuple #[.agg #[.int .i64 0, .int .i64 0, .slice none 0 0, .int .i64 0, .int .i64 0, .slice none 0 0, .int .i64 0, .int .i64 0, .slice none 0 0, .int .i64 0, .int .i64 0, .slice none 0 0, .int .i64 0, .int .i64 0, .slice none 0 0], .int .i64 3]) (results_cell_tmp (cs := [.int .i64 0, .int .i64 0, .slice none 0 0, .int .i64 0, .int .i64 0, .slice none 0 0, .int .i64 0, .int .i64 0, .slice none 0 0, .int .i64 0, .int .i64 0, .slice none 0 0, .int .i64 0, .int .i64 0, .slice none 0 0]) Try.results103 _ _ (w.heap.size + 1) _ (by rfl) (World.rangeAt_setCells_same _ _ _ _ TT.out) Try.underlying120 rfl sizeR) rfl ?_
            rw [HNO.out]
            exact ResR.none_ (below_setCells (by omega) _ _ _ (HB2.out.trans (K4.out.below (by omega) (by omega))))
          · obtain ⟨rfl, hf4, hk4⟩ := h4
            have F4 := Lib.hid hf4
            have K4 := Lib.hid (K1.out.trans hk4)
            have G4 := Lib.hid gt
            have C4 := Lib.hid ct
            clear hf4 hk4 gt ct
            go_wp2
            go_roundw
            case rel => exact ⟨k + 1, t, by omega, by go_num, F4.out, G4.out, C4.out, K4.out, by rw [HD2.out]; exact HRS.out⟩
            case measure => simp [intOf]; omega
          · obtain ⟨rfl, hf4, hk4⟩ := h4
            have F4 := Lib.hid hf4
            have K4 := Lib.hid (K1.out.trans hk4)
            have G4 := Lib.hid gt
            have S4 := Lib.hid st
            have C4 := Lib.hid (all_ck hR hC (by omega) (by omega) C1.out G1.out RU.out)
            clear hf4 hk4 gt st
            go_wp2
            go_roundw
            case rel => exact ⟨k + 1, t, by omega, by go_num, F4.out, G4.out, C4.out, K4.out, by rw [HD2.out]; exact HRS.out⟩
            case measure => simp [intOf]; omega
        · obtain rfl : R = k := by omega
          have hs : o = some s := by have := O1.out; rw [Nat.sub_self] at this; exact this
          have HS := Lib.hid hs
          clear hs
          obtain ⟨j0, j1, j2, j3, j4, j5⟩ := OK1.out
          have TT := Lib.hid (T1.out.there (n := 15) rfl)
          go_wp2_with (first | (refine wpList_load_row (by rfl) 120 (.tmp 4) (by rfl) w2.heap.size (by rfl) 120 #[.int .i64 R, .int .i64 R, .slice (some ⟨L.gl, 0, none⟩) (R * R) L.cl, .int .i64 R, .int .i64 R, .slice (some ⟨L.gli, 0, none⟩) (R * R) L.cli, .int .i64 R, .int .i64 C, .slice (some ⟨L.gd, 0, none⟩) (R * C) L.cd, .int .i64 C, .int .i64 C, .slice (some ⟨L.gr, 0, none⟩) (C * C) L.cr, .int .i64 C, .int .i64 C, .slice (some ⟨L.gri, 0, none⟩) (C * C) L.cri] (0, 0) _ (by exact X1.out) Try.underlying120 (by rfl) sizeR ?_) | (refine wpList_store_mid (by rfl) 120 (.tmp 2) (.tmp 26) (by rfl) (w.heap.size + 1) 0 #[.int .i64 R, .int .i64 R, .slice (some ⟨L.gl, 0, none⟩) (R * R) L.cl, .int .i64 R, .int .i64 R, .slice (some ⟨L.gli, 0, none⟩) (R * R) L.cli, .int .i64 R, .int .i64 C, .slice (some ⟨L.gd, 0, none⟩) (R * C) L.cd, .int .i64 C, .int .i64 C, .slice (some ⟨L.gr, 0, none⟩) (C * C) L.cr, .int .i64 C, .int .i64 C, .slice (some ⟨L.gri, 0, none⟩) (C * C) L.cri] (by rfl) (by rfl) (by exact TT.out) sizeR (by simp [Value.oneCell']) ?_))
          refine bodyPost_ret (v := .tuple #[.agg #[.int .i64 R, .int .i64 R, .slice (some ⟨L.gl, 0, none⟩) (R * R) L.cl, .int .i64 R, .int .i64 R, .slice (some ⟨L.gli, 0, none⟩) (R * R) L.cli, .int .i64 R, .int .i64 C, .slice (some ⟨L.gd, 0, none⟩) (R * C) L.cd, .int .i64 C, .int .i64 C, .slice (some ⟨L.gr, 0, none⟩) (C * C) L.cr, .int .i64 C, .int .i64 C, .slice (some ⟨L.gri, 0, none⟩) (C * C) L.cri], .int .i64 0]) (results_cell_tmp (cs := [.int .i64 R, .int .i64 R, .slice (some ⟨L.gl, 0, none⟩) (R * R) L.cl, .int .i64 R, .int .i64 R, .slice (some ⟨L.gli, 0, none⟩) (R * R) L.cli, .int .i64 R, .int .i64 C, .slice (some ⟨L.gd, 0, none⟩) (R * C) L.cd, .int .i64 C, .int .i64 C, .slice (some ⟨L.gr, 0, none⟩) (C * C) L.cr, .int .i64 C, .int .i64 C, .slice (some ⟨L.gri, 0, none⟩) (C * C) L.cri]) Try.results103 _ _ (w.heap.size + 1) _ (by rfl) (World.rangeAt_setCells_same _ _ _ _ TT.out) Try.underlying120 rfl sizeR) rfl ?_
          rw [HS.out]
          have z0 : (wr.setCells (w.heap.size + 1) 0 (#[.int .i64 R, .int .i64 R, .slice (some ⟨L.gl, 0, none⟩) (R * R) L.cl, .int .i64 R, .int .i64 R, .slice (some ⟨L.gli, 0, none⟩) (R * R) L.cli, .int .i64 R, .int .i64 C, .slice (some ⟨L.gd, 0, none⟩) (R * C) L.cd, .int .i64 C, .int .i64 C, .slice (some ⟨L.gr, 0, none⟩) (C * C) L.cr, .int .i64 C, .int .i64 C, .slice (some ⟨L.gri, 0, none⟩) (C * C) L.cri]).toList).heap.size = wr.heap.size := size_setCells _ _ _ _
          have el := G1.out.nl
          have eli := G1.out.nli
          have ed := G1.out.nd
          have er := G1.out.nr
          have eri := G1.out.nri
          have qb := QB.out
          exact ResR.mk el eli ed er eri (by omega) (by omega) (by omega) (by omega) (by rw [z0]; omega) ((F1.out.d.setCells (g := w.heap.size + 1) (by omega) _ 0).wide (by omega) (by omega)) (F1.out.l.setCells (g := w.heap.size + 1) (by omega) _ 0) (F1.out.li.setCells (g := w.heap.size + 1) (by omega) _ 0) (F1.out.r.setCells (g := w.heap.size + 1) (by omega) _ 0) ((F1.out.ri.setCells (g := w.heap.size + 1) (by omega) _ 0).wide (by omega) (by rw [z0]; omega)) (below_setCells (by omega) _ _ _ (HB2.out.trans (K1.out.below (by omega) (by omega))))


end Go.Proofs.Ytpojkahlllochaa
