/- The law FnWords returns true for every code that is passed in and changes no memory that was there. No condition. -/
import Derived.Test.YtpojkahlllochaaLiftB
import Derived.Test.YtpojkahlllochaaWdF
namespace Go.Proofs.Ytpojkahlllochaa
open Go.ChangeShapes Go.WideShapes Go.ChangeAt Go.RowKit

theorem Wd.isW_rd {most : Int} {l : List Int} (h : isW most l = true) : isW most (rd l) = true := by
  obtain ⟨h1, h2⟩ := isW_fit h
  have h3 := (Fit.iff most l).1 h2
  have := rd_len l
  exact isW_yes (by omega) ((Fit.iff most _).2 fun x hx => h3 x (rd_mem l x hx))
theorem Wd.isW_inv {most : Int} {l : List Int} (h : isW most l = true) : isW most (inv l) = true := by
  obtain ⟨h1, h2⟩ := isW_fit h
  have h3 := (Fit.iff most l).1 h2
  exact isW_yes (by rw [inv_len]; exact h1) ((Fit.iff most _).2 fun x hx => by have := h3 _ (inv_mem hx); omega)
theorem Wd.rd_next {l : List Int} {k : Nat} (h : k + 1 < (rd l).length) : (rd l).getD (k + 1) 0 ≠ -((rd l).getD k 0) := by
  have hr := rd_red l
  have e := List.take_append_drop k (rd l)
  rw [List.drop_eq_getElem_cons (by omega), List.drop_eq_getElem_cons h] at e
  have := hr _ _ _ _ e.symm
  rw [List.getD_eq_getElem?_getD, List.getD_eq_getElem?_getD, List.getElem?_eq_getElem h, List.getElem?_eq_getElem (by omega : k < (rd l).length)]
  exact this
theorem Wd.own_lit1 (w : World) (z : Int) : Own (w.alloc (Obj.cells #[.int .i64 z] 2)) w.heap.size (w.heap.size + 1) (some ⟨w.heap.size, 0, none⟩) 1 1 [z] :=
  ⟨⟨rfl, .inr ⟨w.heap.size, 1, _, rfl, Nat.le_refl _, heap_alloc_new w _, Nat.le_refl _, by unfold maxLen; omega, rfl, rfl⟩⟩, fun a ha => by cases ha; exact Nat.lt_succ_self _⟩

set_option maxRecDepth 100000 in
set_option maxHeartbeats 16000000 in
theorem allWords (A : Option Addr) (n c : Nat) (bs : List Int) (w : World) (h : Bys w w.heap.size A n bs) :
    Calls Try.prog 3 #[.slice A n c] w fun e w' => e = .returned (.bool true) ∧ Below w.heap.size w w' := by
  by_cases hbig : n ≤ 4096
  case neg =>
    go_enter Try.func3, Try.ntmps3
    go_wp2_with fail
    refine (Wd.big_yes A n c _ hbig).mono ?_
    rintro e w' ⟨rfl, rfl⟩
    go_wp2
    go_ret
    exact ⟨rfl, Below.refl _ _⟩
  have H := Lib.hid h
  clear h
  go_enter Try.func3, Try.ntmps3
  go_wp2_with fail
  refine (Wd.big_no A n c _ hbig).mono ?_
  rintro e w' ⟨rfl, rfl⟩
  go_wp2_with fail
  refine (drawFree_spec A n c bs _ H.out (by omega)).mono ?_
  rintro e w1 ⟨R, t, m, zs, rfl, hm, h121, hsm, hb⟩
  have M1 := Lib.hid hm
  have SM := Lib.hid hsm
  have D1 := Lib.hid hb
  have ML := Lib.hid hm.1
  have z1 : w.heap.size ≤ w1.heap.size := hb.size
  clear hm hsm hb H
  go_wp2_with fail
  refine (free_impl R m t zs _ M1.out.ints (by omega)).mono ?_
  rintro e w2 ⟨R2, t2, rfl, _, hm, hb⟩
  have z2 : w1.heap.size ≤ w2.heap.size := hb.size
  have M2 := Lib.hid hm
  have N1 := Lib.hid (M1.out.below hb (Nat.le_refl _))
  have D2 := Lib.hid (D1.out.trans (hb.mono z1))
  clear hm hb M1 D1
  go_wp2_with fail
  refine (isWord_spec R m t zs _ _ N1.out.ints (by omega)).mono ?_
  rintro e w' ⟨rfl, rfl⟩
  rcases hw : Wd.isW 24 zs with _ | _
  · rw [Wd.ifW_no hw] at M2 ⊢
    have HW := Lib.hid hw
    clear hw
    go_wp2_with fail
    refine (invert_impl R m t zs _ (N1.out.ints.more (by omega)) (by omega)).mono ?_
    rintro e w3 ⟨R3, t3, rfl, _, hm, hb⟩
    rw [Wd.ifW_no HW.out]
    have D3 := Lib.hid (D2.out.trans (hb.mono (by omega)))
    clear hm hb
    go_wp2
    go_ret
    exact ⟨rfl, D3.out⟩
  have HW := Lib.hid hw
  rw [Wd.ifW_yes hw] at M2 ⊢
  clear hw
  have q1 := Wd.rd_len zs
  have q2 := ML.out
  obtain ⟨rl, hrl⟩ : ∃ rl, (Wd.rd zs).length = rl := ⟨_, rfl⟩
  rw [hrl] at M2 q1 ⊢
  have RL := Lib.hid hrl
  have r121 : rl ≤ 121 := by omega
  clear hrl q1 q2
  go_wp2
  go_loopw [5] (fun i W => ∃ k : Nat, 1 ≤ k ∧ k ≤ rl + 1 ∧ i = .int .i64 k ∧ Below w2.heap.size w2 W ∧ W.heap.size = w2.heap.size) (fun i _ => rl + 1 - (intOf i).toNat)
  case atStart => exact ⟨1, Nat.le_refl _, by omega, rfl, Below.refl _ _, rfl⟩
  case round =>
    obtain ⟨k, k1, hk, rfl, hbel, hsize⟩ := hrel
    have D := Lib.hid hbel
    have HS := Lib.hid hsize
    clear hbel hsize
    by_cases hlt : k < rl
    · obtain ⟨b, off, y, rfl, hb1, hb2, hy, hcy, _⟩ := (M2.out.below D.out (Nat.le_refl _)).at_ (k := k) hlt
      obtain ⟨b', off', x, e', _, _, hx, hcx, _⟩ := (M2.out.below D.out (Nat.le_refl _)).at_ (k := k - 1) (by omega)
      cases e'
      have hxb := SM.out.rd.at_ (k := k - 1) (by rw [RL.out]; omega)
      have hne := Wd.rd_next (l := zs) (k := k - 1) (by rw [RL.out]; omega)
      rw [show k - 1 + 1 = k by omega] at hne
      rw [hx] at hxb hne
      rw [hy] at hne
      obtain ⟨x1, x2⟩ := hxb
      have te : (y == -x) = false := by simpa using hne
      have i0 : (0 : Int) ≤ (k : Int) - 1 := by omega
      have i0' : (1 : Int) ≤ (k : Int) := by omega
      have i1 : ((k : Int) - 1).toNat = k - 1 := by omega
      have i2 : IntKind.i64.wrap ((k : Int) - 1) = (k : Int) - 1 := IntWalk.i64_in _ (by omega)
      have i3 : (k : Int) - 1 < (rl : Int) := by omega
      have i4 : (k : Int) < (rl : Int) := by omega
      have i5 : (0 : Int) ≤ (k : Int) := by omega
      have NX : IntKind.i64.wrap (-x) = -x := IntWalk.i64_in _ (by omega)
      clear hne hx hy
      go_wp2
      go_quiet (fail)
      all_goals
        go_wp2
        go_roundw
        case rel => exact ⟨k + 1, by omega, by omega, by go_num, D.out.trans (Go.Joins.below_draws _ _ _), HS.out⟩
        case measure => simp [intOf]; omega
    · have i4 : ¬ (k : Int) < (rl : Int) := by omega
      have z3 : w1.heap.size ≤ wr.heap.size := by rw [HS.out]; exact z2
      have D3 := Lib.hid (D2.out.trans (D.out.mono (by omega)))
      have N3 := Lib.hid (N1.out.below D.out z2)
      have M3 := Lib.hid ((M2.out.below D.out (Nat.le_refl _)).ints.more (Nat.le_of_eq HS.out.symm))
      obtain ⟨W, hW⟩ : ∃ W : World, wr = W := ⟨_, rfl⟩
      have ZW := Lib.hid hW
      rw [hW] at D3 N3 M3 z3
      clear i4 N1 M2 D2 D HS hW
      go_wp2_with fail
      rw [ZW.out]
      clear ZW
      refine (free_impl R2 rl t2 (Wd.rd zs) _ M3.out (by omega)).mono ?_
      rintro e w4 ⟨R4, t4, rfl, _, hm, hb⟩
      rw [Wd.ifW_yes (Wd.isW_rd HW.out), Wd.rd_rd, RL.out] at hm ⊢
      have z4 : W.heap.size ≤ w4.heap.size := hb.size
      have M4 := Lib.hid hm
      have M3' := Lib.hid (M3.out.below hb)
      have N4 := Lib.hid (N3.out.below hb (by omega))
      have D4 := Lib.hid (D3.out.trans (hb.mono (by omega)))
      clear hm hb M3 N3 D3
      as_aux_lemma =>
      go_wp2_with fail
      refine (Wd.likeInts_any R4 R2 rl t4 t2 (Wd.rd zs) _ _ _ M4.out.ints M3'.out (by omega)).mono ?_
      rintro e w5 ⟨rfl, hb⟩
      have z5 : w4.heap.size ≤ w5.heap.size := hb.size
      have N5 := Lib.hid (N4.out.below hb (by omega))
      have D5 := Lib.hid (D4.out.trans (hb.mono (by omega)))
      clear hb M4 M3' N4 D4
      go_wp2_with fail
      refine (invert_impl R m t zs _ (N5.out.ints.more (by omega)) (by omega)).mono ?_
      rintro e w6 ⟨R6, t6, rfl, _, hm, hb⟩
      rw [Wd.ifW_yes HW.out, Wd.inv_len, ML.out] at hm ⊢
      have z6 : w5.heap.size ≤ w6.heap.size := hb.size
      have M6 := Lib.hid hm
      have N6 := Lib.hid (N5.out.below hb (by omega))
      have D6 := Lib.hid (D5.out.trans (hb.mono (by omega)))
      clear hm hb N5 D5
      go_wp2_with fail
      refine (invert_impl R6 m t6 (Wd.inv zs) _ (M6.out.ints) (by omega)).mono ?_
      rintro e w7 ⟨R7, t7, rfl, _, hm, hb⟩
      rw [Wd.ifW_yes (Wd.isW_inv HW.out), Wd.inv_inv, ML.out] at hm ⊢
      have z7 : w6.heap.size ≤ w7.heap.size := hb.size
      have M7 := Lib.hid hm
      have N7 := Lib.hid (N6.out.below hb (by omega))
      have D7 := Lib.hid (D6.out.trans (hb.mono (by omega)))
      clear hm hb N6 D6 M6
      go_wp2_with fail
      refine (Wd.likeInts_any R7 R m t7 t zs _ _ _ M7.out.ints N7.out.ints (by omega)).mono ?_
      rintro e w8 ⟨rfl, hb⟩
      have z8 : w7.heap.size ≤ w8.heap.size := hb.size
      have N8 := Lib.hid (N7.out.below hb (by omega))
      have D8 := Lib.hid (D7.out.trans (hb.mono (by omega)))
      clear hb M7 N7 D7
      as_aux_lemma =>
      go_wp2_with (at_builtin; refine Wd.push_any rfl _ _ rfl w8.heap.size (w8.heap.size + 1) 0 w1.heap.size 0 m t (some ⟨w8.heap.size, 0, none⟩) R [] zs rfl (by exact Wd.own_nil w8) rfl (by exact N8.out.ints.below ((al1 w8 _).mono (by omega))) (by simp) (by simp) (by omega) ?_; intro A9 c9 w9 h5 h6; have O9 := Lib.hid (show Own w9 w8.heap.size w9.heap.size A9 m c9 zs from by simpa using h5); have N9 := Lib.hid ((N8.out.below (al1 w8 _) (by omega)).below (h6.below (B := w8.heap.size) (Nat.le_refl _) (by simp)) (by omega)); have D9 := Lib.hid ((D8.out.trans ((al1 w8 _).mono (by omega))).trans ((h6.below (B := w8.heap.size) (Nat.le_refl _) (by simp)).mono (by omega))); have z9 : w8.heap.size ≤ w9.heap.size := Nat.le_trans (by simp) h6.size; clear h5 h6)
      go_wp2_with fail
      refine (invert_impl R m t zs _ (N9.out.ints.more (by omega)) (by omega)).mono ?_
      rintro e w10 ⟨R10, t10, rfl, _, hm, hb⟩
      rw [Wd.ifW_yes HW.out, Wd.inv_len, ML.out] at hm ⊢
      have z10 : w9.heap.size ≤ w10.heap.size := hb.size
      have M10 := Lib.hid hm
      have O10 := Lib.hid (O9.out.below hb (Nat.le_refl _))
      have N10 := Lib.hid (N9.out.below hb (by omega))
      have D10 := Lib.hid (D9.out.trans (hb.mono (by omega)))
      clear hm hb N9 D9 O9
      go_wp2_with (at_builtin; refine Wd.push_any rfl _ _ rfl w8.heap.size w9.heap.size c9 w10.heap.size m m t10 A9 R10 zs (Wd.inv zs) rfl (by exact O10.out) rfl (by exact M10.out.ints) (by omega) z10 (by omega) ?_; intro A11 c11 w11 h5 h6; have O11 := Lib.hid h5; have z11 : w10.heap.size ≤ w11.heap.size := h6.size; have N11 := Lib.hid (N10.out.below (h6.below (B := w8.heap.size) (Nat.le_refl _) (by omega)) (by omega)); have D11 := Lib.hid (D10.out.trans ((h6.below (B := w8.heap.size) (Nat.le_refl _) (by omega)).mono (by omega))); clear h5 h6 M10 O10 N10 D10)
      go_wp2_with fail
      refine (isWord_spec A11 (m + m) c11 (zs ++ Wd.inv zs) _ _ O11.out.ints (by omega)).mono ?_
      rintro e w' ⟨rfl, rfl⟩
      rcases hc : Wd.isW 24 (zs ++ Wd.inv zs) with _ | _
      · clear hc
        go_wp2_with (first
          | (at_builtin; refine Wd.push_any rfl _ _ rfl w11.heap.size (w11.heap.size + 1) 1 w1.heap.size 1 m t (some ⟨w11.heap.size, 0, none⟩) R [1] zs rfl (by exact Wd.own_lit1 w11 1) rfl (by exact N11.out.ints.below ((al1 w11 _).mono (by omega))) (by simp) (by simp) (by omega) ?_; intro A14 c14 w14 h5 h6; have O14 := Lib.hid h5; have z14 : w11.heap.size ≤ w14.heap.size := Nat.le_trans (by simp) h6.size; have N14 := Lib.hid ((N11.out.below (al1 w11 _) (by omega)).below (h6.below (B := w11.heap.size) (Nat.le_refl _) (by simp)) (by omega)); have D14 := Lib.hid ((D11.out.trans ((al1 w11 _).mono (by omega))).trans ((h6.below (B := w11.heap.size) (Nat.le_refl _) (by simp)).mono (by omega))); clear h5 h6)
          | (at_builtin; refine Wd.push_int rfl _ _ rfl w11.heap.size w14.heap.size c14 w14.heap.size (1 + m) A14 _ (-1) rfl (by exact O14.out.below (al1 w14 _) (Nat.le_refl _)) rfl (by exact Wd.alloc_first _ _ _ _ rfl) (by simp; omega) (by omega) ?_; intro A15 c15 w15 h5 h6; have O15 := Lib.hid h5; have z15 : w14.heap.size ≤ w15.heap.size := Nat.le_trans (by simp) h6.size; have N15 := Lib.hid ((N14.out.below (al1 w14 _) (by omega)).below (h6.below (B := w11.heap.size) (Nat.le_refl _) (by simp; omega)) (by omega)); have D15 := Lib.hid ((D14.out.trans ((al1 w14 _).mono (by omega))).trans ((h6.below (B := w11.heap.size) (Nat.le_refl _) (by simp; omega)).mono (by omega))); clear h5 h6))
        have I15 := Lib.hid (show Ints w15 w15.heap.size A15 (1 + m + 1) (1 :: (zs ++ [-1])) from by have := O15.out.ints; simpa using this)
        clear O14 O15 N14 D14
        go_wp2_with fail
        refine (isWord_spec A15 (1 + m + 1) c15 (1 :: (zs ++ [-1])) _ _ I15.out (by omega)).mono ?_
        rintro e w' ⟨rfl, rfl⟩
        rcases hc : Wd.isW 24 (1 :: (zs ++ [-1])) with _ | _
        · clear hc
          go_wp2
          go_ret
          exact ⟨rfl, D15.out⟩
        · have HC := Lib.hid hc
          have CC := Lib.hid (Wd.cyc_conj 1 zs)
          clear hc
          go_wp2_with fail
          refine (cyclic_impl A15 (1 + m + 1) c15 (1 :: (zs ++ [-1])) _ I15.out (by omega)).mono ?_
          rintro e w16 ⟨R16, t16, rfl, _, hm, hb⟩
          rw [Wd.ifW_yes HC.out, CC.out]
          have z16 : w15.heap.size ≤ w16.heap.size := hb.size
          have N16 := Lib.hid (N15.out.below hb (by omega))
          have D16 := Lib.hid (D15.out.trans (hb.mono (by omega)))
          clear hm hb N15 D15
          go_wp2_with fail
          refine (cyclic_impl R m t zs _ (N16.out.ints.more (by omega)) (by omega)).mono ?_
          rintro e w17 ⟨R17, t17, rfl, _, hm, hb⟩
          rw [Wd.ifW_yes HW.out]
          have D17 := Lib.hid (D16.out.trans (hb.mono (by omega)))
          clear hm hb N16 D16
          go_wp2
          go_ret
          exact ⟨rfl, D17.out⟩
      · have HC := Lib.hid hc
        clear hc
        go_wp2_with fail
        refine (free_impl A11 (m + m) c11 (zs ++ Wd.inv zs) _ O11.out.ints (by omega)).mono ?_
        rintro e w12 ⟨R12, t12, rfl, _, hm, hb⟩
        rw [Wd.ifW_yes HC.out, Wd.rd_inv]
        have z12 : w11.heap.size ≤ w12.heap.size := hb.size
        have N12 := Lib.hid (N11.out.below hb (by omega))
        have D12 := Lib.hid (D11.out.trans (hb.mono (by omega)))
        clear hm hb N11 D11 O11 HC
        go_wp2_with (first
          | (at_builtin; refine Wd.push_any rfl _ _ rfl w12.heap.size (w12.heap.size + 1) 1 w1.heap.size 1 m t (some ⟨w12.heap.size, 0, none⟩) R [1] zs rfl (by exact Wd.own_lit1 w12 1) rfl (by exact N12.out.ints.below ((al1 w12 _).mono (by omega))) (by simp) (by simp) (by omega) ?_; intro A14 c14 w14 h5 h6; have O14 := Lib.hid h5; have z14 : w12.heap.size ≤ w14.heap.size := Nat.le_trans (by simp) h6.size; have N14 := Lib.hid ((N12.out.below (al1 w12 _) (by omega)).below (h6.below (B := w12.heap.size) (Nat.le_refl _) (by simp)) (by omega)); have D14 := Lib.hid ((D12.out.trans ((al1 w12 _).mono (by omega))).trans ((h6.below (B := w12.heap.size) (Nat.le_refl _) (by simp)).mono (by omega))); clear h5 h6)
          | (at_builtin; refine Wd.push_int rfl _ _ rfl w12.heap.size w14.heap.size c14 w14.heap.size (1 + m) A14 _ (-1) rfl (by exact O14.out.below (al1 w14 _) (Nat.le_refl _)) rfl (by exact Wd.alloc_first _ _ _ _ rfl) (by simp; omega) (by omega) ?_; intro A15 c15 w15 h5 h6; have O15 := Lib.hid h5; have z15 : w14.heap.size ≤ w15.heap.size := Nat.le_trans (by simp) h6.size; have N15 := Lib.hid ((N14.out.below (al1 w14 _) (by omega)).below (h6.below (B := w12.heap.size) (Nat.le_refl _) (by simp; omega)) (by omega)); have D15 := Lib.hid ((D14.out.trans ((al1 w14 _).mono (by omega))).trans ((h6.below (B := w12.heap.size) (Nat.le_refl _) (by simp; omega)).mono (by omega))); clear h5 h6))
        have I15 := Lib.hid (show Ints w15 w15.heap.size A15 (1 + m + 1) (1 :: (zs ++ [-1])) from by have := O15.out.ints; simpa using this)
        clear O14 O15 N14 D14
        go_wp2_with fail
        refine (isWord_spec A15 (1 + m + 1) c15 (1 :: (zs ++ [-1])) _ _ I15.out (by omega)).mono ?_
        rintro e w' ⟨rfl, rfl⟩
        rcases hc : Wd.isW 24 (1 :: (zs ++ [-1])) with _ | _
        · clear hc
          go_wp2
          go_ret
          exact ⟨rfl, D15.out⟩
        · have HC := Lib.hid hc
          have CC := Lib.hid (Wd.cyc_conj 1 zs)
          clear hc
          go_wp2_with fail
          refine (cyclic_impl A15 (1 + m + 1) c15 (1 :: (zs ++ [-1])) _ I15.out (by omega)).mono ?_
          rintro e w16 ⟨R16, t16, rfl, _, hm, hb⟩
          rw [Wd.ifW_yes HC.out, CC.out]
          have z16 : w15.heap.size ≤ w16.heap.size := hb.size
          have N16 := Lib.hid (N15.out.below hb (by omega))
          have D16 := Lib.hid (D15.out.trans (hb.mono (by omega)))
          clear hm hb N15 D15
          go_wp2_with fail
          refine (cyclic_impl R m t zs _ (N16.out.ints.more (by omega)) (by omega)).mono ?_
          rintro e w17 ⟨R17, t17, rfl, _, hm, hb⟩
          rw [Wd.ifW_yes HW.out]
          have D17 := Lib.hid (D16.out.trans (hb.mono (by omega)))
          clear hm hb N16 D16
          go_wp2
          go_ret
          exact ⟨rfl, D17.out⟩

set_option maxRecDepth 100000 in
theorem words_lifted (os : Os) (started : os.Started) (H : Type) (enc : TypeId × Value → H) :
    ReturnsInHanded {} Try.checked os 3 .any (Rows.fnWordsSpec.pre6 enc Try.prog Try.f3 Rows.fnWordsRow.domain false) (Rows.fnWordsSpec.post enc Try.prog Try.f3 false true false false) := by
  refine returnsInHanded_of_change (C := Try.checked) own started (by kernel_rfl) Try.func3
    (ChangeSpec.witness6 (enc := enc) (C := Try.checked) false ⟨#[], #[.slice none 0 0], []⟩ 8 (by kernel_rfl) (by kernel_rfl) (by kernel_rfl) (by kernel_rfl)) ?_
  intro W base args ds gs before hval0 hW _ _
  have hval : ∀ (j : Nat) t v, Try.f3.params[j]? = some t → args[j]? = some v → Value.okWide Try.prog W .any base t v := hval0
  have hW' := hW
  obtain ⟨p, q, hA0, hV, rfl, hfz, hnd⟩ := hW
  have hA : DataW.TrodAll enc Try.prog W 0 (fun _ => true) true Try.f3.params.toList args.toList ds p := hA0
  rw [Try.params3] at hA hval
  obtain ⟨v0, vs0, d0, ds0, p0, q0, hargs, rfl, rfl, h0, r0⟩ := trodAll_cons hA
  obtain ⟨rfl, rfl, rfl⟩ := trodAll_nil r0
  obtain rfl : args = #[v0] := by cases args; simp_all
  obtain ⟨rfl, rfl⟩ := trodVars_none hV
  have k0_ := h0
  have lt0 : ∀ x ∈ p0, x.block < W.heap.size := by obtain ⟨m, hm⟩ := k0_; exact DataW.trod_lt m _ _ _ hm
  obtain ⟨A0, n0, c0, bs0, rfl, hi0⟩ := openB (hval 0 22 v0 rfl rfl) h0
  clear hA0 hval0
  refine (allWords A0 n0 c0 bs0 W hi0).mono fun e W' ⟨he, bel⟩ => ?_
  subst he
  exact ⟨_, rfl, _, _, _, [], _, [], hW', trodAll_mk1 (shut_bool Try.underlying4 _), (trodAll_cons_mk (Below.trod laidOut (by kernel_rfl) (of_decide_eq_true (by kernel_rfl)) k0_ bel lt0) trodAll_mk0), rfl, bel.frame _, fun h => by cases h⟩

theorem words_holds : Rows.FnWordsSaid :=
  OpenClaim.holds_of_wide 3 Try.f3 rfl rfl rfl rfl rfl rfl rfl ⟨rfl, rfl, rfl, rfl, rfl⟩ rfl rfl rfl rfl rfl (by kernel_rfl) Try.func3 (by kernel_rfl)
    (of_decide_eq_true (by kernel_rfl)) (by unfold Func.isWrapper; first | (rw [if_pos (by decide +kernel)]; kernel_rfl) | (rw [if_neg (by decide +kernel)]; exact ⟨rfl, rfl⟩))
    (fun os started H enc _ => words_lifted os started H enc)

#print axioms words_holds

end Go.Proofs.Ytpojkahlllochaa
