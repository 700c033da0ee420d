/- The program's readMatrix and ParseMatrix. No condition but those that each theorem names. -/
import Derived.Test.YtboanggdehceaaaDoorPrsC
import Derived.Test.YtboanggdehceaaaDoorPrsE
import Derived.Test.YtboanggdehceaaaDoorMatH
import Derived.Laws.AppendOwn
import Derived.Laws.OwnMore
namespace Go.Proofs.YtboanggdehceaaaDoor
open Go.RowKit

theorem Kept.of_grownH {w w' : World} {v : Value} {lo hi : Nat} (hg : w.grownBy w' v.ownBlock) (hlo : ∀ k, v.ownBlock = some k → lo ≤ k ∧ k < hi) : Kept lo hi w w' :=
  ⟨hg.os, hg.tape, hg.output, hg.size, fun k hk hn => hg.block k hk (fun e => by have := hlo k e.symm; omega)⟩
/-- A number is appended to a list of the call's own. -/
theorem wpList_push_int {w : World} {ops : Array Oper} {rest : List Oper} {o : Oper} {a : Act} {Q : Exit → Act → World → Prop} (hgd : o.guard = none) (s x : Operand) (ho : o.op = .call { callee := .builtin .append, args := #[s, x], argTypes := #[24, 24] })
    (lo hi c g : Nat) (A : Option Addr) (l : List Int) (z : Int) (hs : a.eval s = .slice A l.length c) (hown : Own w lo hi A l.length c l) (hx : a.eval x = .slice (some ⟨g, 0, none⟩) 1 1) (hc : w.cell? ⟨g, 0, none⟩ = some (.int .i64 z)) (hlo : lo ≤ w.heap.size) (hlen : l.length ≤ 1048576)
    (h : ∀ A' c' w', Own w' lo w'.heap.size A' (l.length + 1) c' (l ++ [z]) → Kept lo hi w w' → wpList Tryd.prog ops Q rest (a.put o.dst (.slice A' (l.length + 1) c')) w') : wpList Tryd.prog ops Q (o :: rest) a w := by
  obtain ⟨ti, hi0, hz0, hz1, hz2⟩ := info_parts info2
  refine wpList_append_own w hgd s x 24 ho lo 2 ti _ 1 8 Tryd.underlying24 hi0 hz0 hz1 hz2 rfl (by decide) (.slice A l.length c) l.length (l.map (Value.int .i64)) hs hown.1 ⟨g, 0, none⟩ 1 1 [.int .i64 z] hx rfl
    (by intro j u hj; cases j with | zero => (simp at hj; subst hj; simpa [Addr.add] using hc) | succ j => simp at hj) (by intro u hu; simp at hu; subst hu; rfl) (by unfold maxLen; omega) (by omega) hlo ?_
  intro v' w' h1 hg _
  have hk : Kept lo hi w w' := Kept.of_grownH hg fun k hk => ⟨(hown.1.lt k hk).1, by
    cases A with
    | none => simp [Value.ownBlock] at hk
    | some p =>
      have h2 := hown.2 p rfl
      simp [Value.ownBlock] at hk
      omega⟩
  obtain ⟨g', cap, rfl, _⟩ := h1.form (by omega)
  have hlt : g' < w'.heap.size := (World.ownsRow.lt h1 g' rfl).2
  refine h (some ⟨g', 0, none⟩) cap w' ⟨?_, fun a ha => by cases ha; exact hlt⟩ hk
  rw [List.map_append]
  exact h1

theorem Free.setP {w : World} {g : Nat} (h : Free w g) (p : Addr) (u : Value) : Free (w.setCell p u) g := fun o => by
  have := h o
  simp [this, go_sem]
theorem Box3.far {W : World} {b : Nat} {x y z : Value} (h : Box3 W b x y z) {p : Addr} (hp : b ≠ p.block) (u : Value) : Box3 (W.setCell p u) b x y z :=
  ⟨by rw [World.cell?_setCell_other W _ _ _ (fun e => hp (by rw [e]))]; exact h.1, by rw [World.cell?_setCell_other W _ _ _ (fun e => hp (by rw [e]))]; exact h.2.1, by rw [World.cell?_setCell_other W _ _ _ (fun e => hp (by rw [e]))]; exact h.2.2⟩
theorem Box3.set2 {W : World} {b : Nat} {x y z u : Value} (h : Box3 W b x y z) : Box3 (W.setCell ⟨b, 2, none⟩ u) b x y u := ⟨by simp [h.1, go_sem], by simp [h.2.1, go_sem], by simp [h.2.2, go_sem]⟩
/-- How long a text is. -/
def strLen (v : Value) : Nat := match v with | .string s => s.size | _ => 0
/-- What is read off a text: the parts of the matrix whose text it is. -/
def ReadR (w : World) (l : List UInt8) (e : Ending) (w' : World) : Prop :=
  ((∃ r c es A cap, Prs.Txt l r c es ∧ e = .returned (.tuple #[.agg #[.int .i64 r, .int .i64 c, .slice A es.length cap], .bool true]) ∧ Own w' w.heap.size w'.heap.size A es.length cap es) ∨
   ((¬ ∃ r c es, Prs.Txt l r c es) ∧ e = .returned (.tuple #[.agg #[.int .i64 0, .int .i64 0, .slice none 0 0], .bool false]))) ∧ Below w.heap.size w w'
/-- The state in which a matrix is read: the result's box, the matrix' box, its list. -/
structure RSt (w : World) (pb : Nat) (l : List UInt8) (r c : Int) (es : List Int) (t : List UInt8) (W : World) : Prop where
  rd : Prs.Read l r c es t
  own : ∃ A cap, Own W (pb + 1) W.heap.size A es.length cap es ∧ Box3 W pb (.int .i64 r) (.int .i64 c) (.slice A es.length cap)
  fr : Free W pb
  box : Box3 W w.heap.size (.int .i64 0) (.int .i64 0) (.slice none 0 0)
  free : Free W w.heap.size
  bel : Below w.heap.size w W
  lt : w.heap.size < pb
  lt2 : pb < W.heap.size

theorem neq_b {x b : UInt8} (h : x ≠ b) : ((x.toNat : Int) != (b.toNat : Int)) = true := by
  have := toNat_ne h
  simp only [bne, this]
  rfl
theorem eq_b {x b : UInt8} (h : x = b) : ((x.toNat : Int) != (b.toNat : Int)) = false := by subst h; simp
theorem RSt.below_ {w W w' : World} {pb : Nat} {l : List UInt8} {r c : Int} {es : List Int} {t : List UInt8} (h : RSt w pb l r c es t W) (hb : Below W.heap.size W w') : RSt w pb l r c es t w' := by
  obtain ⟨h1, ⟨A, cap, h2, h3⟩, h4, h5, h6, h7, h8, h9⟩ := h
  exact ⟨h1, ⟨A, cap, (h2.below hb (Nat.le_refl _)).wide (Nat.le_refl _) hb.size, h3.below hb h9⟩, h4.below hb h9, h5.below hb (by omega), h6.below hb (by omega), h7.trans (hb.mono h7.size), h8, Nat.lt_of_lt_of_le h9 hb.size⟩
theorem RSt.push {w W w7 : World} {pb : Nat} {l : List UInt8} {r c e : Int} {es : List Int} {t rest : List UInt8} {o : Obj} {A : Option Addr} {cap : Nat} (h : RSt w pb l r c es (32 :: t) W) (hc : Prs.Cut t e rest)
    (hk : Kept (pb + 1) W.heap.size (W.alloc o) w7) (ho : Own w7 (pb + 1) w7.heap.size A (es.length + 1) cap (es ++ [e])) : RSt w pb l r c (es ++ [e]) rest (w7.setCell ⟨pb, 2, none⟩ (.slice A (es.length + 1) cap)) := by
  obtain ⟨h1, ⟨A0, cap0, h2, h3⟩, h4, h5, h6, h7, h8, h9⟩ := h
  have ha := al1 W o
  have h0 : pb < (W.alloc o).heap.size := by simp; omega
  refine ⟨h1.more hc, ⟨A, cap, ?_, ?_⟩, ((h4.below ha h9).kept hk h0 (by omega)).setP _ _, ((h5.below ha (by omega)).kept hk (by simp; omega) (by omega)).far (by dsimp only; omega) _, ((h6.below ha (by omega)).kept hk (by simp; omega) (by omega)).setP _ _, ?_, h8, ?_⟩
  · rw [show (es ++ [e]).length = es.length + 1 by simp]
    exact (ho.far (p := ⟨pb, 2, none⟩) (.inl (by dsimp only; omega)) _).wide (Nat.le_refl _) (by simp [World.setCell])
  · rw [show (es ++ [e]).length = es.length + 1 by simp]
    exact ((h3.below ha h9).kept hk h0 (by omega)).set2
  · exact ((h7.trans (ha.mono h7.size)).trans (hk.below (by omega) (by simp; have := h7.size; omega))).setCell (by dsimp only; omega) _
  · have := hk.size
    simp [World.setCell] at this ⊢
    omega
set_option maxRecDepth 100000 in
set_option maxHeartbeats 16000000 in
theorem read_impl (l : List UInt8) (w : World) (hl : l.length ≤ 1048576) : Calls Tryd.prog 26 #[.string ⟨l.toArray⟩] w (ReadR w l) := by
  have K := Lib.hid (Box3.new w 26 (.int .i64 0) (.int .i64 0) (.slice none 0 0))
  have F := Lib.hid (Free.new w 26 #[.int .i64 0, .int .i64 0, .slice none 0 0])
  have D := Lib.hid (al1 w (Obj.cells #[.int .i64 0, .int .i64 0, .slice none 0 0] 26))
  go_enter Tryd.func26, Tryd.ntmps26
  go_wp2_with fail
  refine (cut_impl l _ hl).mono ?_
  rintro e w1 ⟨hc, hb⟩
  have s1 : w.heap.size < w1.heap.size := by have := hb.size; simp at this; omega
  have s0 : w.heap.size < (w.alloc (Obj.cells #[.int .i64 0, .int .i64 0, .slice none 0 0] 26)).heap.size := by simp
  have K_ := Lib.hid (K.out.below hb (by omega))
  have F_ := Lib.hid (F.out.below hb (by omega))
  have D_ := Lib.hid (D.out.trans (hb.mono D.out.size))
  clear K F D
  have K := K_
  have F := F_
  have D := D_
  clear K_ F_ D_
  clear hb
  rcases hc with ⟨r, rest, hcut, rfl⟩ | ⟨hno, rfl⟩
  case inr =>
    have NO := Lib.hid (Prs.no_first hno)
    clear hno
    obtain ⟨z0, z1, z2⟩ := K.out
    have zf := F.out
    unfold Free at zf
    go_wp2
    exact bodyPost_ret (v := .tuple #[.agg #[.int .i64 0, .int .i64 0, .slice none 0 0], .bool false]) (by simp [results, Tryd.results26, z0, z1, z2, go_sem]) rfl ⟨.inr ⟨NO.out, rfl⟩, ((D.out.setCell (by simp) _).setCell (by simp) _).setCell (by simp) _⟩
  have C1 := Lib.hid hcut
  have l1 : rest.length ≤ 1048576 := by have := congrArg List.length hcut.1; simp at this; omega
  clear hcut
  go_wp2_with fail
  refine (prefix_one rest 120 _ l1).mono ?_
  rintro e w2 ⟨rfl, rfl⟩
  by_cases hx : (rest.head? == some 120) = true
  case neg =>
    have hx' : (rest.head? == some 120) = false := by simpa using hx
    rw [hx']
    have NO := Lib.hid (Prs.no_x C1.out hx')
    clear hx hx'
    obtain ⟨z0, z1, z2⟩ := K.out
    have zf := F.out
    unfold Free at zf
    go_wp2
    exact bodyPost_ret (v := .tuple #[.agg #[.int .i64 0, .int .i64 0, .slice none 0 0], .bool false]) (by simp [results, Tryd.results26, z0, z1, z2, go_sem]) rfl ⟨.inr ⟨NO.out, rfl⟩, ((D.out.setCell (by simp) _).setCell (by simp) _).setCell (by simp) _⟩
  rw [hx]
  obtain ⟨t1, ht1⟩ : ∃ t1, rest = 120 :: t1 := by
    cases rest with
    | nil => simp at hx
    | cons b t => simp at hx; subst hx; exact ⟨t, rfl⟩
  clear hx
  have ex := drop_text rest 1
  rw [show rest.drop 1 = t1 by rw [ht1]; rfl] at ex
  have lx : (1 : Int) ≤ (rest.length : Int) := by rw [ht1]; simp; omega
  have l2 : t1.length ≤ 1048576 := by rw [ht1] at l1; simp at l1; omega
  have C1b := Lib.hid (show Prs.Cut l r (120 :: t1) by rw [← ht1]; exact C1.out)
  clear C1 ht1
  have C1 := C1b
  clear C1b
  go_wp2_with fail
  refine (cut_impl t1 _ l2).mono ?_
  rintro e w3 ⟨hc, hb⟩
  have s3 : w.heap.size < w3.heap.size := by have := hb.size; omega
  have K_ := Lib.hid (K.out.below hb (by omega))
  have F_ := Lib.hid (F.out.below hb (by omega))
  have D_ := Lib.hid (D.out.trans (hb.mono D.out.size))
  clear K F D
  have K := K_
  have F := F_
  have D := D_
  clear K_ F_ D_
  clear hb ex lx
  rcases hc with ⟨c, rest2, hcut, rfl⟩ | ⟨hno, rfl⟩
  case inr =>
    have NO := Lib.hid (Prs.no_second C1.out hno)
    clear hno
    obtain ⟨z0, z1, z2⟩ := K.out
    have zf := F.out
    unfold Free at zf
    go_wp2
    exact bodyPost_ret (v := .tuple #[.agg #[.int .i64 0, .int .i64 0, .slice none 0 0], .bool false]) (by simp [results, Tryd.results26, z0, z1, z2, go_sem]) rfl ⟨.inr ⟨NO.out, rfl⟩, ((D.out.setCell (by simp) _).setCell (by simp) _).setCell (by simp) _⟩
  have C2 := Lib.hid hcut
  have l3 : rest2.length ≤ 1048576 := by have := congrArg List.length hcut.1; simp at this; omega
  clear hcut
  go_wp2_with fail
  refine (prefix_one rest2 58 _ l3).mono ?_
  rintro e w4 ⟨rfl, rfl⟩
  by_cases hx : (rest2.head? == some 58) = true
  case neg =>
    have hx' : (rest2.head? == some 58) = false := by simpa using hx
    rw [hx']
    have NO := Lib.hid (Prs.no_colon C1.out C2.out hx')
    clear hx hx'
    obtain ⟨z0, z1, z2⟩ := K.out
    have zf := F.out
    unfold Free at zf
    go_wp2
    exact bodyPost_ret (v := .tuple #[.agg #[.int .i64 0, .int .i64 0, .slice none 0 0], .bool false]) (by simp [results, Tryd.results26, z0, z1, z2, go_sem]) rfl ⟨.inr ⟨NO.out, rfl⟩, ((D.out.setCell (by simp) _).setCell (by simp) _).setCell (by simp) _⟩
  rw [hx]
  obtain ⟨t2, ht2⟩ : ∃ t2, rest2 = 58 :: t2 := by
    cases rest2 with
    | nil => simp at hx
    | cons b t => simp at hx; subst hx; exact ⟨t, rfl⟩
  clear hx
  have ex := drop_text rest2 1
  rw [show rest2.drop 1 = t2 by rw [ht2]; rfl] at ex
  have lx : (1 : Int) ≤ (rest2.length : Int) := by rw [ht2]; simp; omega
  have C2b := Lib.hid (show Prs.Cut t1 c (58 :: t2) by rw [← ht2]; exact C2.out)
  clear C2 ht2
  have C2 := C2b
  clear C2b
  obtain ⟨pb, hpb⟩ : ∃ pb, w3.heap.size = pb := ⟨_, rfl⟩
  have R0 := Lib.hid (show RSt w pb l r c [] t2 (w3.alloc (Obj.cells #[.int .i64 r, .int .i64 c, .slice none 0 0] 26)) from
    ⟨Prs.begun C1.out C2.out, ⟨none, 0, Own.none_ _ _ _, by rw [← hpb]; exact Box3.new w3 _ _ _ _⟩, by rw [← hpb]; exact Free.new w3 _ _, K.out.below (al1 w3 _) s3, F.out.below (al1 w3 _) s3, D.out.trans ((al1 w3 _).mono D.out.size), by omega, by simp; omega⟩)
  clear K F D C1 C2 l1 l2 l3 s0 s1
  go_wp2_with fail
  go_loopw [0] (fun y W => ∃ (es : List Int) (t : List UInt8), y = .string ⟨t.toArray⟩ ∧ RSt w pb l r c es t W) (fun y _ => strLen y)
  case atStart => exact ⟨[], t2, rfl, R0.out⟩
  case round =>
    obtain ⟨es, t, rfl, hst⟩ := hrel
    have S := Lib.hid hst
    have ln := hst.rd.len
    obtain ⟨-, ⟨A, cap, ho, q0, q1, q2⟩, hfr, hbox, hfree, hbel, h1, h2⟩ := hst
    have O := Lib.hid ho
    have FP := Lib.hid hfr
    have K := Lib.hid hbox
    have F := Lib.hid hfree
    have D := Lib.hid hbel
    clear ho hfr hbox hfree hbel ex lx R0
    cases t with
    | nil =>
      have TX := Lib.hid S.out.rd.fin
      have O2 := Lib.hid (O.out.wide (show w.heap.size ≤ pb + 1 by omega) (Nat.le_refl _))
      obtain ⟨z0, z1, z2⟩ := K.out
      have zf := F.out
      unfold Free at zf
      have nb : ¬ pb = w.heap.size := by omega
      have nb' : ¬ w.heap.size = pb := by omega
      go_wp2
      refine bodyPost_ret (v := .tuple #[.agg #[.int .i64 r, .int .i64 c, .slice A es.length cap], .bool true]) (by simp [results, Tryd.results26, z0, z1, z2, go_sem]) rfl ⟨.inl ⟨r, c, es, A, cap, TX.out, rfl, ?_⟩, ((D.out.setCell (by simp) _).setCell (by simp) _).setCell (by simp) _⟩
      exact (((O.out.far (p := ⟨w.heap.size, 0, none⟩) (.inl (by dsimp only; omega)) _).far (p := ⟨w.heap.size, 1, none⟩) (.inl (by dsimp only; omega)) _).far (p := ⟨w.heap.size, 2, none⟩) (.inl (by dsimp only; omega)) _).wide (by omega) (by simp [World.setCell])
    | cons x t =>
      obtain ⟨U, hU⟩ : ∃ U, x :: t = U := ⟨_, rfl⟩
      have ex := drop_text U 1
      rw [show U.drop 1 = t by rw [← hU]; rfl] at ex
      have lx : (1 : Int) ≤ (U.length : Int) := by rw [← hU]; simp; omega
      have lx0 : 0 < U.length := by rw [← hU]; simp
      have b0 := byte_at U lx0
      rw [show U.getD 0 0 = x by rw [← hU]; rfl] at b0
      have em : U.isEmpty = false := by rw [← hU]; rfl
      have em2 : (!U.isEmpty) = true := by rw [← hU]; rfl
      have lt : t.length ≤ 1048576 := by simp at ln; omega
      have le : es.length ≤ 1048576 := by simp at ln; omega
      have LU := Lib.hid (show U.length = t.length + 1 by rw [← hU]; rfl)
      rw [hU]
      have HU := Lib.hid hU
      clear hU ln
      by_cases hx : x = 32
      case neg =>
        have NO := Lib.hid (S.out.rd.bad_head hx)
        have tx : ((x.toNat : Int) != 32) = true := neq_b hx
        obtain ⟨z0, z1, z2⟩ := K.out
        have zf := F.out
        unfold Free at zf
        clear hx
        go_wp2
        exact bodyPost_ret (v := .tuple #[.agg #[.int .i64 0, .int .i64 0, .slice none 0 0], .bool false]) (by simp [results, Tryd.results26, z0, z1, z2, go_sem]) rfl ⟨.inr ⟨NO.out, rfl⟩, ((D.out.setCell (by simp) _).setCell (by simp) _).setCell (by simp) _⟩
      have tx : ((x.toNat : Int) != 32) = false := eq_b hx
      have S1 := Lib.hid (show RSt w pb l r c es (32 :: t) wr by rw [← hx]; exact S.out)
      clear hx S K F D O FP q0 q1 q2
      go_wp2_with fail
      refine (cut_impl t _ lt).mono ?_
      rintro e w6 ⟨hc, hb⟩
      have S6 := Lib.hid (S1.out.below_ hb)
      clear hb ex b0 tx em em2 lx
      rcases hc with ⟨v, rest, hcut, rfl⟩ | ⟨hno, rfl⟩
      case inr =>
        have NO := Lib.hid (S6.out.rd.bad_cut hno)
        clear hno
        have K := Lib.hid S6.out.box
        have F := Lib.hid S6.out.free
        have D := Lib.hid S6.out.bel
        obtain ⟨z0, z1, z2⟩ := K.out
        have zf := F.out
        unfold Free at zf
        go_wp2
        exact bodyPost_ret (v := .tuple #[.agg #[.int .i64 0, .int .i64 0, .slice none 0 0], .bool false]) (by simp [results, Tryd.results26, z0, z1, z2, go_sem]) rfl ⟨.inr ⟨NO.out, rfl⟩, ((D.out.setCell (by simp) _).setCell (by simp) _).setCell (by simp) _⟩
      have HC := Lib.hid hcut
      clear hcut
      obtain ⟨A6, cap6, ho6, hq6⟩ := S6.out.own
      have O6 := Lib.hid ho6
      have Q6 := Lib.hid hq6
      have FR6 := Lib.hid S6.out.fr
      have l62 := S6.out.lt2
      clear ho6 hq6
      obtain ⟨y0, y1, y2⟩ := (Q6.out.below (al1 w6 (Obj.cells #[.int .i64 v] 2)) l62)
      obtain ⟨u0, u1, u2⟩ := Q6.out
      go_wp2_with (at_builtin; refine wpList_push_int rfl _ _ rfl (pb + 1) w6.heap.size cap6 w6.heap.size A6 es v rfl (O6.out.al (Nat.le_refl _) (al1 w6 _)) rfl (by exact alloc_first _ _ _ _ rfl) (by simp; omega) le ?_; intro A7 c7 w7 h5 h6; have O7 := Lib.hid h5; have K7 := Lib.hid h6; have P7 := Lib.hid ((Q6.out.below (al1 w6 _) l62).kept h6 (by simp; omega) (by omega)); have F7 := Lib.hid ((FR6.out.below (al1 w6 _) l62).kept h6 (by simp; omega) (by omega)); clear h5 h6 y0 y1 y2 u0 u1 u2; obtain ⟨y0, y1, y2⟩ := P7.out; have yf := F7.out; unfold Free at yf)
      go_roundw
      case rel => exact ⟨es ++ [v], rest, rfl, S6.out.push HC.out K7.out O7.out⟩
      case measure =>
        have h1 := LU.out
        have h2 := congrArg List.length HC.out.1
        simp at h2
        simp [strLen, ByteArray.size]
        omega
end Go.Proofs.YtboanggdehceaaaDoor
