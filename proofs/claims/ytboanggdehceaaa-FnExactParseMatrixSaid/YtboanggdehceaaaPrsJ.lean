/- The specification's ParseMatrix. No condition but those that each theorem names. -/
import Derived.Test.YtboanggdehceaaaPrsF
import Derived.Test.YtboanggdehceaaaPrsI
namespace Go.Proofs.Ytboanggdehceaaa
open Go.RowKit

/-- The state of the loop that reads the words. -/
structure QSt (w : World) (pb g : Nat) (ws : List (List UInt8)) (r c : Int) (es : List Int) (W : World) : Prop where
  own : ∃ A cap, Own W (pb + 1) W.heap.size A es.length cap es ∧ Box3 W pb (.int .i64 r) (.int .i64 c) (.slice A es.length cap)
  fr : Free W pb
  box : Box3 W w.heap.size (.int .i64 0) (.int .i64 0) (.slice none 0 0)
  free : Free W w.heap.size
  bel : Below w.heap.size w W
  lt : w.heap.size < pb
  lt2 : pb < W.heap.size
  str : Strs W g ws
  gl : g < pb
theorem QSt.below_ {w W w' : World} {pb g : Nat} {ws : List (List UInt8)} {r c : Int} {es : List Int} (h : QSt w pb g ws r c es W) (hb : Below W.heap.size W w') : QSt w pb g ws r c es w' := by
  obtain ⟨⟨A, cap, h2, h3⟩, h4, h5, h6, h7, h8, h9, h10, h11⟩ := h
  exact ⟨⟨A, cap, (h2.below hb (Nat.le_refl _)).wide (Nat.le_refl _) hb.size, h3.below hb h9⟩, h4.below hb h9, h5.below hb (by omega), h6.below hb (by omega), h7.trans (hb.mono h7.size), h8, Nat.lt_of_lt_of_le h9 hb.size, h10.below hb (by omega), h11⟩
theorem Strs.kept {w w' : World} {g lo hi : Nat} {ws : List (List UInt8)} (h : Strs w g ws) (hk : Kept lo hi w w') (hg : g < w.heap.size) (hn : ¬ (lo ≤ g ∧ g < hi)) : Strs w' g ws := fun k hkk => (World.cell?_of_block (a := ⟨g, k, none⟩) (hk.block g hg hn)).trans (h k hkk)
theorem Strs.far {w : World} {g : Nat} {ws : List (List UInt8)} (h : Strs w g ws) {p : Addr} (hp : g ≠ p.block) (u : Value) : Strs (w.setCell p u) g ws := fun k hk => by
  rw [World.cell?_setCell_other w _ _ _ (fun e => hp (by rw [e]))]; exact h k hk
theorem QSt.push {w W w7 : World} {pb g : Nat} {ws : List (List UInt8)} {r c e : Int} {es : List Int} {o : Obj} {A : Option Addr} {cap : Nat} (h : QSt w pb g ws r c es W)
    (hk : Kept (pb + 1) W.heap.size (W.alloc o) w7) (ho : Own w7 (pb + 1) w7.heap.size A (es.length + 1) cap (es ++ [e])) : QSt w pb g ws r c (es ++ [e]) (w7.setCell ⟨pb, 2, none⟩ (.slice A (es.length + 1) cap)) := by
  obtain ⟨⟨A0, cap0, h2, h3⟩, h4, h5, h6, h7, h8, h9, h10, h11⟩ := h
  have ha := al1 W o
  have h0 : pb < (W.alloc o).heap.size := by simp; omega
  refine ⟨⟨A, cap, ?_, ?_⟩, ((h4.below ha h9).kept hk h0 (by omega)).set_ _ _, ((h5.below ha (by omega)).kept hk (by simp; omega) (by omega)).far (by dsimp only; omega) _, ((h6.below ha (by omega)).kept hk (by simp; omega) (by omega)).set_ _ _, ?_, h8, ?_, ((h10.below ha (by omega)).kept hk (by simp; omega) (by omega)).far (by dsimp only; omega) _, h11⟩
  · rw [show (es ++ [e]).length = es.length + 1 by simp]
    exact (ho.far (p := ⟨pb, 2, none⟩) (.inl (by dsimp only; omega)) _).wide (Nat.le_refl _) (by simp [World.setCell])
  · rw [show (es ++ [e]).length = es.length + 1 by simp]
    exact ((h3.below ha h9).kept hk h0 (by omega)).set2
  · exact ((h7.trans (ha.mono h7.size)).trans (hk.below (by omega) (by simp; have := h7.size; omega))).setCell (by dsimp only; omega) _
  · have := hk.size
    simp [World.setCell] at this ⊢
    omega
theorem take_text_len (l : List UInt8) (a b : Nat) : ((l.take b).drop a).length ≤ l.length := by simp; omega

set_option maxRecDepth 100000 in
set_option maxHeartbeats 8000000 in
theorem parse_spec_a (l : List UInt8) (x y : Int) (w : World) (hl : l.length ≤ 1048576) (fx : Fi l 120 x) (fy : Fi l 58 y) (hx : x < 0) (hno : PO l 0 0 [] 6) : Calls Try.prog 6 #[.string ⟨l.toArray⟩] w (PRes w l) := by
  have K := Lib.hid (Box3.new w 24 (.int .i64 0) (.int .i64 0) (.slice none 0 0))
  have F := Lib.hid (Free.new w 24 #[.int .i64 0, .int .i64 0, .slice none 0 0])
  have D := Lib.hid (al1 w (Obj.cells #[.int .i64 0, .int .i64 0, .slice none 0 0] 24))
  have FX := fun w => (show Calls Try.prog 25 #[.string ⟨l.toArray⟩, .int .u8 120] w _ from find_at l 120 x w hl fx)
  have FY := fun w => (show Calls Try.prog 25 #[.string ⟨l.toArray⟩, .int .u8 58] w _ from find_at l 58 y w hl fy)
  have FX := Lib.hid FX
  have FY := Lib.hid FY
  have NO := Lib.hid hno
  clear fx fy hno
  go_enter Try.func6, Try.ntmps6
  go_wp2_with fail
  refine (FX.out _).mono ?_
  rintro e w1 ⟨rfl, rfl⟩
  go_wp2_with fail
  refine (FY.out _).mono ?_
  rintro e w1 ⟨rfl, rfl⟩
  obtain ⟨z0, z1, z2⟩ := K.out
  have zf := F.out
  unfold Free at zf
  go_wp2
  exact bodyPost_ret (v := .tuple #[.agg #[.int .i64 0, .int .i64 0, .slice none 0 0], .int .i64 6]) (by simp [results, Try.results6, z0, z1, z2, go_sem]) rfl (PRes.zero NO.out D.out)
set_option maxRecDepth 100000 in
set_option maxHeartbeats 8000000 in
theorem parse_spec_b (l : List UInt8) (x y : Int) (w : World) (hl : l.length ≤ 1048576) (fx : Fi l 120 x) (fy : Fi l 58 y) (hx0 : ¬ x < 0) (hx : y < x) (hno : PO l 0 0 [] 6) : Calls Try.prog 6 #[.string ⟨l.toArray⟩] w (PRes w l) := by
  have K := Lib.hid (Box3.new w 24 (.int .i64 0) (.int .i64 0) (.slice none 0 0))
  have F := Lib.hid (Free.new w 24 #[.int .i64 0, .int .i64 0, .slice none 0 0])
  have D := Lib.hid (al1 w (Obj.cells #[.int .i64 0, .int .i64 0, .slice none 0 0] 24))
  have FX := fun w => (show Calls Try.prog 25 #[.string ⟨l.toArray⟩, .int .u8 120] w _ from find_at l 120 x w hl fx)
  have FY := fun w => (show Calls Try.prog 25 #[.string ⟨l.toArray⟩, .int .u8 58] w _ from find_at l 58 y w hl fy)
  have FX := Lib.hid FX
  have FY := Lib.hid FY
  have NO := Lib.hid hno
  clear fx fy hno
  go_enter Try.func6, Try.ntmps6
  go_wp2_with fail
  refine (FX.out _).mono ?_
  rintro e w1 ⟨rfl, rfl⟩
  go_wp2_with fail
  refine (FY.out _).mono ?_
  rintro e w1 ⟨rfl, rfl⟩
  obtain ⟨z0, z1, z2⟩ := K.out
  have zf := F.out
  unfold Free at zf
  go_wp2
  exact bodyPost_ret (v := .tuple #[.agg #[.int .i64 0, .int .i64 0, .slice none 0 0], .int .i64 6]) (by simp [results, Try.results6, z0, z1, z2, go_sem]) rfl (PRes.zero NO.out D.out)
set_option maxRecDepth 100000 in
set_option maxHeartbeats 16000000 in
theorem parse_spec_c (l : List UInt8) (X Y : Nat) (w : World) (hl : l.length ≤ 1048576) (fx : Prs.First l 120 X) (fy : Prs.First l 58 Y) (hxy : X < Y) : Calls Try.prog 6 #[.string ⟨l.toArray⟩] w (PRes w l) := by
  have K := Lib.hid (Box3.new w 24 (.int .i64 0) (.int .i64 0) (.slice none 0 0))
  have F := Lib.hid (Free.new w 24 #[.int .i64 0, .int .i64 0, .slice none 0 0])
  have D := Lib.hid (al1 w (Obj.cells #[.int .i64 0, .int .i64 0, .slice none 0 0] 24))
  have s0 : w.heap.size < (w.alloc (Obj.cells #[.int .i64 0, .int .i64 0, .slice none 0 0] 24)).heap.size := by simp
  have FX := fun w => (show Calls Try.prog 25 #[.string ⟨l.toArray⟩, .int .u8 120] w _ from find_at l 120 X w hl (.inl ⟨X, rfl, fx⟩))
  have FY := fun w => (show Calls Try.prog 25 #[.string ⟨l.toArray⟩, .int .u8 58] w _ from find_at l 58 Y w hl (.inl ⟨Y, rfl, fy⟩))
  have FX := Lib.hid FX
  have FY := Lib.hid FY
  have HX := Lib.hid fx
  have HY := Lib.hid fy
  have yl := fy.1
  have e1 := take_text l X
  have e2 := extract_to l (X + 1) Y
  have e3 := drop_text l (Y + 1)
  have q1 : (0 : Int) ≤ (X : Int) := by omega
  have q2 : (X : Int) + 1 ≤ (Y : Int) := by omega
  have q3 : (Y : Int) + 1 ≤ (l.length : Int) := by omega
  have q4 : (X : Int) ≤ (l.length : Int) := by omega
  have q5 : ¬ (X : Int) < 0 := by omega
  have q6 : ¬ (Y : Int) < (X : Int) := by omega
  have L1 := Lib.hid (show (l.take X).length ≤ 1048576 by simp; omega)
  have L2 := Lib.hid (show ((l.take Y).drop (X + 1)).length ≤ 1048576 by simp; omega)
  have L3 := Lib.hid (show (l.drop (Y + 1)).length ≤ 1048576 by simp; omega)
  have L4 := Lib.hid (show (l.drop (Y + 1)).length ≤ 1048575 by simp; omega)
  have PA := Lib.hid (fun r c es (h : Prs.Txt l r c es) => h.parts fx fy)
  clear fx fy
  obtain ⟨l1, hl1⟩ : ∃ l1, l.take X = l1 := ⟨_, rfl⟩
  obtain ⟨l2, hl2⟩ : ∃ l2, (l.take Y).drop (X + 1) = l2 := ⟨_, rfl⟩
  obtain ⟨l3, hl3⟩ : ∃ l3, l.drop (Y + 1) = l3 := ⟨_, rfl⟩
  have E1 := Lib.hid hl1
  have E2 := Lib.hid hl2
  have E3 := Lib.hid hl3
  rw [hl1] at e1 L1
  rw [hl2] at e2 L2
  rw [hl3] at e3 L3 L4
  rw [hl1, hl2, hl3] at PA
  clear hl1 hl2 hl3
  go_enter Try.func6, Try.ntmps6
  go_wp2_with fail
  refine (FX.out _).mono ?_
  rintro e w1 ⟨rfl, rfl⟩
  go_wp2_with fail
  refine (FY.out _).mono ?_
  rintro e w1 ⟨rfl, rfl⟩
  go_wp2_with fail
  refine (value_spec l1 _ L1.out).mono ?_
  rintro e w1 ⟨hc1, hb⟩
  have s1 : w.heap.size < w1.heap.size := by have := hb.size; omega
  have K_ := Lib.hid (K.out.below hb (by omega))
  have F_ := Lib.hid (F.out.below hb (by omega))
  have D_ := Lib.hid (D.out.trans (hb.mono D.out.size))
  clear K F D
  have K := K_
  have F := F_
  have D := D_
  clear K_ F_ D_
  have C1 := Lib.hid hc1
  clear hb hc1 e1
  have C1' : Hid (∃ x1 b1, e = .returned (.tuple #[.int .i64 x1, .bool b1]) ∧ ((b1 = true ∧ Prs.Word l1 x1) ∨ (b1 = false ∧ ¬ ∃ v, Prs.Word l1 v))) := Lib.hid (by
    rcases C1.out with ⟨v, h, h2⟩ | ⟨h, x, h2⟩
    · exact ⟨v, true, h2, .inl ⟨rfl, h⟩⟩
    · exact ⟨x, false, h2, .inr ⟨rfl, h⟩⟩)
  clear C1
  obtain ⟨x1, b1, rfl, h1⟩ := C1'.out
  have R1 := Lib.hid h1
  clear C1' h1
  go_wp2_with fail
  refine (value_spec l2 _ L2.out).mono ?_
  rintro e w2 ⟨hc1, hb⟩
  have s2 : w.heap.size < w2.heap.size := by have := hb.size; omega
  have K_ := Lib.hid (K.out.below hb (by omega))
  have F_ := Lib.hid (F.out.below hb (by omega))
  have D_ := Lib.hid (D.out.trans (hb.mono D.out.size))
  clear K F D
  have K := K_
  have F := F_
  have D := D_
  clear K_ F_ D_
  have C1 := Lib.hid hc1
  clear hb hc1 e2
  have C1' : Hid (∃ x1 b1, e = .returned (.tuple #[.int .i64 x1, .bool b1]) ∧ ((b1 = true ∧ Prs.Word l2 x1) ∨ (b1 = false ∧ ¬ ∃ v, Prs.Word l2 v))) := Lib.hid (by
    rcases C1.out with ⟨v, h, h2⟩ | ⟨h, x, h2⟩
    · exact ⟨v, true, h2, .inl ⟨rfl, h⟩⟩
    · exact ⟨x, false, h2, .inr ⟨rfl, h⟩⟩)
  clear C1
  obtain ⟨x2, b2, rfl, h1⟩ := C1'.out
  have R2 := Lib.hid h1
  clear C1' h1
  go_wp2_with fail
  have SP := fun w => (show Calls Try.prog 27 #[.string ⟨l3.toArray⟩, .int .u8 32] w _ from split_spec l3 32 w L3.out)
  refine (SP _).mono ?_
  clear SP
  rintro e w3 ⟨ws, g, cap, hsp, rfl, hst, hg1, hg2, hb⟩
  have s3 : w.heap.size < w3.heap.size := by have := hb.size; omega
  have K_ := Lib.hid (K.out.below hb (by omega))
  have F_ := Lib.hid (F.out.below hb (by omega))
  have D_ := Lib.hid (D.out.trans (hb.mono D.out.size))
  clear K F D
  have K := K_
  have F := F_
  have D := D_
  clear K_ F_ D_
  have HS := Lib.hid hsp
  have ST := Lib.hid hst
  have wl := hsp.len
  have wn := hsp.ne
  have W0 := Lib.hid hst
  have c0 := hst 0 wn
  clear hb hsp hst e3
  have gw : w.heap.size < g := by omega
  have NOT := Lib.hid (fun (h : ¬ ∃ r c es, Prs.Txt l r c es) => (show PO l 0 0 [] 6 from .inr (.inr ⟨h, rfl, rfl, rfl, rfl⟩)))
  cases b1 with
  | false =>
    have NO := Lib.hid (NOT.out (by rintro ⟨r, c, es, h⟩; rcases R1.out with ⟨h1, _⟩ | ⟨_, h1⟩; cases h1; exact h1 ⟨_, (PA.out r c es h).2.1⟩))
    clear c0
    obtain ⟨z0, z1, z2⟩ := K.out
    have zf := F.out
    unfold Free at zf
    go_wp2
    exact bodyPost_ret (v := .tuple #[.agg #[.int .i64 0, .int .i64 0, .slice none 0 0], .int .i64 6]) (by simp [results, Try.results6, z0, z1, z2, go_sem]) rfl (PRes.zero NO.out (((D.out.setCell (by simp) _).setCell (by simp) _).setCell (by simp) _))
  | true =>
  cases b2 with
  | false =>
    have NO := Lib.hid (NOT.out (by rintro ⟨r, c, es, h⟩; rcases R2.out with ⟨h1, _⟩ | ⟨_, h1⟩; cases h1; exact h1 ⟨_, (PA.out r c es h).2.2.1⟩))
    clear c0
    obtain ⟨z0, z1, z2⟩ := K.out
    have zf := F.out
    unfold Free at zf
    go_wp2
    exact bodyPost_ret (v := .tuple #[.agg #[.int .i64 0, .int .i64 0, .slice none 0 0], .int .i64 6]) (by simp [results, Try.results6, z0, z1, z2, go_sem]) rfl (PRes.zero NO.out (((D.out.setCell (by simp) _).setCell (by simp) _).setCell (by simp) _))
  | true =>
  have V1 := Lib.hid (show Prs.Word l1 x1 by rcases R1.out with ⟨_, h1⟩ | ⟨h1, _⟩; exact h1; cases h1)
  have V2 := Lib.hid (show Prs.Word l2 x2 by rcases R2.out with ⟨_, h1⟩ | ⟨h1, _⟩; exact h1; cases h1)
  clear R1 R2
  have wn2 : (0 : Int) < (ws.length : Int) := by omega
  obtain ⟨p0, hp0⟩ : ∃ p0, ws.getD 0 [] = p0 := ⟨_, rfl⟩
  rw [hp0] at c0
  have HP0 := Lib.hid hp0
  clear hp0
  by_cases hp : p0 = []
  case neg =>
    have t0 : p0.isEmpty = false := by simpa using hp
    have t1 : (!p0.isEmpty) = true := by simpa using hp
    have NO := Lib.hid (NOT.out (Prs.words_head HX.out HY.out (E3.out ▸ HS.out) (by rw [HP0.out]; exact hp)))
    clear hp
    obtain ⟨z0, z1, z2⟩ := K.out
    have zf := F.out
    unfold Free at zf
    go_wp2
    exact bodyPost_ret (v := .tuple #[.agg #[.int .i64 0, .int .i64 0, .slice none 0 0], .int .i64 6]) (by simp [results, Try.results6, z0, z1, z2, go_sem]) rfl (PRes.zero NO.out (((D.out.setCell (by simp) _).setCell (by simp) _).setCell (by simp) _))
  have TK := Lib.hid (Prs.words_start wn (HP0.out.trans hp))
  have HH := Lib.hid hp
  obtain rfl : p0 = [] := hp
  obtain ⟨pb, hpb⟩ : ∃ pb, w3.heap.size = pb := ⟨_, rfl⟩
  have Q0 := Lib.hid (show QSt w pb g ws x1 x2 [] (w3.alloc (Obj.cells #[.int .i64 x1, .int .i64 x2, .slice none 0 0] 24)) from
    ⟨⟨none, 0, Own.none_ _ _ _, by rw [← hpb]; exact Box3.new w3 _ _ _ _⟩, by rw [← hpb]; exact Free.new w3 _ _, K.out.below (al1 w3 _) s3, F.out.below (al1 w3 _) s3, D.out.trans ((al1 w3 _).mono D.out.size), by omega, by simp; omega, ST.out.below (al1 w3 _) hg2, by omega⟩)
  have D3 := D
  clear K F D FX FY L1 L2 L3 ST W0 s0 s1 s2
  go_wp2_with fail
  clear c0
  go_loopw [12] (fun i W => ∃ (k : Nat) (es : List Int), i = .int .i64 k ∧ 1 ≤ k ∧ k ≤ ws.length ∧ ws.take k = [] :: es.map Lib.itoa ∧ (∀ e ∈ es, Prs.Sm e) ∧ QSt w pb g ws x1 x2 es W) (fun i _ => ws.length - (intOf i).toNat)
  case atStart => exact ⟨1, [], rfl, by omega, by omega, TK.out, (fun e he => by simp at he), Q0.out⟩
  case round =>
    obtain ⟨k, es, rfl, hk1, hk, htk, hsm, hq⟩ := hrel
    have TKK := Lib.hid htk
    have SM := Lib.hid hsm
    have Q := Lib.hid hq
    have el : es.length ≤ 1048576 := by
      have := congrArg List.length htk
      have := L4.out
      simp at *
      omega
    obtain ⟨⟨A, cap2, ho, q0', q1', q2'⟩, hfr, hbox, hfree, hbel, h1, h2, hstr, h3⟩ := hq
    have O := Lib.hid ho
    have K := Lib.hid hbox
    have F := Lib.hid hfree
    have D := Lib.hid hbel
    have ST := Lib.hid hstr
    clear htk hsm ho hfr hbox hfree hbel hstr Q0 TK
    have k0 : (0 : Int) ≤ (k : Int) := by omega
    have kb : (k : Int) ≤ 1048576 := by have := L4.out; omega
    by_cases hlt : k < ws.length
    · have t0 : (k : Int) < (ws.length : Int) := by omega
      have ck := ST.out k hlt
      obtain ⟨p, hp⟩ : ∃ p, ws.getD k [] = p := ⟨_, rfl⟩
      have PL := Lib.hid (show p.length ≤ 1048576 by
        have hm : p ∈ ws := by rw [← hp, List.getD_eq_getElem?_getD, List.getElem?_eq_getElem hlt]; exact List.getElem_mem hlt
        have := HS.out.wlen hm
        have := L4.out
        omega)
      rw [hp] at ck
      have HP := Lib.hid hp
      clear hp q0' q1' q2'
      go_wp2_with fail
      refine (value_spec p _ PL.out).mono ?_
      rintro e w6 ⟨hc, hb⟩
      have Q6 := Lib.hid (Q.out.below_ hb)
      clear hb ck K F D ST O
      rcases hc with ⟨v, hv, rfl⟩ | ⟨hno, x, rfl⟩
      case inr =>
        have NO := Lib.hid (NOT.out (Prs.words_bad HX.out HY.out (E3.out ▸ HS.out) hk1 hlt (HP.out ▸ hno)))
        clear hno
        have K := Lib.hid Q6.out.box
        have F := Lib.hid Q6.out.free
        have D := Lib.hid Q6.out.bel
        obtain ⟨z0, z1, z2⟩ := K.out
        have zf := F.out
        unfold Free at zf
        go_wp2
        exact bodyPost_ret (v := .tuple #[.agg #[.int .i64 0, .int .i64 0, .slice none 0 0], .int .i64 6]) (by simp [results, Try.results6, z0, z1, z2, go_sem]) rfl (PRes.zero NO.out (((D.out.setCell (by simp) _).setCell (by simp) _).setCell (by simp) _))
      have HV := Lib.hid hv
      clear hv
      obtain ⟨A6, cap6, ho6, hq6⟩ := Q6.out.own
      have O6 := Lib.hid ho6
      have B6 := Lib.hid hq6
      have FR6 := Lib.hid Q6.out.fr
      have l62 := Q6.out.lt2
      clear ho6 hq6
      obtain ⟨y0, y1, y2⟩ := (B6.out.below (al1 w6 (Obj.cells #[.int .i64 v] 2)) l62)
      obtain ⟨u0, u1, u2⟩ := B6.out
      go_wp2_with (at_builtin; refine wpList_push_int rfl _ _ rfl (pb + 1) w6.heap.size cap6 w6.heap.size A6 es v rfl (O6.out.al (Nat.le_refl _) (al1 w6 _)) rfl (by exact alloc_first _ _ _ _ rfl) (by simp; omega) el ?_; intro A7 c7 w7 h5 h6; have O7 := Lib.hid h5; have K7 := Lib.hid h6; have P7 := Lib.hid ((B6.out.below (al1 w6 _) l62).kept h6 (by simp; omega) (by omega)); have F7 := Lib.hid ((FR6.out.below (al1 w6 _) l62).kept h6 (by simp; omega) (by omega)); clear h5 h6 y0 y1 y2 u0 u1 u2; obtain ⟨y0, y1, y2⟩ := P7.out; have yf := F7.out; unfold Free at yf)
      go_roundw
      case rel =>
        refine ⟨k + 1, es ++ [v], by go_num, by omega, by omega, Prs.words_more TKK.out hlt (by rw [HP.out]; exact HV.out), fun e he => ?_, Q6.out.push K7.out O7.out⟩
        rcases List.mem_append.1 he with he | he
        · exact SM.out e he
        · simp at he; subst he; exact HV.out.sm
      case measure => simp [intOf]; omega
    · have t0 : ¬ (k : Int) < (ws.length : Int) := by omega
      obtain rfl : k = ws.length := by omega
      have TX := Lib.hid (Prs.txt_of HX.out HY.out hxy (by rw [E1.out]; exact V1.out) (by rw [E2.out]; exact V2.out) (by rw [E3.out]; exact Prs.words_done TKK.out HS.out) SM.out)
      have s5 : w.heap.size < wr.heap.size := by omega
      clear hlt t0 hk1 hk k0
      have wx : ¬ (ws.length : Int) < (ws.length : Int) := by omega
      by_cases hM : MOk x1 x2 es
      case neg =>
        have NO := Lib.hid (show PO l 0 0 [] 2 from .inr (.inl ⟨⟨x1, x2, es, TX.out, hM⟩, rfl, rfl, rfl, rfl⟩))
        have HM := Lib.hid hM
        clear hM
        go_wp2_with fail
        refine (isMs_no x1 x2 A es.length cap2 es _ O.out.ints el HM.out).mono ?_
        rintro e w6 ⟨rfl, hb⟩
        have s4 : w.heap.size < w6.heap.size := by have := hb.size; omega
        have K_ := Lib.hid (K.out.below hb (by omega))
        have F_ := Lib.hid (F.out.below hb (by omega))
        have D_ := Lib.hid (D.out.trans (hb.mono D.out.size))
        clear K F D
        have K := K_
        have F := F_
        have D := D_
        clear K_ F_ D_
        clear hb
        obtain ⟨z0, z1, z2⟩ := K.out
        have zf := F.out
        unfold Free at zf
        go_wp2
        exact bodyPost_ret (v := .tuple #[.agg #[.int .i64 0, .int .i64 0, .slice none 0 0], .int .i64 2]) (by simp [results, Try.results6, z0, z1, z2, go_sem]) rfl (PRes.zero NO.out (((D.out.setCell (by simp) _).setCell (by simp) _).setCell (by simp) _))
      have YES := Lib.hid (show PO l x1 x2 es 0 from .inl ⟨TX.out, hM, rfl⟩)
      have HM := Lib.hid hM
      clear hM
      go_wp2_with fail
      refine (isMs_yes x1 x2 A es.length cap2 es _ O.out.ints el HM.out).mono ?_
      rintro e w6 ⟨rfl, hb⟩
      have s4 : w.heap.size < w6.heap.size := by have := hb.size; omega
      have s6 : pb < w6.heap.size := by have := hb.size; omega
      have B := Lib.hid (Q.out.own)
      have O6 := Lib.hid ((O.out.al (Nat.le_refl _) hb).wide (Nat.le_refl _) hb.size)
      have QB := Lib.hid ((show Box3 wr pb (.int .i64 x1) (.int .i64 x2) (.slice A es.length cap2) from ⟨q0', q1', q2'⟩).below hb (by omega))
      have K_ := Lib.hid (K.out.below hb (by omega))
      have F_ := Lib.hid (F.out.below hb (by omega))
      have D_ := Lib.hid (D.out.trans (hb.mono D.out.size))
      clear K F D
      have K := K_
      have F := F_
      have D := D_
      clear K_ F_ D_
      clear hb q0' q1' q2'
      obtain ⟨z0, z1, z2⟩ := K.out
      obtain ⟨b0, b1, b2⟩ := QB.out
      have zf := F.out
      unfold Free at zf
      go_wp2
      refine bodyPost_ret (v := .tuple #[.agg #[.int .i64 x1, .int .i64 x2, .slice A es.length cap2], .int .i64 0]) (by simp [results, Try.results6, z0, z1, z2, go_sem]) rfl (PRes.full YES.out ?_ (((D.out.setCell (by simp) _).setCell (by simp) _).setCell (by simp) _))
      exact (((O6.out.far (p := ⟨w.heap.size, 0, none⟩) (.inl (by dsimp only; omega)) _).far (p := ⟨w.heap.size, 1, none⟩) (.inl (by dsimp only; omega)) _).far (p := ⟨w.heap.size, 2, none⟩) (.inl (by dsimp only; omega)) _).wide (by omega) (by simp [World.setCell])

/-- The specification's ParseMatrix. -/
theorem parse_spec (l : List UInt8) (w : World) (hl : l.length ≤ 1048576) : Calls Try.prog 6 #[.string ⟨l.toArray⟩] w (PRes w l) := by
  obtain ⟨x, fx⟩ := Fi.exists_ l 120
  obtain ⟨y, fy⟩ := Fi.exists_ l 58
  have no : (¬ ∃ r c es, Prs.Txt l r c es) → PO l 0 0 [] 6 := fun h => .inr (.inr ⟨h, rfl, rfl, rfl, rfl⟩)
  by_cases hx : x < 0
  · refine parse_spec_a l x y w hl fx fy hx (no ?_)
    rintro ⟨r, c, es, h⟩
    rcases fx with ⟨k, rfl, _⟩ | ⟨_, hk⟩
    · omega
    · exact hk _ h.x
  · rcases fx with ⟨X, rfl, hX⟩ | ⟨rfl, _⟩
    · by_cases hy : y < X
      · refine parse_spec_b l X y w hl (.inl ⟨X, rfl, hX⟩) fy hx hy (no ?_)
        rintro ⟨r, c, es, h⟩
        rcases fy with ⟨k, rfl, hk⟩ | ⟨_, hk⟩
        · have := (h.parts hX hk).1
          omega
        · exact hk _ h.colon
      · rcases fy with ⟨Y, rfl, hY⟩ | ⟨rfl, _⟩
        · have : X ≠ Y := fun e => by
            have h1 := hX.2.1
            have h2 := hY.2.1
            rw [e, h2] at h1
            cases h1
          exact parse_spec_c l X Y w hl hX hY (by omega)
        · omega
    · omega
end Go.Proofs.Ytboanggdehceaaa
