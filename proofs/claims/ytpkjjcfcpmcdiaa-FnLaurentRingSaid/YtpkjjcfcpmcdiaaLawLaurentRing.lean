/- The law FnLaurentRing returns true for every code that is passed in and changes no memory that was there. No condition. -/
import Derived.Test.YtpkjjcfcpmcdiaaDrwC
import Derived.Test.YtpkjjcfcpmcdiaaRngB
import Derived.Test.YtpkjjcfcpmcdiaaLift
import Derived.Deep.RegionHeld3
import Derived.Deep.DeepCutAuto
namespace Go.Proofs.Ytpkjjcfcpmcdiaa
open Go.ChangeShapes Go.WideShapes Go.ChangeAt Go.RowKit

/-- What a statement leaves whose order is drawn: the result's box, its list, and all that was there as it was. -/
def CutL (wj : World) (rk : Int) (ll : List Int) (v p x : Value) (W : World) : Prop :=
  ∃ b R t, p = .pointer (some ⟨b, 0, none⟩) ∧ x = v ∧ BoxG W b (.int .i64 rk) (.slice R ll.length t) ∧ wj.heap.size ≤ b ∧ b < W.heap.size ∧ Mine W wj.heap.size W.heap.size R ll.length ll ∧ Below wj.heap.size wj W
theorem CutL.new {wj W : World} {rk : Int} {ll : List Int} {v : Value} {lo : Nat} {R : Option Addr} {t : Nat} {T : TypeId} (ho : Mine W lo W.heap.size R ll.length ll) (hb : Below wj.heap.size wj W) (hl : wj.heap.size ≤ lo) :
    CutL wj rk ll v (.pointer (some ⟨W.heap.size, 0, none⟩)) v (W.alloc (Obj.cells #[.int .i64 rk, .slice R ll.length t] T)) :=
  ⟨W.heap.size, R, t, rfl, rfl, BoxG.new _ _ _ _, hb.size, by simp, (ho.al (Nat.le_refl _) (al1 _ _)).wide hl (by simp), hb.alloc hb.size _⟩
theorem CutL.old {wj W : World} {rk : Int} {ll : List Int} {v : Value} {lo b : Nat} {R : Option Addr} {t : Nat} {x y : Value} (ho : Mine W lo W.heap.size R ll.length ll) (hx : BoxG W b x y) (hb : Below wj.heap.size wj W) (hl : wj.heap.size ≤ b) (hlo : b < lo) (hh : b < W.heap.size) :
    CutL wj rk ll v (.pointer (some ⟨b, 0, none⟩)) v ((W.setCell ⟨b, 0, none⟩ (.int .i64 rk)).setCell ⟨b, 1, none⟩ (.slice R ll.length t)) := by
  refine ⟨b, R, t, rfl, rfl, ⟨?_, ?_⟩, hl, by simpa [World.setCell] using hh, ?_, ?_⟩
  · rw [World.cell?_setCell_other _ _ _ _ (by simp)]
    exact World.cell?_setCell_same _ _ _ hx.1
  · exact World.cell?_setCell_same _ _ _ (by rw [World.cell?_setCell_other _ _ _ _ (by simp)]; exact hx.2)
  · refine ((ho.far (p := ⟨b, 0, none⟩) (.inl hlo) _).far (p := ⟨b, 1, none⟩) (.inl hlo) _).wide (by omega) (by simp [World.setCell])
  · exact (hb.setCell hl _).setCell hl _

/-- The sign's loop: where it stands. -/
def AtSign (v : Int) : Prop := v = -1 ∨ v = 1 ∨ v = 3
theorem code_sum {a b c d : Int} (ha : a = 0 ∨ a = 1 ∨ a = 3) (hb : b = 0 ∨ b = 1 ∨ b = 3) (hc : c = 0 ∨ c = 1 ∨ c = 3) (hd : d = 0 ∨ d = 1 ∨ d = 3) (h : ¬ (a = 0 ∧ b = 0 ∧ c = 0 ∧ d = 0)) : a + b + c + d ≠ 0 ∧ 0 ≤ a + b ∧ a + b ≤ 6 ∧ 0 ≤ a + b + c ∧ a + b + c ≤ 9 ∧ 0 ≤ a + b + c + d ∧ a + b + c + d ≤ 12 := by omega
theorem ev_small {s r : Int} {zs : List Int} (hs : s = 1 ∨ s = -1) (hP : Lau.LOk r zs) : -1000000000000000 ≤ evS s r zs zs.length ∧ evS s r zs zs.length ≤ 1000000000000000 := evS_bound hs hP.ent' hP.len

set_option maxRecDepth 100000 in
set_option maxHeartbeats 16000000 in
theorem ring_law (A : Option Addr) (n c : Nat) (bs : List Int) (w : World) (h : Bys w w.heap.size A n bs) :
    Calls Try.prog 3 #[.slice A n c] w fun e w' => e = .returned (.bool true) ∧ Below w.heap.size w w' := by
  by_cases hn : n ≤ 4096
  case neg =>
    go_enter Try.func3, Try.ntmps3
    go_wp2_with fail
    refine (big_yes A n c w hn).mono ?_
    rintro e w1 ⟨rfl, rfl⟩
    go_wp2
    go_ret
    exact ⟨rfl, Below.refl _ _⟩
  have H := Lib.hid h
  clear h
  go_enter Try.func3, Try.ntmps3
  go_wp2_with fail
  refine (big_no A n c w hn).mono ?_
  rintro e w0 ⟨rfl, rfl⟩
  go_wp2_with fail
  refine (mult_draw A n c bs w H.out (by omega)).mono ?_
  rintro e w1 ⟨r, R, t, zs, s, S, u, ys, rfl, hM, -, -, h3, hN, -, -, i3, hb⟩
  have D := Lib.hid hb
  have LP := Lib.hid hM.ints
  have LQ := Lib.hid hN.ints
  clear hM hN hb
  obtain ⟨v1, hv1⟩ : ∃ v1, v1 = (w1.alloc (Obj.cells #[.int .i64 r, .slice R zs.length t] 26)).alloc (Obj.cells #[.int .i64 s, .slice S ys.length u] 26) := ⟨_, rfl⟩
  have q_ : Below w1.heap.size w1 v1 := by rw [hv1]; exact al2 w1 _ _
  have s1 : w1.heap.size + 1 < v1.heap.size := by rw [hv1]; simp
  have BP := Lib.hid (show BoxG v1 w1.heap.size (.int .i64 r) (.slice R zs.length t) by rw [hv1]; exact (BoxG.new w1 26 (.int .i64 r) (.slice R zs.length t)).below (al1 _ _) (by simp))
  have BQ := Lib.hid (show BoxG v1 (w1.heap.size + 1) (.int .i64 s) (.slice S ys.length u) by rw [hv1]; have := BoxG.new (w1.alloc (Obj.cells #[.int .i64 r, .slice R zs.length t] 26)) 26 (.int .i64 s) (.slice S ys.length u); simpa using this)
  have zBP : w1.heap.size < v1.heap.size := by omega
  have zBQ : w1.heap.size + 1 < v1.heap.size := by omega
  have t_ := Lib.hid (LP.out.into q_)
  clear LP
  have LP := t_
  clear t_
  have t_ := Lib.hid (LQ.out.into q_)
  clear LQ
  have LQ := t_
  clear t_
  have t_ := Lib.hid (D.out.trans (q_.mono D.out.size))
  clear D
  have D := t_
  clear t_
  go_wp2_with fail
  rw [← hv1]
  clear hv1 q_ s1
  refine (other_any A n c bs v1 (H.out.into D.out) (by omega)).mono ?_
  rintro e w2 ⟨A', c', bs', rfl, hB, hb⟩
  have t_ := Lib.hid (BP.out.below hb zBP)
  clear BP
  have BP := t_
  clear t_
  have t_ := Lib.hid (BQ.out.below hb zBQ)
  clear BQ
  have BQ := t_
  clear t_
  have t_ := Lib.hid (LP.out.into hb)
  clear LP
  have LP := t_
  clear t_
  have t_ := Lib.hid (LQ.out.into hb)
  clear LQ
  have LQ := t_
  clear t_
  have t_ := Lib.hid (D.out.trans (hb.mono D.out.size))
  clear D
  have D := t_
  clear t_
  have t_ : w1.heap.size < w2.heap.size := by have := hb.size; omega
  clear zBP
  have zBP := t_
  clear t_
  have t_ : w1.heap.size + 1 < w2.heap.size := by have := hb.size; omega
  clear zBQ
  have zBQ := t_
  clear t_
  have HB' := Lib.hid hB
  clear hb hB
  go_wp2_with fail
  refine (unit_draw A' (3 + n) c' bs' w2 HB'.out (by omega)).mono ?_
  rintro e w3 ⟨rr, RR, tt, xs, rfl, hM, -, -, j3, hb⟩
  have t_ := Lib.hid (BP.out.below hb zBP)
  clear BP
  have BP := t_
  clear t_
  have t_ := Lib.hid (BQ.out.below hb zBQ)
  clear BQ
  have BQ := t_
  clear t_
  have t_ := Lib.hid (LP.out.into hb)
  clear LP
  have LP := t_
  clear t_
  have t_ := Lib.hid (LQ.out.into hb)
  clear LQ
  have LQ := t_
  clear t_
  have t_ := Lib.hid (D.out.trans (hb.mono D.out.size))
  clear D
  have D := t_
  clear t_
  have t_ : w1.heap.size < w3.heap.size := by have := hb.size; omega
  clear zBP
  have zBP := t_
  clear t_
  have t_ : w1.heap.size + 1 < w3.heap.size := by have := hb.size; omega
  clear zBQ
  have zBQ := t_
  clear t_
  have LX := Lib.hid hM.ints
  clear hM hb HB'
  have q_ := al1 w3 (Obj.cells #[.int .i64 rr, .slice RR xs.length tt] 26)
  have t_ := Lib.hid (BP.out.below q_ zBP)
  clear BP
  have BP := t_
  clear t_
  have t_ := Lib.hid (BQ.out.below q_ zBQ)
  clear BQ
  have BQ := t_
  clear t_
  have t_ := Lib.hid (LP.out.into q_)
  clear LP
  have LP := t_
  clear t_
  have t_ := Lib.hid (LQ.out.into q_)
  clear LQ
  have LQ := t_
  clear t_
  have t_ := Lib.hid (LX.out.into q_)
  clear LX
  have LX := t_
  clear t_
  have t_ := Lib.hid (D.out.trans (q_.mono D.out.size))
  clear D
  have D := t_
  clear t_
  have t_ : w1.heap.size < (w3.alloc (Obj.cells #[.int .i64 rr, .slice RR xs.length tt] 26)).heap.size := by have := q_.size; omega
  clear zBP
  have zBP := t_
  clear t_
  have t_ : w1.heap.size + 1 < (w3.alloc (Obj.cells #[.int .i64 rr, .slice RR xs.length tt] 26)).heap.size := by have := q_.size; omega
  clear zBQ
  have zBQ := t_
  clear t_
  have BX := Lib.hid (BoxG.new w3 26 (.int .i64 rr) (.slice RR xs.length tt))
  have zBX : w3.heap.size < (w3.alloc (Obj.cells #[.int .i64 rr, .slice RR xs.length tt] 26)).heap.size := by simp
  clear q_
  obtain ⟨sk, sl, one, hS⟩ := sumOut_exists r zs s ys
  obtain ⟨tk, tl, two, hT⟩ := mulOut_exists r zs s ys
  have HS := Lib.hid hS
  have HT := Lib.hid hT
  have sl_ := hS.len
  have tl_ := hT.len
  clear hS hT
  obtain ⟨BPx, BPy⟩ := BP.out
  obtain ⟨BQx, BQy⟩ := BQ.out
  go_wp2_with fail
  refine (add_impl_any r s R S zs.length t ys.length u zs ys _ LP.out LQ.out (by omega) (by omega) sk sl one HS.out).mono ?_
  rintro e w4 ⟨R4, t4, rfl, hM, hb⟩
  clear BPx BPy BQx BQy
  have t_ := Lib.hid (BP.out.below hb zBP)
  clear BP
  have BP := t_
  clear t_
  have t_ := Lib.hid (BQ.out.below hb zBQ)
  clear BQ
  have BQ := t_
  clear t_
  have t_ := Lib.hid (BX.out.below hb zBX)
  clear BX
  have BX := t_
  clear t_
  have t_ := Lib.hid (LP.out.into hb)
  clear LP
  have LP := t_
  clear t_
  have t_ := Lib.hid (LQ.out.into hb)
  clear LQ
  have LQ := t_
  clear t_
  have t_ := Lib.hid (LX.out.into hb)
  clear LX
  have LX := t_
  clear t_
  have t_ := Lib.hid (D.out.trans (hb.mono D.out.size))
  clear D
  have D := t_
  clear t_
  have t_ : w1.heap.size < w4.heap.size := by have := hb.size; omega
  clear zBP
  have zBP := t_
  clear t_
  have t_ : w1.heap.size + 1 < w4.heap.size := by have := hb.size; omega
  clear zBQ
  have zBQ := t_
  clear t_
  have t_ : w3.heap.size < w4.heap.size := by have := hb.size; omega
  clear zBX
  have zBX := t_
  clear t_
  have LS := Lib.hid hM.ints
  clear hM hb
  have q_ := al1 w4 (Obj.cells #[.int .i64 sk, .slice R4 sl.length t4] 26)
  have t_ := Lib.hid (BP.out.below q_ zBP)
  clear BP
  have BP := t_
  clear t_
  have t_ := Lib.hid (BQ.out.below q_ zBQ)
  clear BQ
  have BQ := t_
  clear t_
  have t_ := Lib.hid (BX.out.below q_ zBX)
  clear BX
  have BX := t_
  clear t_
  have t_ := Lib.hid (LP.out.into q_)
  clear LP
  have LP := t_
  clear t_
  have t_ := Lib.hid (LQ.out.into q_)
  clear LQ
  have LQ := t_
  clear t_
  have t_ := Lib.hid (LX.out.into q_)
  clear LX
  have LX := t_
  clear t_
  have t_ := Lib.hid (LS.out.into q_)
  clear LS
  have LS := t_
  clear t_
  have t_ := Lib.hid (D.out.trans (q_.mono D.out.size))
  clear D
  have D := t_
  clear t_
  have t_ : w1.heap.size < (w4.alloc (Obj.cells #[.int .i64 sk, .slice R4 sl.length t4] 26)).heap.size := by have := q_.size; omega
  clear zBP
  have zBP := t_
  clear t_
  have t_ : w1.heap.size + 1 < (w4.alloc (Obj.cells #[.int .i64 sk, .slice R4 sl.length t4] 26)).heap.size := by have := q_.size; omega
  clear zBQ
  have zBQ := t_
  clear t_
  have t_ : w3.heap.size < (w4.alloc (Obj.cells #[.int .i64 sk, .slice R4 sl.length t4] 26)).heap.size := by have := q_.size; omega
  clear zBX
  have zBX := t_
  clear t_
  have BS := Lib.hid (BoxG.new w4 26 (.int .i64 sk) (.slice R4 sl.length t4))
  have zBS : w4.heap.size < (w4.alloc (Obj.cells #[.int .i64 sk, .slice R4 sl.length t4] 26)).heap.size := by simp
  clear q_
  as_aux_lemma =>
  obtain ⟨BPx, BPy⟩ := BP.out
  obtain ⟨BQx, BQy⟩ := BQ.out
  go_wp2_with fail
  refine (mul_impl_any r s R S zs.length t ys.length u zs ys _ LP.out LQ.out (by omega) (by omega) tk tl two HT.out).mono ?_
  rintro e w5 ⟨R5, t5, rfl, hM, hb⟩
  clear BPx BPy BQx BQy
  have t_ := Lib.hid (BP.out.below hb zBP)
  clear BP
  have BP := t_
  clear t_
  have t_ := Lib.hid (BQ.out.below hb zBQ)
  clear BQ
  have BQ := t_
  clear t_
  have t_ := Lib.hid (BX.out.below hb zBX)
  clear BX
  have BX := t_
  clear t_
  have t_ := Lib.hid (BS.out.below hb zBS)
  clear BS
  have BS := t_
  clear t_
  have t_ := Lib.hid (LP.out.into hb)
  clear LP
  have LP := t_
  clear t_
  have t_ := Lib.hid (LQ.out.into hb)
  clear LQ
  have LQ := t_
  clear t_
  have t_ := Lib.hid (LX.out.into hb)
  clear LX
  have LX := t_
  clear t_
  have t_ := Lib.hid (LS.out.into hb)
  clear LS
  have LS := t_
  clear t_
  have t_ := Lib.hid (D.out.trans (hb.mono D.out.size))
  clear D
  have D := t_
  clear t_
  have t_ : w1.heap.size < w5.heap.size := by have := hb.size; omega
  clear zBP
  have zBP := t_
  clear t_
  have t_ : w1.heap.size + 1 < w5.heap.size := by have := hb.size; omega
  clear zBQ
  have zBQ := t_
  clear t_
  have t_ : w3.heap.size < w5.heap.size := by have := hb.size; omega
  clear zBX
  have zBX := t_
  clear t_
  have t_ : w4.heap.size < w5.heap.size := by have := hb.size; omega
  clear zBS
  have zBS := t_
  clear t_
  have LTT := Lib.hid hM.ints
  clear hM hb
  have q_ := al1 w5 (Obj.cells #[.int .i64 tk, .slice R5 tl.length t5] 26)
  have t_ := Lib.hid (BP.out.below q_ zBP)
  clear BP
  have BP := t_
  clear t_
  have t_ := Lib.hid (BQ.out.below q_ zBQ)
  clear BQ
  have BQ := t_
  clear t_
  have t_ := Lib.hid (BX.out.below q_ zBX)
  clear BX
  have BX := t_
  clear t_
  have t_ := Lib.hid (BS.out.below q_ zBS)
  clear BS
  have BS := t_
  clear t_
  have t_ := Lib.hid (LP.out.into q_)
  clear LP
  have LP := t_
  clear t_
  have t_ := Lib.hid (LQ.out.into q_)
  clear LQ
  have LQ := t_
  clear t_
  have t_ := Lib.hid (LX.out.into q_)
  clear LX
  have LX := t_
  clear t_
  have t_ := Lib.hid (LS.out.into q_)
  clear LS
  have LS := t_
  clear t_
  have t_ := Lib.hid (LTT.out.into q_)
  clear LTT
  have LTT := t_
  clear t_
  have t_ := Lib.hid (D.out.trans (q_.mono D.out.size))
  clear D
  have D := t_
  clear t_
  have t_ : w1.heap.size < (w5.alloc (Obj.cells #[.int .i64 tk, .slice R5 tl.length t5] 26)).heap.size := by have := q_.size; omega
  clear zBP
  have zBP := t_
  clear t_
  have t_ : w1.heap.size + 1 < (w5.alloc (Obj.cells #[.int .i64 tk, .slice R5 tl.length t5] 26)).heap.size := by have := q_.size; omega
  clear zBQ
  have zBQ := t_
  clear t_
  have t_ : w3.heap.size < (w5.alloc (Obj.cells #[.int .i64 tk, .slice R5 tl.length t5] 26)).heap.size := by have := q_.size; omega
  clear zBX
  have zBX := t_
  clear t_
  have t_ : w4.heap.size < (w5.alloc (Obj.cells #[.int .i64 tk, .slice R5 tl.length t5] 26)).heap.size := by have := q_.size; omega
  clear zBS
  have zBS := t_
  clear t_
  have BT := Lib.hid (BoxG.new w5 26 (.int .i64 tk) (.slice R5 tl.length t5))
  have zBT : w5.heap.size < (w5.alloc (Obj.cells #[.int .i64 tk, .slice R5 tl.length t5] 26)).heap.size := by simp
  clear q_
  as_aux_lemma =>
  obtain ⟨BPx, BPy⟩ := BP.out
  obtain ⟨BQx, BQy⟩ := BQ.out
  go_wp2_with fail
  refine (add_impl_any s r S R ys.length u zs.length t ys zs _ LQ.out LP.out (by omega) (by omega) sk sl one HS.out.comm).mono ?_
  rintro e w6 ⟨R6, t6, rfl, hM, hb⟩
  clear BPx BPy BQx BQy
  have t_ := Lib.hid (BP.out.below hb zBP)
  clear BP
  have BP := t_
  clear t_
  have t_ := Lib.hid (BQ.out.below hb zBQ)
  clear BQ
  have BQ := t_
  clear t_
  have t_ := Lib.hid (BX.out.below hb zBX)
  clear BX
  have BX := t_
  clear t_
  have t_ := Lib.hid (BS.out.below hb zBS)
  clear BS
  have BS := t_
  clear t_
  have t_ := Lib.hid (BT.out.below hb zBT)
  clear BT
  have BT := t_
  clear t_
  have t_ := Lib.hid (LP.out.into hb)
  clear LP
  have LP := t_
  clear t_
  have t_ := Lib.hid (LQ.out.into hb)
  clear LQ
  have LQ := t_
  clear t_
  have t_ := Lib.hid (LX.out.into hb)
  clear LX
  have LX := t_
  clear t_
  have t_ := Lib.hid (LS.out.into hb)
  clear LS
  have LS := t_
  clear t_
  have t_ := Lib.hid (LTT.out.into hb)
  clear LTT
  have LTT := t_
  clear t_
  have t_ := Lib.hid (D.out.trans (hb.mono D.out.size))
  clear D
  have D := t_
  clear t_
  have t_ : w1.heap.size < w6.heap.size := by have := hb.size; omega
  clear zBP
  have zBP := t_
  clear t_
  have t_ : w1.heap.size + 1 < w6.heap.size := by have := hb.size; omega
  clear zBQ
  have zBQ := t_
  clear t_
  have t_ : w3.heap.size < w6.heap.size := by have := hb.size; omega
  clear zBX
  have zBX := t_
  clear t_
  have t_ : w4.heap.size < w6.heap.size := by have := hb.size; omega
  clear zBS
  have zBS := t_
  clear t_
  have t_ : w5.heap.size < w6.heap.size := by have := hb.size; omega
  clear zBT
  have zBT := t_
  clear t_
  have LA := Lib.hid hM.ints
  clear hM hb
  have q_ := al1 w6 (Obj.cells #[.int .i64 sk, .slice R6 sl.length t6] 26)
  have t_ := Lib.hid (BP.out.below q_ zBP)
  clear BP
  have BP := t_
  clear t_
  have t_ := Lib.hid (BQ.out.below q_ zBQ)
  clear BQ
  have BQ := t_
  clear t_
  have t_ := Lib.hid (BX.out.below q_ zBX)
  clear BX
  have BX := t_
  clear t_
  have t_ := Lib.hid (BS.out.below q_ zBS)
  clear BS
  have BS := t_
  clear t_
  have t_ := Lib.hid (BT.out.below q_ zBT)
  clear BT
  have BT := t_
  clear t_
  have t_ := Lib.hid (LP.out.into q_)
  clear LP
  have LP := t_
  clear t_
  have t_ := Lib.hid (LQ.out.into q_)
  clear LQ
  have LQ := t_
  clear t_
  have t_ := Lib.hid (LX.out.into q_)
  clear LX
  have LX := t_
  clear t_
  have t_ := Lib.hid (LS.out.into q_)
  clear LS
  have LS := t_
  clear t_
  have t_ := Lib.hid (LTT.out.into q_)
  clear LTT
  have LTT := t_
  clear t_
  have t_ := Lib.hid (LA.out.into q_)
  clear LA
  have LA := t_
  clear t_
  have t_ := Lib.hid (D.out.trans (q_.mono D.out.size))
  clear D
  have D := t_
  clear t_
  have t_ : w1.heap.size < (w6.alloc (Obj.cells #[.int .i64 sk, .slice R6 sl.length t6] 26)).heap.size := by have := q_.size; omega
  clear zBP
  have zBP := t_
  clear t_
  have t_ : w1.heap.size + 1 < (w6.alloc (Obj.cells #[.int .i64 sk, .slice R6 sl.length t6] 26)).heap.size := by have := q_.size; omega
  clear zBQ
  have zBQ := t_
  clear t_
  have t_ : w3.heap.size < (w6.alloc (Obj.cells #[.int .i64 sk, .slice R6 sl.length t6] 26)).heap.size := by have := q_.size; omega
  clear zBX
  have zBX := t_
  clear t_
  have t_ : w4.heap.size < (w6.alloc (Obj.cells #[.int .i64 sk, .slice R6 sl.length t6] 26)).heap.size := by have := q_.size; omega
  clear zBS
  have zBS := t_
  clear t_
  have t_ : w5.heap.size < (w6.alloc (Obj.cells #[.int .i64 sk, .slice R6 sl.length t6] 26)).heap.size := by have := q_.size; omega
  clear zBT
  have zBT := t_
  clear t_
  have BA := Lib.hid (BoxG.new w6 26 (.int .i64 sk) (.slice R6 sl.length t6))
  have zBA : w6.heap.size < (w6.alloc (Obj.cells #[.int .i64 sk, .slice R6 sl.length t6] 26)).heap.size := by simp
  clear q_
  as_aux_lemma =>
  obtain ⟨BPx, BPy⟩ := BP.out
  obtain ⟨BQx, BQy⟩ := BQ.out
  go_wp2_with fail
  refine (mul_impl_any s r S R ys.length u zs.length t ys zs _ LQ.out LP.out (by omega) (by omega) tk tl two HT.out.comm).mono ?_
  rintro e w7 ⟨R7, t7, rfl, hM, hb⟩
  clear BPx BPy BQx BQy
  have t_ := Lib.hid (BP.out.below hb zBP)
  clear BP
  have BP := t_
  clear t_
  have t_ := Lib.hid (BQ.out.below hb zBQ)
  clear BQ
  have BQ := t_
  clear t_
  have t_ := Lib.hid (BX.out.below hb zBX)
  clear BX
  have BX := t_
  clear t_
  have t_ := Lib.hid (BS.out.below hb zBS)
  clear BS
  have BS := t_
  clear t_
  have t_ := Lib.hid (BT.out.below hb zBT)
  clear BT
  have BT := t_
  clear t_
  have t_ := Lib.hid (BA.out.below hb zBA)
  clear BA
  have BA := t_
  clear t_
  have t_ := Lib.hid (LP.out.into hb)
  clear LP
  have LP := t_
  clear t_
  have t_ := Lib.hid (LQ.out.into hb)
  clear LQ
  have LQ := t_
  clear t_
  have t_ := Lib.hid (LX.out.into hb)
  clear LX
  have LX := t_
  clear t_
  have t_ := Lib.hid (LS.out.into hb)
  clear LS
  have LS := t_
  clear t_
  have t_ := Lib.hid (LTT.out.into hb)
  clear LTT
  have LTT := t_
  clear t_
  have t_ := Lib.hid (LA.out.into hb)
  clear LA
  have LA := t_
  clear t_
  have t_ := Lib.hid (D.out.trans (hb.mono D.out.size))
  clear D
  have D := t_
  clear t_
  have t_ : w1.heap.size < w7.heap.size := by have := hb.size; omega
  clear zBP
  have zBP := t_
  clear t_
  have t_ : w1.heap.size + 1 < w7.heap.size := by have := hb.size; omega
  clear zBQ
  have zBQ := t_
  clear t_
  have t_ : w3.heap.size < w7.heap.size := by have := hb.size; omega
  clear zBX
  have zBX := t_
  clear t_
  have t_ : w4.heap.size < w7.heap.size := by have := hb.size; omega
  clear zBS
  have zBS := t_
  clear t_
  have t_ : w5.heap.size < w7.heap.size := by have := hb.size; omega
  clear zBT
  have zBT := t_
  clear t_
  have t_ : w6.heap.size < w7.heap.size := by have := hb.size; omega
  clear zBA
  have zBA := t_
  clear t_
  have LB := Lib.hid hM.ints
  clear hM hb
  have q_ := al1 w7 (Obj.cells #[.int .i64 tk, .slice R7 tl.length t7] 26)
  have t_ := Lib.hid (BP.out.below q_ zBP)
  clear BP
  have BP := t_
  clear t_
  have t_ := Lib.hid (BQ.out.below q_ zBQ)
  clear BQ
  have BQ := t_
  clear t_
  have t_ := Lib.hid (BX.out.below q_ zBX)
  clear BX
  have BX := t_
  clear t_
  have t_ := Lib.hid (BS.out.below q_ zBS)
  clear BS
  have BS := t_
  clear t_
  have t_ := Lib.hid (BT.out.below q_ zBT)
  clear BT
  have BT := t_
  clear t_
  have t_ := Lib.hid (BA.out.below q_ zBA)
  clear BA
  have BA := t_
  clear t_
  have t_ := Lib.hid (LP.out.into q_)
  clear LP
  have LP := t_
  clear t_
  have t_ := Lib.hid (LQ.out.into q_)
  clear LQ
  have LQ := t_
  clear t_
  have t_ := Lib.hid (LX.out.into q_)
  clear LX
  have LX := t_
  clear t_
  have t_ := Lib.hid (LS.out.into q_)
  clear LS
  have LS := t_
  clear t_
  have t_ := Lib.hid (LTT.out.into q_)
  clear LTT
  have LTT := t_
  clear t_
  have t_ := Lib.hid (LA.out.into q_)
  clear LA
  have LA := t_
  clear t_
  have t_ := Lib.hid (LB.out.into q_)
  clear LB
  have LB := t_
  clear t_
  have t_ := Lib.hid (D.out.trans (q_.mono D.out.size))
  clear D
  have D := t_
  clear t_
  have t_ : w1.heap.size < (w7.alloc (Obj.cells #[.int .i64 tk, .slice R7 tl.length t7] 26)).heap.size := by have := q_.size; omega
  clear zBP
  have zBP := t_
  clear t_
  have t_ : w1.heap.size + 1 < (w7.alloc (Obj.cells #[.int .i64 tk, .slice R7 tl.length t7] 26)).heap.size := by have := q_.size; omega
  clear zBQ
  have zBQ := t_
  clear t_
  have t_ : w3.heap.size < (w7.alloc (Obj.cells #[.int .i64 tk, .slice R7 tl.length t7] 26)).heap.size := by have := q_.size; omega
  clear zBX
  have zBX := t_
  clear t_
  have t_ : w4.heap.size < (w7.alloc (Obj.cells #[.int .i64 tk, .slice R7 tl.length t7] 26)).heap.size := by have := q_.size; omega
  clear zBS
  have zBS := t_
  clear t_
  have t_ : w5.heap.size < (w7.alloc (Obj.cells #[.int .i64 tk, .slice R7 tl.length t7] 26)).heap.size := by have := q_.size; omega
  clear zBT
  have zBT := t_
  clear t_
  have t_ : w6.heap.size < (w7.alloc (Obj.cells #[.int .i64 tk, .slice R7 tl.length t7] 26)).heap.size := by have := q_.size; omega
  clear zBA
  have zBA := t_
  clear t_
  have BB := Lib.hid (BoxG.new w7 26 (.int .i64 tk) (.slice R7 tl.length t7))
  have zBB : w7.heap.size < (w7.alloc (Obj.cells #[.int .i64 tk, .slice R7 tl.length t7] 26)).heap.size := by simp
  clear q_
  as_aux_lemma =>
  have c1 : (one != one) = false := by simp
  have c2 : (two != two) = false := by simp
  obtain ⟨BSx, BSy⟩ := BS.out
  obtain ⟨BAx, BAy⟩ := BA.out
  go_wp2_with fail
  refine (like_any sk R4 R6 sl.length t4 t6 sl _ _ _ LS.out LA.out (by omega) (Nat.le_refl _) (Nat.le_refl _)).mono ?_
  rintro e w8 ⟨rfl, hb⟩
  clear BSx BSy BAx BAy
  have t_ := Lib.hid (BP.out.below hb zBP)
  clear BP
  have BP := t_
  clear t_
  have t_ := Lib.hid (BQ.out.below hb zBQ)
  clear BQ
  have BQ := t_
  clear t_
  have t_ := Lib.hid (BX.out.below hb zBX)
  clear BX
  have BX := t_
  clear t_
  have t_ := Lib.hid (BS.out.below hb zBS)
  clear BS
  have BS := t_
  clear t_
  have t_ := Lib.hid (BT.out.below hb zBT)
  clear BT
  have BT := t_
  clear t_
  have t_ := Lib.hid (BA.out.below hb zBA)
  clear BA
  have BA := t_
  clear t_
  have t_ := Lib.hid (BB.out.below hb zBB)
  clear BB
  have BB := t_
  clear t_
  have t_ := Lib.hid (LP.out.into hb)
  clear LP
  have LP := t_
  clear t_
  have t_ := Lib.hid (LQ.out.into hb)
  clear LQ
  have LQ := t_
  clear t_
  have t_ := Lib.hid (LX.out.into hb)
  clear LX
  have LX := t_
  clear t_
  have t_ := Lib.hid (LS.out.into hb)
  clear LS
  have LS := t_
  clear t_
  have t_ := Lib.hid (LTT.out.into hb)
  clear LTT
  have LTT := t_
  clear t_
  have t_ := Lib.hid (LA.out.into hb)
  clear LA
  have LA := t_
  clear t_
  have t_ := Lib.hid (LB.out.into hb)
  clear LB
  have LB := t_
  clear t_
  have t_ := Lib.hid (D.out.trans (hb.mono D.out.size))
  clear D
  have D := t_
  clear t_
  have t_ : w1.heap.size < w8.heap.size := by have := hb.size; omega
  clear zBP
  have zBP := t_
  clear t_
  have t_ : w1.heap.size + 1 < w8.heap.size := by have := hb.size; omega
  clear zBQ
  have zBQ := t_
  clear t_
  have t_ : w3.heap.size < w8.heap.size := by have := hb.size; omega
  clear zBX
  have zBX := t_
  clear t_
  have t_ : w4.heap.size < w8.heap.size := by have := hb.size; omega
  clear zBS
  have zBS := t_
  clear t_
  have t_ : w5.heap.size < w8.heap.size := by have := hb.size; omega
  clear zBT
  have zBT := t_
  clear t_
  have t_ : w6.heap.size < w8.heap.size := by have := hb.size; omega
  clear zBA
  have zBA := t_
  clear t_
  have t_ : w7.heap.size < w8.heap.size := by have := hb.size; omega
  clear zBB
  have zBB := t_
  clear t_
  clear hb
  obtain ⟨BTx, BTy⟩ := BT.out
  obtain ⟨BBx, BBy⟩ := BB.out
  go_wp2_with fail
  refine (like_any tk R5 R7 tl.length t5 t7 tl _ _ _ LTT.out LB.out (by omega) (Nat.le_refl _) (Nat.le_refl _)).mono ?_
  rintro e w9 ⟨rfl, hb⟩
  clear BTx BTy BBx BBy
  clear BA BB zBA zBB LA LB
  have t_ := Lib.hid (BP.out.below hb zBP)
  clear BP
  have BP := t_
  clear t_
  have t_ := Lib.hid (BQ.out.below hb zBQ)
  clear BQ
  have BQ := t_
  clear t_
  have t_ := Lib.hid (BX.out.below hb zBX)
  clear BX
  have BX := t_
  clear t_
  have t_ := Lib.hid (BS.out.below hb zBS)
  clear BS
  have BS := t_
  clear t_
  have t_ := Lib.hid (BT.out.below hb zBT)
  clear BT
  have BT := t_
  clear t_
  have t_ := Lib.hid (LP.out.into hb)
  clear LP
  have LP := t_
  clear t_
  have t_ := Lib.hid (LQ.out.into hb)
  clear LQ
  have LQ := t_
  clear t_
  have t_ := Lib.hid (LX.out.into hb)
  clear LX
  have LX := t_
  clear t_
  have t_ := Lib.hid (LS.out.into hb)
  clear LS
  have LS := t_
  clear t_
  have t_ := Lib.hid (LTT.out.into hb)
  clear LTT
  have LTT := t_
  clear t_
  have t_ := Lib.hid (D.out.trans (hb.mono D.out.size))
  clear D
  have D := t_
  clear t_
  have t_ : w1.heap.size < w9.heap.size := by have := hb.size; omega
  clear zBP
  have zBP := t_
  clear t_
  have t_ : w1.heap.size + 1 < w9.heap.size := by have := hb.size; omega
  clear zBQ
  have zBQ := t_
  clear t_
  have t_ : w3.heap.size < w9.heap.size := by have := hb.size; omega
  clear zBX
  have zBX := t_
  clear t_
  have t_ : w4.heap.size < w9.heap.size := by have := hb.size; omega
  clear zBS
  have zBS := t_
  clear t_
  have t_ : w5.heap.size < w9.heap.size := by have := hb.size; omega
  clear zBT
  have zBT := t_
  clear t_
  clear hb c1 c2
  by_cases h1 : one = 0
  case neg =>
    have c1 : (one != 0) = true := by simpa using h1
    clear h1
    go_wp2
    go_ret
    exact ⟨rfl, D.out⟩
  by_cases h2 : two = 0
  case neg =>
    have c1 : (one != 0) = false := by simpa using h1
    have c2 : (two != 0) = true := by simpa using h2
    clear h1 h2
    go_wp2
    go_ret
    exact ⟨rfl, D.out⟩
  subst h1 h2
  as_aux_lemma =>
  obtain ⟨okP, okQ, okS, cS⟩ := HS.out.ok
  obtain ⟨-, -, okT, szT, -, cT⟩ := HT.out.ok
  have OP := Lib.hid okP
  have OQ := Lib.hid okQ
  have OS := Lib.hid okS
  have OT := Lib.hid okT
  clear okP okQ okS okT cS szT cT
  go_wp2_with fail
  go_loopw [14] (fun x wr => ∃ v : Int, AtSign v ∧ x = .int .i64 v ∧ Below w9.heap.size w9 wr) (fun x _ => (3 - intOf x).toNat)
  case atStart => exact ⟨-1, .inl rfl, rfl, Below.refl _ _⟩
  case round =>
    obtain ⟨v, hv, rfl, hbel⟩ := hrel
    have hb := hbel
    have t_ := Lib.hid (BP.out.below hb zBP)
    clear BP
    have BP := t_
    clear t_
    have t_ := Lib.hid (BQ.out.below hb zBQ)
    clear BQ
    have BQ := t_
    clear t_
    have t_ := Lib.hid (BX.out.below hb zBX)
    clear BX
    have BX := t_
    clear t_
    have t_ := Lib.hid (BS.out.below hb zBS)
    clear BS
    have BS := t_
    clear t_
    have t_ := Lib.hid (BT.out.below hb zBT)
    clear BT
    have BT := t_
    clear t_
    have t_ := Lib.hid (LP.out.into hb)
    clear LP
    have LP := t_
    clear t_
    have t_ := Lib.hid (LQ.out.into hb)
    clear LQ
    have LQ := t_
    clear t_
    have t_ := Lib.hid (LX.out.into hb)
    clear LX
    have LX := t_
    clear t_
    have t_ := Lib.hid (LS.out.into hb)
    clear LS
    have LS := t_
    clear t_
    have t_ := Lib.hid (LTT.out.into hb)
    clear LTT
    have LTT := t_
    clear t_
    have t_ := Lib.hid (D.out.trans (hb.mono D.out.size))
    clear D
    have D := t_
    clear t_
    have t_ : w1.heap.size < wr.heap.size := by have := hb.size; omega
    clear zBP
    have zBP := t_
    clear t_
    have t_ : w1.heap.size + 1 < wr.heap.size := by have := hb.size; omega
    clear zBQ
    have zBQ := t_
    clear t_
    have t_ : w3.heap.size < wr.heap.size := by have := hb.size; omega
    clear zBX
    have zBX := t_
    clear t_
    have t_ : w4.heap.size < wr.heap.size := by have := hb.size; omega
    clear zBS
    have zBS := t_
    clear t_
    have t_ : w5.heap.size < wr.heap.size := by have := hb.size; omega
    clear zBT
    have zBT := t_
    clear t_
    have HL := Lib.hid hbel
    clear hb hbel
    rcases hv with rfl | rfl | rfl
    ·
      have e1 := ev_small (s := (-1)) (.inr rfl) OP.out
      have e2 := ev_small (s := (-1)) (.inr rfl) OQ.out
      obtain ⟨X, hX⟩ : ∃ X, evS (-1) r zs zs.length = X := ⟨_, rfl⟩
      obtain ⟨Y, hY⟩ : ∃ Y, evS (-1) s ys ys.length = Y := ⟨_, rfl⟩
      have e3 := HT.out.small (g := (-1)) (.inr rfl)
      rw [hX] at e1
      rw [hY] at e2
      rw [hX, hY] at e3
      have EU := Lib.hid (show evS (-1) sk sl sl.length = X + Y by rw [HS.out.ev, hX, hY])
      have EV := Lib.hid (show evS (-1) tk tl tl.length = X * Y by rw [HT.out.ev (.inr rfl), hX, hY])
      have wu : IntKind.i64.wrap (X + Y) = X + Y := IntWalk.i64_in _ (by omega)
      have wv : IntKind.i64.wrap (X * Y) = X * Y := IntWalk.i64_in _ (by omega)
      have bu : (X + Y != X + Y) = false := by simp
      have bv : (X * Y != X * Y) = false := by simp
      have HX := Lib.hid hX
      have HY := Lib.hid hY
      clear hX hY e1 e2 e3
      obtain ⟨BPx, BPy⟩ := BP.out
      go_wp2_with fail
      have cc := ev_impl_neg r R zs.length t zs wr LP.out (by omega) OP.out
      rw [HX.out] at cc
      refine cc.mono ?_
      rintro e x0 ⟨rfl, hb⟩
      clear cc
      clear BPx BPy
      have t_ := Lib.hid (BP.out.below hb zBP)
      clear BP
      have BP := t_
      clear t_
      have t_ := Lib.hid (BQ.out.below hb zBQ)
      clear BQ
      have BQ := t_
      clear t_
      have t_ := Lib.hid (BX.out.below hb zBX)
      clear BX
      have BX := t_
      clear t_
      have t_ := Lib.hid (BS.out.below hb zBS)
      clear BS
      have BS := t_
      clear t_
      have t_ := Lib.hid (BT.out.below hb zBT)
      clear BT
      have BT := t_
      clear t_
      have t_ := Lib.hid (LP.out.into hb)
      clear LP
      have LP := t_
      clear t_
      have t_ := Lib.hid (LQ.out.into hb)
      clear LQ
      have LQ := t_
      clear t_
      have t_ := Lib.hid (LX.out.into hb)
      clear LX
      have LX := t_
      clear t_
      have t_ := Lib.hid (LS.out.into hb)
      clear LS
      have LS := t_
      clear t_
      have t_ := Lib.hid (LTT.out.into hb)
      clear LTT
      have LTT := t_
      clear t_
      have t_ := Lib.hid (D.out.trans (hb.mono D.out.size))
      clear D
      have D := t_
      clear t_
      have t_ : w1.heap.size < x0.heap.size := by have := hb.size; omega
      clear zBP
      have zBP := t_
      clear t_
      have t_ : w1.heap.size + 1 < x0.heap.size := by have := hb.size; omega
      clear zBQ
      have zBQ := t_
      clear t_
      have t_ : w3.heap.size < x0.heap.size := by have := hb.size; omega
      clear zBX
      have zBX := t_
      clear t_
      have t_ : w4.heap.size < x0.heap.size := by have := hb.size; omega
      clear zBS
      have zBS := t_
      clear t_
      have t_ : w5.heap.size < x0.heap.size := by have := hb.size; omega
      clear zBT
      have zBT := t_
      clear t_
      have t_ := Lib.hid (HL.out.trans (hb.mono HL.out.size))
      clear HL
      have HL := t_
      clear t_
      clear hb
      obtain ⟨BQx, BQy⟩ := BQ.out
      go_wp2_with fail
      have cc := ev_impl_neg s S ys.length u ys x0 LQ.out (by omega) OQ.out
      rw [HY.out] at cc
      refine cc.mono ?_
      rintro e x1 ⟨rfl, hb⟩
      clear cc
      clear BQx BQy
      have t_ := Lib.hid (BP.out.below hb zBP)
      clear BP
      have BP := t_
      clear t_
      have t_ := Lib.hid (BQ.out.below hb zBQ)
      clear BQ
      have BQ := t_
      clear t_
      have t_ := Lib.hid (BX.out.below hb zBX)
      clear BX
      have BX := t_
      clear t_
      have t_ := Lib.hid (BS.out.below hb zBS)
      clear BS
      have BS := t_
      clear t_
      have t_ := Lib.hid (BT.out.below hb zBT)
      clear BT
      have BT := t_
      clear t_
      have t_ := Lib.hid (LP.out.into hb)
      clear LP
      have LP := t_
      clear t_
      have t_ := Lib.hid (LQ.out.into hb)
      clear LQ
      have LQ := t_
      clear t_
      have t_ := Lib.hid (LX.out.into hb)
      clear LX
      have LX := t_
      clear t_
      have t_ := Lib.hid (LS.out.into hb)
      clear LS
      have LS := t_
      clear t_
      have t_ := Lib.hid (LTT.out.into hb)
      clear LTT
      have LTT := t_
      clear t_
      have t_ := Lib.hid (D.out.trans (hb.mono D.out.size))
      clear D
      have D := t_
      clear t_
      have t_ : w1.heap.size < x1.heap.size := by have := hb.size; omega
      clear zBP
      have zBP := t_
      clear t_
      have t_ : w1.heap.size + 1 < x1.heap.size := by have := hb.size; omega
      clear zBQ
      have zBQ := t_
      clear t_
      have t_ : w3.heap.size < x1.heap.size := by have := hb.size; omega
      clear zBX
      have zBX := t_
      clear t_
      have t_ : w4.heap.size < x1.heap.size := by have := hb.size; omega
      clear zBS
      have zBS := t_
      clear t_
      have t_ : w5.heap.size < x1.heap.size := by have := hb.size; omega
      clear zBT
      have zBT := t_
      clear t_
      have t_ := Lib.hid (HL.out.trans (hb.mono HL.out.size))
      clear HL
      have HL := t_
      clear t_
      clear hb
      obtain ⟨BSx, BSy⟩ := BS.out
      go_wp2_with fail
      have cc := ev_impl_neg sk R4 sl.length t4 sl x1 LS.out (by omega) OS.out
      rw [EU.out] at cc
      refine cc.mono ?_
      rintro e x2 ⟨rfl, hb⟩
      clear cc
      clear BSx BSy
      have t_ := Lib.hid (BP.out.below hb zBP)
      clear BP
      have BP := t_
      clear t_
      have t_ := Lib.hid (BQ.out.below hb zBQ)
      clear BQ
      have BQ := t_
      clear t_
      have t_ := Lib.hid (BX.out.below hb zBX)
      clear BX
      have BX := t_
      clear t_
      have t_ := Lib.hid (BS.out.below hb zBS)
      clear BS
      have BS := t_
      clear t_
      have t_ := Lib.hid (BT.out.below hb zBT)
      clear BT
      have BT := t_
      clear t_
      have t_ := Lib.hid (LP.out.into hb)
      clear LP
      have LP := t_
      clear t_
      have t_ := Lib.hid (LQ.out.into hb)
      clear LQ
      have LQ := t_
      clear t_
      have t_ := Lib.hid (LX.out.into hb)
      clear LX
      have LX := t_
      clear t_
      have t_ := Lib.hid (LS.out.into hb)
      clear LS
      have LS := t_
      clear t_
      have t_ := Lib.hid (LTT.out.into hb)
      clear LTT
      have LTT := t_
      clear t_
      have t_ := Lib.hid (D.out.trans (hb.mono D.out.size))
      clear D
      have D := t_
      clear t_
      have t_ : w1.heap.size < x2.heap.size := by have := hb.size; omega
      clear zBP
      have zBP := t_
      clear t_
      have t_ : w1.heap.size + 1 < x2.heap.size := by have := hb.size; omega
      clear zBQ
      have zBQ := t_
      clear t_
      have t_ : w3.heap.size < x2.heap.size := by have := hb.size; omega
      clear zBX
      have zBX := t_
      clear t_
      have t_ : w4.heap.size < x2.heap.size := by have := hb.size; omega
      clear zBS
      have zBS := t_
      clear t_
      have t_ : w5.heap.size < x2.heap.size := by have := hb.size; omega
      clear zBT
      have zBT := t_
      clear t_
      have t_ := Lib.hid (HL.out.trans (hb.mono HL.out.size))
      clear HL
      have HL := t_
      clear t_
      clear hb
      obtain ⟨BTx, BTy⟩ := BT.out
      go_wp2_with fail
      have cc := ev_impl_neg tk R5 tl.length t5 tl x2 LTT.out (by omega) OT.out
      rw [EV.out] at cc
      refine cc.mono ?_
      rintro e x3 ⟨rfl, hb⟩
      clear cc
      clear BTx BTy
      have t_ := Lib.hid (BP.out.below hb zBP)
      clear BP
      have BP := t_
      clear t_
      have t_ := Lib.hid (BQ.out.below hb zBQ)
      clear BQ
      have BQ := t_
      clear t_
      have t_ := Lib.hid (BX.out.below hb zBX)
      clear BX
      have BX := t_
      clear t_
      have t_ := Lib.hid (BS.out.below hb zBS)
      clear BS
      have BS := t_
      clear t_
      have t_ := Lib.hid (BT.out.below hb zBT)
      clear BT
      have BT := t_
      clear t_
      have t_ := Lib.hid (LP.out.into hb)
      clear LP
      have LP := t_
      clear t_
      have t_ := Lib.hid (LQ.out.into hb)
      clear LQ
      have LQ := t_
      clear t_
      have t_ := Lib.hid (LX.out.into hb)
      clear LX
      have LX := t_
      clear t_
      have t_ := Lib.hid (LS.out.into hb)
      clear LS
      have LS := t_
      clear t_
      have t_ := Lib.hid (LTT.out.into hb)
      clear LTT
      have LTT := t_
      clear t_
      have t_ := Lib.hid (D.out.trans (hb.mono D.out.size))
      clear D
      have D := t_
      clear t_
      have t_ : w1.heap.size < x3.heap.size := by have := hb.size; omega
      clear zBP
      have zBP := t_
      clear t_
      have t_ : w1.heap.size + 1 < x3.heap.size := by have := hb.size; omega
      clear zBQ
      have zBQ := t_
      clear t_
      have t_ : w3.heap.size < x3.heap.size := by have := hb.size; omega
      clear zBX
      have zBX := t_
      clear t_
      have t_ : w4.heap.size < x3.heap.size := by have := hb.size; omega
      clear zBS
      have zBS := t_
      clear t_
      have t_ : w5.heap.size < x3.heap.size := by have := hb.size; omega
      clear zBT
      have zBT := t_
      clear t_
      have t_ := Lib.hid (HL.out.trans (hb.mono HL.out.size))
      clear HL
      have HL := t_
      clear t_
      clear hb
      go_wp2
      go_roundw
      case rel => exact ⟨1, .inr (.inl rfl), rfl, HL.out⟩
      case measure => simp [intOf]
    ·
      have e1 := ev_small (s := 1) (.inl rfl) OP.out
      have e2 := ev_small (s := 1) (.inl rfl) OQ.out
      obtain ⟨X, hX⟩ : ∃ X, evS 1 r zs zs.length = X := ⟨_, rfl⟩
      obtain ⟨Y, hY⟩ : ∃ Y, evS 1 s ys ys.length = Y := ⟨_, rfl⟩
      have e3 := HT.out.small (g := 1) (.inl rfl)
      rw [hX] at e1
      rw [hY] at e2
      rw [hX, hY] at e3
      have EU := Lib.hid (show evS 1 sk sl sl.length = X + Y by rw [HS.out.ev, hX, hY])
      have EV := Lib.hid (show evS 1 tk tl tl.length = X * Y by rw [HT.out.ev (.inl rfl), hX, hY])
      have wu : IntKind.i64.wrap (X + Y) = X + Y := IntWalk.i64_in _ (by omega)
      have wv : IntKind.i64.wrap (X * Y) = X * Y := IntWalk.i64_in _ (by omega)
      have bu : (X + Y != X + Y) = false := by simp
      have bv : (X * Y != X * Y) = false := by simp
      have HX := Lib.hid hX
      have HY := Lib.hid hY
      clear hX hY e1 e2 e3
      obtain ⟨BPx, BPy⟩ := BP.out
      go_wp2_with fail
      have cc := ev_impl_one r R zs.length t zs wr LP.out (by omega) OP.out
      rw [HX.out] at cc
      refine cc.mono ?_
      rintro e x0 ⟨rfl, hb⟩
      clear cc
      clear BPx BPy
      have t_ := Lib.hid (BP.out.below hb zBP)
      clear BP
      have BP := t_
      clear t_
      have t_ := Lib.hid (BQ.out.below hb zBQ)
      clear BQ
      have BQ := t_
      clear t_
      have t_ := Lib.hid (BX.out.below hb zBX)
      clear BX
      have BX := t_
      clear t_
      have t_ := Lib.hid (BS.out.below hb zBS)
      clear BS
      have BS := t_
      clear t_
      have t_ := Lib.hid (BT.out.below hb zBT)
      clear BT
      have BT := t_
      clear t_
      have t_ := Lib.hid (LP.out.into hb)
      clear LP
      have LP := t_
      clear t_
      have t_ := Lib.hid (LQ.out.into hb)
      clear LQ
      have LQ := t_
      clear t_
      have t_ := Lib.hid (LX.out.into hb)
      clear LX
      have LX := t_
      clear t_
      have t_ := Lib.hid (LS.out.into hb)
      clear LS
      have LS := t_
      clear t_
      have t_ := Lib.hid (LTT.out.into hb)
      clear LTT
      have LTT := t_
      clear t_
      have t_ := Lib.hid (D.out.trans (hb.mono D.out.size))
      clear D
      have D := t_
      clear t_
      have t_ : w1.heap.size < x0.heap.size := by have := hb.size; omega
      clear zBP
      have zBP := t_
      clear t_
      have t_ : w1.heap.size + 1 < x0.heap.size := by have := hb.size; omega
      clear zBQ
      have zBQ := t_
      clear t_
      have t_ : w3.heap.size < x0.heap.size := by have := hb.size; omega
      clear zBX
      have zBX := t_
      clear t_
      have t_ : w4.heap.size < x0.heap.size := by have := hb.size; omega
      clear zBS
      have zBS := t_
      clear t_
      have t_ : w5.heap.size < x0.heap.size := by have := hb.size; omega
      clear zBT
      have zBT := t_
      clear t_
      have t_ := Lib.hid (HL.out.trans (hb.mono HL.out.size))
      clear HL
      have HL := t_
      clear t_
      clear hb
      obtain ⟨BQx, BQy⟩ := BQ.out
      go_wp2_with fail
      have cc := ev_impl_one s S ys.length u ys x0 LQ.out (by omega) OQ.out
      rw [HY.out] at cc
      refine cc.mono ?_
      rintro e x1 ⟨rfl, hb⟩
      clear cc
      clear BQx BQy
      have t_ := Lib.hid (BP.out.below hb zBP)
      clear BP
      have BP := t_
      clear t_
      have t_ := Lib.hid (BQ.out.below hb zBQ)
      clear BQ
      have BQ := t_
      clear t_
      have t_ := Lib.hid (BX.out.below hb zBX)
      clear BX
      have BX := t_
      clear t_
      have t_ := Lib.hid (BS.out.below hb zBS)
      clear BS
      have BS := t_
      clear t_
      have t_ := Lib.hid (BT.out.below hb zBT)
      clear BT
      have BT := t_
      clear t_
      have t_ := Lib.hid (LP.out.into hb)
      clear LP
      have LP := t_
      clear t_
      have t_ := Lib.hid (LQ.out.into hb)
      clear LQ
      have LQ := t_
      clear t_
      have t_ := Lib.hid (LX.out.into hb)
      clear LX
      have LX := t_
      clear t_
      have t_ := Lib.hid (LS.out.into hb)
      clear LS
      have LS := t_
      clear t_
      have t_ := Lib.hid (LTT.out.into hb)
      clear LTT
      have LTT := t_
      clear t_
      have t_ := Lib.hid (D.out.trans (hb.mono D.out.size))
      clear D
      have D := t_
      clear t_
      have t_ : w1.heap.size < x1.heap.size := by have := hb.size; omega
      clear zBP
      have zBP := t_
      clear t_
      have t_ : w1.heap.size + 1 < x1.heap.size := by have := hb.size; omega
      clear zBQ
      have zBQ := t_
      clear t_
      have t_ : w3.heap.size < x1.heap.size := by have := hb.size; omega
      clear zBX
      have zBX := t_
      clear t_
      have t_ : w4.heap.size < x1.heap.size := by have := hb.size; omega
      clear zBS
      have zBS := t_
      clear t_
      have t_ : w5.heap.size < x1.heap.size := by have := hb.size; omega
      clear zBT
      have zBT := t_
      clear t_
      have t_ := Lib.hid (HL.out.trans (hb.mono HL.out.size))
      clear HL
      have HL := t_
      clear t_
      clear hb
      obtain ⟨BSx, BSy⟩ := BS.out
      go_wp2_with fail
      have cc := ev_impl_one sk R4 sl.length t4 sl x1 LS.out (by omega) OS.out
      rw [EU.out] at cc
      refine cc.mono ?_
      rintro e x2 ⟨rfl, hb⟩
      clear cc
      clear BSx BSy
      have t_ := Lib.hid (BP.out.below hb zBP)
      clear BP
      have BP := t_
      clear t_
      have t_ := Lib.hid (BQ.out.below hb zBQ)
      clear BQ
      have BQ := t_
      clear t_
      have t_ := Lib.hid (BX.out.below hb zBX)
      clear BX
      have BX := t_
      clear t_
      have t_ := Lib.hid (BS.out.below hb zBS)
      clear BS
      have BS := t_
      clear t_
      have t_ := Lib.hid (BT.out.below hb zBT)
      clear BT
      have BT := t_
      clear t_
      have t_ := Lib.hid (LP.out.into hb)
      clear LP
      have LP := t_
      clear t_
      have t_ := Lib.hid (LQ.out.into hb)
      clear LQ
      have LQ := t_
      clear t_
      have t_ := Lib.hid (LX.out.into hb)
      clear LX
      have LX := t_
      clear t_
      have t_ := Lib.hid (LS.out.into hb)
      clear LS
      have LS := t_
      clear t_
      have t_ := Lib.hid (LTT.out.into hb)
      clear LTT
      have LTT := t_
      clear t_
      have t_ := Lib.hid (D.out.trans (hb.mono D.out.size))
      clear D
      have D := t_
      clear t_
      have t_ : w1.heap.size < x2.heap.size := by have := hb.size; omega
      clear zBP
      have zBP := t_
      clear t_
      have t_ : w1.heap.size + 1 < x2.heap.size := by have := hb.size; omega
      clear zBQ
      have zBQ := t_
      clear t_
      have t_ : w3.heap.size < x2.heap.size := by have := hb.size; omega
      clear zBX
      have zBX := t_
      clear t_
      have t_ : w4.heap.size < x2.heap.size := by have := hb.size; omega
      clear zBS
      have zBS := t_
      clear t_
      have t_ : w5.heap.size < x2.heap.size := by have := hb.size; omega
      clear zBT
      have zBT := t_
      clear t_
      have t_ := Lib.hid (HL.out.trans (hb.mono HL.out.size))
      clear HL
      have HL := t_
      clear t_
      clear hb
      obtain ⟨BTx, BTy⟩ := BT.out
      go_wp2_with fail
      have cc := ev_impl_one tk R5 tl.length t5 tl x2 LTT.out (by omega) OT.out
      rw [EV.out] at cc
      refine cc.mono ?_
      rintro e x3 ⟨rfl, hb⟩
      clear cc
      clear BTx BTy
      have t_ := Lib.hid (BP.out.below hb zBP)
      clear BP
      have BP := t_
      clear t_
      have t_ := Lib.hid (BQ.out.below hb zBQ)
      clear BQ
      have BQ := t_
      clear t_
      have t_ := Lib.hid (BX.out.below hb zBX)
      clear BX
      have BX := t_
      clear t_
      have t_ := Lib.hid (BS.out.below hb zBS)
      clear BS
      have BS := t_
      clear t_
      have t_ := Lib.hid (BT.out.below hb zBT)
      clear BT
      have BT := t_
      clear t_
      have t_ := Lib.hid (LP.out.into hb)
      clear LP
      have LP := t_
      clear t_
      have t_ := Lib.hid (LQ.out.into hb)
      clear LQ
      have LQ := t_
      clear t_
      have t_ := Lib.hid (LX.out.into hb)
      clear LX
      have LX := t_
      clear t_
      have t_ := Lib.hid (LS.out.into hb)
      clear LS
      have LS := t_
      clear t_
      have t_ := Lib.hid (LTT.out.into hb)
      clear LTT
      have LTT := t_
      clear t_
      have t_ := Lib.hid (D.out.trans (hb.mono D.out.size))
      clear D
      have D := t_
      clear t_
      have t_ : w1.heap.size < x3.heap.size := by have := hb.size; omega
      clear zBP
      have zBP := t_
      clear t_
      have t_ : w1.heap.size + 1 < x3.heap.size := by have := hb.size; omega
      clear zBQ
      have zBQ := t_
      clear t_
      have t_ : w3.heap.size < x3.heap.size := by have := hb.size; omega
      clear zBX
      have zBX := t_
      clear t_
      have t_ : w4.heap.size < x3.heap.size := by have := hb.size; omega
      clear zBS
      have zBS := t_
      clear t_
      have t_ : w5.heap.size < x3.heap.size := by have := hb.size; omega
      clear zBT
      have zBT := t_
      clear t_
      have t_ := Lib.hid (HL.out.trans (hb.mono HL.out.size))
      clear HL
      have HL := t_
      clear t_
      clear hb
      go_wp2
      go_roundw
      case rel => exact ⟨3, .inr (.inr rfl), rfl, HL.out⟩
      case measure => simp [intOf]
    ·
      clear HL
      obtain ⟨wj, rfl⟩ : ∃ W : World, W = wr := ⟨_, rfl⟩
      as_aux_lemma =>
      obtain ⟨zr, hzr⟩ : ∃ zr, zs.reverse = zr := ⟨_, rfl⟩
      obtain ⟨yr, hyr⟩ : ∃ yr, ys.reverse = yr := ⟨_, rfl⟩
      obtain ⟨tr, htr⟩ : ∃ tr, tl.reverse = tr := ⟨_, rfl⟩
      have IM := HT.out.inv
      rw [hzr, hyr, htr] at IM
      have HI := Lib.hid IM
      clear IM
      have IP := Lib.hid (fun W (hi : Ints W W.heap.size R zs.length zs) => (show Calls Try.prog 12 #[.agg #[.int .i64 r, .slice R zs.length t]] W (ResL1 W (invLow r zs.length) zr) from (by rw [← hzr]; exact invert_impl_yes r R zs.length t zs W hi (by omega) OP.out)))
      have IQ := Lib.hid (fun W (hi : Ints W W.heap.size S ys.length ys) => (show Calls Try.prog 12 #[.agg #[.int .i64 s, .slice S ys.length u]] W (ResL1 W (invLow s ys.length) yr) from (by rw [← hyr]; exact invert_impl_yes s S ys.length u ys W hi (by omega) OQ.out)))
      have IT := Lib.hid (fun W (hi : Ints W W.heap.size R5 tl.length tl) => (show Calls Try.prog 12 #[.agg #[.int .i64 tk, .slice R5 tl.length t5]] W (ResL1 W (invLow tk tl.length) tr) from (by rw [← htr]; exact invert_impl_yes tk R5 tl.length t5 tl W hi (by omega) OT.out)))
      have lz : zr.length = zs.length := by rw [← hzr, List.length_reverse]
      have ly : yr.length = ys.length := by rw [← hyr, List.length_reverse]
      have lt : tr.length = tl.length := by rw [← htr, List.length_reverse]
      have LZ := Lib.hid lz
      have LY := Lib.hid ly
      have LTR := Lib.hid lt
      clear hzr hyr htr lz ly lt
      obtain ⟨BPx, BPy⟩ := BP.out
      obtain ⟨BQx, BQy⟩ := BQ.out
      have zP : w1.heap.size < wj.heap.size := zBP
      have zQ : w1.heap.size + 1 < wj.heap.size := zBQ
      go_upto_region 22 with fail
      go_cut [23, 24] (fun p x W => CutL wj (invLow tk tl.length) tr (.int .i64 0) p x W)
      case first =>
        go_region_held3 (fun W => (W.cell? ⟨w1.heap.size, 0, none⟩ = some (.int .i64 r) ∧ W.cell? ⟨w1.heap.size, 1, none⟩ = some (.slice R zs.length t)) ∧ (W.cell? ⟨w1.heap.size + 1, 0, none⟩ = some (.int .i64 s) ∧ W.cell? ⟨w1.heap.size + 1, 1, none⟩ = some (.slice S ys.length u))) (go_keep)
          (first
            | (go_at_call 12; (with_reducible refine (IP.out _ (by first | exact LP.out.into (Below.refl wj.heap.size wj).drew | exact LP.out.into ((Below.refl wj.heap.size wj).alloc (Nat.le_refl _) _).drew)).mono ?_); rintro e w6' ⟨RI, tI, rfl, hk6, hb6⟩; (first | (have U6 : Hid (Below wj.heap.size wj w6') := Lib.hid (undrew hb6); have z6 : wj.heap.size ≤ w6'.heap.size := U6.out.size; (try have Zb := Lib.hid (Zb.out.below U6.out (by omega))); (try have Zf := Lib.hid (Zf.out.below U6.out (by omega)))) | (have U6 : Hid (Below wj.heap.size wj w6') := Lib.hid (on1 _ (undrew hb6)); have z6 : wj.heap.size < w6'.heap.size := (by have := (undrew hb6).size; simp at this; omega); have Zb := Lib.hid ((BoxG.new wj 26 (.int .i64 0) (.slice none 0 0)).below (undrew hb6) (by simp)); have Zf := Lib.hid ((Free.new wj 26 #[.int .i64 0, .slice none 0 0]).below (undrew hb6) (by simp)))); have K6 := Lib.hid hk6.ints; obtain ⟨e0, e1⟩ := BP.out.below U6.out zP; obtain ⟨e3, e4⟩ := BQ.out.below U6.out zQ; have y6 : w1.heap.size < w6'.heap.size := (by omega); have y6' : w1.heap.size + 1 < w6'.heap.size := (by omega); (try obtain ⟨j0, j1⟩ := Zb.out); (try have jf := Zf.out); (try unfold Free at jf); clear hk6 hb6)
            | (go_at_call 12; (with_reducible refine (IQ.out _ (by first | exact LQ.out.into U6.out | exact LQ.out.into (U6.out.alloc U6.out.size _))).mono ?_); rintro e w7' ⟨RJ, tJ, rfl, hk7, hb7⟩; (first | (have U7 : Hid (Below w6'.heap.size w6' w7') := Lib.hid hb7; have z7 : w6'.heap.size ≤ w7'.heap.size := U7.out.size; (try have Zb := Lib.hid (Zb.out.below U7.out (by omega))); (try have Zf := Lib.hid (Zf.out.below U7.out (by omega)))) | (have U7 : Hid (Below w6'.heap.size w6' w7') := Lib.hid (on1 _ hb7); have z7 : w6'.heap.size < w7'.heap.size := (by have := hb7.size; simp at this; omega); have Zb := Lib.hid ((BoxG.new w6' 26 (.int .i64 0) (.slice none 0 0)).below hb7 (by simp)); have Zf := Lib.hid ((Free.new w6' 26 #[.int .i64 0, .slice none 0 0]).below hb7 (by simp)))); have K7 := Lib.hid hk7.ints; obtain ⟨f0, f1⟩ := (BP.out.below U6.out zP).below U7.out y6; obtain ⟨f3, f4⟩ := (BQ.out.below U6.out zQ).below U7.out y6'; have y7 : w1.heap.size < w7'.heap.size := (by omega); have y7' : w1.heap.size + 1 < w7'.heap.size := (by omega); (try clear j0 j1 jf); (try obtain ⟨j0, j1⟩ := Zb.out); (try have jf := Zf.out); (try unfold Free at jf); clear hk7 hb7)
            | (go_at_call 9; (first | with_reducible refine (mul_impl_any (invLow r zs.length) (invLow s ys.length) RI RJ zr.length tI yr.length tJ zr yr _ (by exact K6.out.into U7.out) (by exact K7.out) (by rw [LZ.out]; omega) (by rw [LY.out]; omega) _ _ _ HI.out).mono ?_ | with_reducible refine (mul_impl_any (invLow r zs.length) (invLow s ys.length) RI RJ zr.length tI yr.length tJ zr yr _ (by exact (K6.out.into U7.out).into (al1 _ _)) (by exact K7.out.into (al1 _ _)) (by rw [LZ.out]; omega) (by rw [LY.out]; omega) _ _ _ HI.out).mono ?_); rintro e w3' ⟨R3, t3, rfl, hown, hb8⟩; (first | (have U8 : Hid (Below w7'.heap.size w7' w3') := Lib.hid hb8; have z8 : w7'.heap.size ≤ w3'.heap.size := U8.out.size; (try have Zb := Lib.hid (Zb.out.below U8.out (by omega))); (try have Zf := Lib.hid (Zf.out.below U8.out (by omega)))) | (have U8 : Hid (Below w7'.heap.size w7' w3') := Lib.hid (on1 _ hb8); have z8 : w7'.heap.size < w3'.heap.size := (by have := hb8.size; simp at this; omega); have Zb := Lib.hid ((BoxG.new w7' 26 (.int .i64 0) (.slice none 0 0)).below hb8 (by simp)); have Zf := Lib.hid ((Free.new w7' 26 #[.int .i64 0, .slice none 0 0]).below hb8 (by simp)))); have O8 := Lib.hid hown; have y8 : w1.heap.size < w3'.heap.size := (by omega); have y8' : w1.heap.size + 1 < w3'.heap.size := (by omega); have x8 : ¬ w3'.heap.size = w1.heap.size := (by omega); have x8' : ¬ w3'.heap.size = w1.heap.size + 1 := (by omega); have xa : ¬ wj.heap.size = w1.heap.size := (by omega); have xb : ¬ wj.heap.size = w1.heap.size + 1 := (by omega); have xc : ¬ w6'.heap.size = w1.heap.size := (by omega); have xd : ¬ w6'.heap.size = w1.heap.size + 1 := (by omega); have xe : ¬ w7'.heap.size = w1.heap.size := (by omega); have xf : ¬ w7'.heap.size = w1.heap.size + 1 := (by omega); obtain ⟨m0, m1⟩ := ((BP.out.below U6.out zP).below U7.out y6).below U8.out y7; obtain ⟨m3, m4⟩ := ((BQ.out.below U6.out zQ).below U7.out y6').below U8.out y7'; (try clear j0 j1 jf); (try obtain ⟨j0, j1⟩ := Zb.out); (try have jf := Zf.out); (try unfold Free at jf); clear hown hb8))
        all_goals
          have UU := (U6.out.trans (U7.out.mono (by omega))).trans (U8.out.mono (by omega))
          have UH := Lib.hid UU
          clear UU
          clear e0 e1 e3 e4 f0 f1 f3 f4 m0 m1 m3 m4
          go_wp2_with fail
          go_meet
          first
            | exact CutL.new O8.out UH.out (by (try simp) <;> omega)
            | exact CutL.old O8.out Zb.out UH.out (by omega) (by (try simp) <;> omega) (by omega)
      obtain ⟨β3, R3, t3, rfl, rfl, hbx, hlo, hhi, hown, hb⟩ := hcut
      obtain ⟨wk, rfl⟩ : ∃ W : World, W = wc := ⟨_, rfl⟩
      clear BPx BPy BQx BQy
      have t_ := Lib.hid (BP.out.below hb zBP)
      clear BP
      have BP := t_
      clear t_
      have t_ := Lib.hid (BQ.out.below hb zBQ)
      clear BQ
      have BQ := t_
      clear t_
      have t_ := Lib.hid (BX.out.below hb zBX)
      clear BX
      have BX := t_
      clear t_
      have t_ := Lib.hid (BS.out.below hb zBS)
      clear BS
      have BS := t_
      clear t_
      have t_ := Lib.hid (BT.out.below hb zBT)
      clear BT
      have BT := t_
      clear t_
      have t_ := Lib.hid (LP.out.into hb)
      clear LP
      have LP := t_
      clear t_
      have t_ := Lib.hid (LQ.out.into hb)
      clear LQ
      have LQ := t_
      clear t_
      have t_ := Lib.hid (LX.out.into hb)
      clear LX
      have LX := t_
      clear t_
      have t_ := Lib.hid (LS.out.into hb)
      clear LS
      have LS := t_
      clear t_
      have t_ := Lib.hid (LTT.out.into hb)
      clear LTT
      have LTT := t_
      clear t_
      have t_ := Lib.hid (D.out.trans (hb.mono D.out.size))
      clear D
      have D := t_
      clear t_
      have t_ : w1.heap.size < wk.heap.size := by have := hb.size; omega
      clear zBP
      have zBP := t_
      clear t_
      have t_ : w1.heap.size + 1 < wk.heap.size := by have := hb.size; omega
      clear zBQ
      have zBQ := t_
      clear t_
      have t_ : w3.heap.size < wk.heap.size := by have := hb.size; omega
      clear zBX
      have zBX := t_
      clear t_
      have t_ : w4.heap.size < wk.heap.size := by have := hb.size; omega
      clear zBS
      have zBS := t_
      clear t_
      have t_ : w5.heap.size < wk.heap.size := by have := hb.size; omega
      clear zBT
      have zBT := t_
      clear t_
      have LW := Lib.hid hown.ints
      have BW := Lib.hid hbx
      have zBW : β3 < wk.heap.size := hhi
      clear hown hbx hb zP zQ hlo IP IQ HI
      as_aux_lemma =>
      obtain ⟨BWx, BWy⟩ := BW.out
      obtain ⟨BTx, BTy⟩ := BT.out
      go_wp2_with fail
      go_region_held3 (fun W => (W.cell? ⟨β3, 0, none⟩ = some (.int .i64 (invLow tk tl.length)) ∧ W.cell? ⟨β3, 1, none⟩ = some (.slice R3 tr.length t3)) ∧ (W.cell? ⟨w5.heap.size, 0, none⟩ = some (.int .i64 tk) ∧ W.cell? ⟨w5.heap.size, 1, none⟩ = some (.slice R5 tl.length t5))) (go_keep)
        (first
          | (go_at_call 12; (with_reducible refine (IT.out _ (by exact LTT.out.into (Below.refl wk.heap.size wk).drew)).mono ?_); rintro e w6' ⟨RI, tI, rfl, hk6, hb6'⟩; have hb6 := undrew hb6'; have B6 := Lib.hid hb6; have K6 := Lib.hid hk6.ints; have z6 : wk.heap.size ≤ w6'.heap.size := hb6.size; obtain ⟨e0, e1⟩ := BW.out.below hb6 zBW; obtain ⟨f0, f1⟩ := BT.out.below hb6 zBT; clear hk6 hb6 hb6')
          | (go_at_call 10; (with_reducible refine (like_any (invLow tk tl.length) R3 RI tr.length t3 tI tr wk.heap.size _ _ (by exact LW.out.below B6.out) (by exact K6.out) (by rw [LTR.out]; omega) (by exact z6) (Nat.le_refl _)).mono ?_); rintro e w7' ⟨rfl, hb7⟩; have B7 := Lib.hid (B6.out.trans (hb7.mono z6)); obtain ⟨m0, m1⟩ := BW.out.below B7.out zBW; obtain ⟨m3, m4⟩ := BT.out.below B7.out zBT; clear hb7))
      clear e0 e1 f0 f1 m0 m1 m3 m4 K6 B6
      have hb := B7.out
      clear BWx BWy BTx BTy
      clear BW zBW LW BT zBT LTT IT
      have t_ := Lib.hid (BP.out.below hb zBP)
      clear BP
      have BP := t_
      clear t_
      have t_ := Lib.hid (BQ.out.below hb zBQ)
      clear BQ
      have BQ := t_
      clear t_
      have t_ := Lib.hid (BX.out.below hb zBX)
      clear BX
      have BX := t_
      clear t_
      have t_ := Lib.hid (BS.out.below hb zBS)
      clear BS
      have BS := t_
      clear t_
      have t_ := Lib.hid (LP.out.into hb)
      clear LP
      have LP := t_
      clear t_
      have t_ := Lib.hid (LQ.out.into hb)
      clear LQ
      have LQ := t_
      clear t_
      have t_ := Lib.hid (LX.out.into hb)
      clear LX
      have LX := t_
      clear t_
      have t_ := Lib.hid (LS.out.into hb)
      clear LS
      have LS := t_
      clear t_
      have t_ := Lib.hid (D.out.trans (hb.mono D.out.size))
      clear D
      have D := t_
      clear t_
      have t_ : w1.heap.size < w7'.heap.size := by have := hb.size; omega
      clear zBP
      have zBP := t_
      clear t_
      have t_ : w1.heap.size + 1 < w7'.heap.size := by have := hb.size; omega
      clear zBQ
      have zBQ := t_
      clear t_
      have t_ : w3.heap.size < w7'.heap.size := by have := hb.size; omega
      clear zBX
      have zBX := t_
      clear t_
      have t_ : w4.heap.size < w7'.heap.size := by have := hb.size; omega
      clear zBS
      have zBS := t_
      clear t_
      clear hb B7
      obtain ⟨xk, xl, d1, hX⟩ := mulOut_exists rr xs sk sl
      obtain ⟨yk, yl, d2, hY⟩ := mulOut_exists rr xs r zs
      obtain ⟨zk, zl, d3, hZ⟩ := mulOut_exists rr xs s ys
      obtain ⟨kk, kl, d4, hK⟩ := sumOut_exists yk yl zk zl
      have HX := Lib.hid hX
      have HY := Lib.hid hY
      have HZ := Lib.hid hZ
      have HK := Lib.hid hK
      have lx_ := hX.len
      have ly_ := hY.len
      have lz_ := hZ.len
      have lk_ := hK.len
      clear hX hY hZ hK
      as_aux_lemma =>
      obtain ⟨BXx, BXy⟩ := BX.out
      obtain ⟨BSx, BSy⟩ := BS.out
      go_wp2_with fail
      refine (mul_impl_any rr sk RR R4 xs.length tt sl.length t4 xs sl _ LX.out LS.out (by omega) (by omega) xk xl d1 HX.out).mono ?_
      rintro e v5 ⟨Q5, q5, rfl, hM, hb⟩
      clear BXx BXy BSx BSy
      have t_ := Lib.hid (BP.out.below hb zBP)
      clear BP
      have BP := t_
      clear t_
      have t_ := Lib.hid (BQ.out.below hb zBQ)
      clear BQ
      have BQ := t_
      clear t_
      have t_ := Lib.hid (BX.out.below hb zBX)
      clear BX
      have BX := t_
      clear t_
      have t_ := Lib.hid (BS.out.below hb zBS)
      clear BS
      have BS := t_
      clear t_
      have t_ := Lib.hid (LP.out.into hb)
      clear LP
      have LP := t_
      clear t_
      have t_ := Lib.hid (LQ.out.into hb)
      clear LQ
      have LQ := t_
      clear t_
      have t_ := Lib.hid (LX.out.into hb)
      clear LX
      have LX := t_
      clear t_
      have t_ := Lib.hid (LS.out.into hb)
      clear LS
      have LS := t_
      clear t_
      have t_ := Lib.hid (D.out.trans (hb.mono D.out.size))
      clear D
      have D := t_
      clear t_
      have t_ : w1.heap.size < v5.heap.size := by have := hb.size; omega
      clear zBP
      have zBP := t_
      clear t_
      have t_ : w1.heap.size + 1 < v5.heap.size := by have := hb.size; omega
      clear zBQ
      have zBQ := t_
      clear t_
      have t_ : w3.heap.size < v5.heap.size := by have := hb.size; omega
      clear zBX
      have zBX := t_
      clear t_
      have t_ : w4.heap.size < v5.heap.size := by have := hb.size; omega
      clear zBS
      have zBS := t_
      clear t_
      have MX := Lib.hid hM.ints
      clear hM hb
      have q_ := al1 v5 (Obj.cells #[.int .i64 xk, .slice Q5 xl.length q5] 26)
      have t_ := Lib.hid (BP.out.below q_ zBP)
      clear BP
      have BP := t_
      clear t_
      have t_ := Lib.hid (BQ.out.below q_ zBQ)
      clear BQ
      have BQ := t_
      clear t_
      have t_ := Lib.hid (BX.out.below q_ zBX)
      clear BX
      have BX := t_
      clear t_
      have t_ := Lib.hid (BS.out.below q_ zBS)
      clear BS
      have BS := t_
      clear t_
      have t_ := Lib.hid (LP.out.into q_)
      clear LP
      have LP := t_
      clear t_
      have t_ := Lib.hid (LQ.out.into q_)
      clear LQ
      have LQ := t_
      clear t_
      have t_ := Lib.hid (LX.out.into q_)
      clear LX
      have LX := t_
      clear t_
      have t_ := Lib.hid (LS.out.into q_)
      clear LS
      have LS := t_
      clear t_
      have t_ := Lib.hid (MX.out.into q_)
      clear MX
      have MX := t_
      clear t_
      have t_ := Lib.hid (D.out.trans (q_.mono D.out.size))
      clear D
      have D := t_
      clear t_
      have t_ : w1.heap.size < (v5.alloc (Obj.cells #[.int .i64 xk, .slice Q5 xl.length q5] 26)).heap.size := by have := q_.size; omega
      clear zBP
      have zBP := t_
      clear t_
      have t_ : w1.heap.size + 1 < (v5.alloc (Obj.cells #[.int .i64 xk, .slice Q5 xl.length q5] 26)).heap.size := by have := q_.size; omega
      clear zBQ
      have zBQ := t_
      clear t_
      have t_ : w3.heap.size < (v5.alloc (Obj.cells #[.int .i64 xk, .slice Q5 xl.length q5] 26)).heap.size := by have := q_.size; omega
      clear zBX
      have zBX := t_
      clear t_
      have t_ : w4.heap.size < (v5.alloc (Obj.cells #[.int .i64 xk, .slice Q5 xl.length q5] 26)).heap.size := by have := q_.size; omega
      clear zBS
      have zBS := t_
      clear t_
      have CX := Lib.hid (BoxG.new v5 26 (.int .i64 xk) (.slice Q5 xl.length q5))
      have zCX : v5.heap.size < (v5.alloc (Obj.cells #[.int .i64 xk, .slice Q5 xl.length q5] 26)).heap.size := by simp
      clear q_
      as_aux_lemma =>
      obtain ⟨BXx, BXy⟩ := BX.out
      obtain ⟨BPx, BPy⟩ := BP.out
      go_wp2_with fail
      refine (mul_impl_any rr r RR R xs.length tt zs.length t xs zs _ LX.out LP.out (by omega) (by omega) yk yl d2 HY.out).mono ?_
      rintro e v6 ⟨Q6, q6, rfl, hM, hb⟩
      clear BXx BXy BPx BPy
      have t_ := Lib.hid (BP.out.below hb zBP)
      clear BP
      have BP := t_
      clear t_
      have t_ := Lib.hid (BQ.out.below hb zBQ)
      clear BQ
      have BQ := t_
      clear t_
      have t_ := Lib.hid (BX.out.below hb zBX)
      clear BX
      have BX := t_
      clear t_
      have t_ := Lib.hid (BS.out.below hb zBS)
      clear BS
      have BS := t_
      clear t_
      have t_ := Lib.hid (CX.out.below hb zCX)
      clear CX
      have CX := t_
      clear t_
      have t_ := Lib.hid (LP.out.into hb)
      clear LP
      have LP := t_
      clear t_
      have t_ := Lib.hid (LQ.out.into hb)
      clear LQ
      have LQ := t_
      clear t_
      have t_ := Lib.hid (LX.out.into hb)
      clear LX
      have LX := t_
      clear t_
      have t_ := Lib.hid (LS.out.into hb)
      clear LS
      have LS := t_
      clear t_
      have t_ := Lib.hid (MX.out.into hb)
      clear MX
      have MX := t_
      clear t_
      have t_ := Lib.hid (D.out.trans (hb.mono D.out.size))
      clear D
      have D := t_
      clear t_
      have t_ : w1.heap.size < v6.heap.size := by have := hb.size; omega
      clear zBP
      have zBP := t_
      clear t_
      have t_ : w1.heap.size + 1 < v6.heap.size := by have := hb.size; omega
      clear zBQ
      have zBQ := t_
      clear t_
      have t_ : w3.heap.size < v6.heap.size := by have := hb.size; omega
      clear zBX
      have zBX := t_
      clear t_
      have t_ : w4.heap.size < v6.heap.size := by have := hb.size; omega
      clear zBS
      have zBS := t_
      clear t_
      have t_ : v5.heap.size < v6.heap.size := by have := hb.size; omega
      clear zCX
      have zCX := t_
      clear t_
      have MY := Lib.hid hM.ints
      clear hM hb
      have q_ := al1 v6 (Obj.cells #[.int .i64 yk, .slice Q6 yl.length q6] 26)
      have t_ := Lib.hid (BP.out.below q_ zBP)
      clear BP
      have BP := t_
      clear t_
      have t_ := Lib.hid (BQ.out.below q_ zBQ)
      clear BQ
      have BQ := t_
      clear t_
      have t_ := Lib.hid (BX.out.below q_ zBX)
      clear BX
      have BX := t_
      clear t_
      have t_ := Lib.hid (BS.out.below q_ zBS)
      clear BS
      have BS := t_
      clear t_
      have t_ := Lib.hid (CX.out.below q_ zCX)
      clear CX
      have CX := t_
      clear t_
      have t_ := Lib.hid (LP.out.into q_)
      clear LP
      have LP := t_
      clear t_
      have t_ := Lib.hid (LQ.out.into q_)
      clear LQ
      have LQ := t_
      clear t_
      have t_ := Lib.hid (LX.out.into q_)
      clear LX
      have LX := t_
      clear t_
      have t_ := Lib.hid (LS.out.into q_)
      clear LS
      have LS := t_
      clear t_
      have t_ := Lib.hid (MX.out.into q_)
      clear MX
      have MX := t_
      clear t_
      have t_ := Lib.hid (MY.out.into q_)
      clear MY
      have MY := t_
      clear t_
      have t_ := Lib.hid (D.out.trans (q_.mono D.out.size))
      clear D
      have D := t_
      clear t_
      have t_ : w1.heap.size < (v6.alloc (Obj.cells #[.int .i64 yk, .slice Q6 yl.length q6] 26)).heap.size := by have := q_.size; omega
      clear zBP
      have zBP := t_
      clear t_
      have t_ : w1.heap.size + 1 < (v6.alloc (Obj.cells #[.int .i64 yk, .slice Q6 yl.length q6] 26)).heap.size := by have := q_.size; omega
      clear zBQ
      have zBQ := t_
      clear t_
      have t_ : w3.heap.size < (v6.alloc (Obj.cells #[.int .i64 yk, .slice Q6 yl.length q6] 26)).heap.size := by have := q_.size; omega
      clear zBX
      have zBX := t_
      clear t_
      have t_ : w4.heap.size < (v6.alloc (Obj.cells #[.int .i64 yk, .slice Q6 yl.length q6] 26)).heap.size := by have := q_.size; omega
      clear zBS
      have zBS := t_
      clear t_
      have t_ : v5.heap.size < (v6.alloc (Obj.cells #[.int .i64 yk, .slice Q6 yl.length q6] 26)).heap.size := by have := q_.size; omega
      clear zCX
      have zCX := t_
      clear t_
      have CY := Lib.hid (BoxG.new v6 26 (.int .i64 yk) (.slice Q6 yl.length q6))
      have zCY : v6.heap.size < (v6.alloc (Obj.cells #[.int .i64 yk, .slice Q6 yl.length q6] 26)).heap.size := by simp
      clear q_
      as_aux_lemma =>
      obtain ⟨BXx, BXy⟩ := BX.out
      obtain ⟨BQx, BQy⟩ := BQ.out
      go_wp2_with fail
      refine (mul_impl_any rr s RR S xs.length tt ys.length u xs ys _ LX.out LQ.out (by omega) (by omega) zk zl d3 HZ.out).mono ?_
      rintro e v7 ⟨Q7, q7, rfl, hM, hb⟩
      clear BXx BXy BQx BQy
      have t_ := Lib.hid (BP.out.below hb zBP)
      clear BP
      have BP := t_
      clear t_
      have t_ := Lib.hid (BQ.out.below hb zBQ)
      clear BQ
      have BQ := t_
      clear t_
      have t_ := Lib.hid (BX.out.below hb zBX)
      clear BX
      have BX := t_
      clear t_
      have t_ := Lib.hid (BS.out.below hb zBS)
      clear BS
      have BS := t_
      clear t_
      have t_ := Lib.hid (CX.out.below hb zCX)
      clear CX
      have CX := t_
      clear t_
      have t_ := Lib.hid (CY.out.below hb zCY)
      clear CY
      have CY := t_
      clear t_
      have t_ := Lib.hid (LP.out.into hb)
      clear LP
      have LP := t_
      clear t_
      have t_ := Lib.hid (LQ.out.into hb)
      clear LQ
      have LQ := t_
      clear t_
      have t_ := Lib.hid (LX.out.into hb)
      clear LX
      have LX := t_
      clear t_
      have t_ := Lib.hid (LS.out.into hb)
      clear LS
      have LS := t_
      clear t_
      have t_ := Lib.hid (MX.out.into hb)
      clear MX
      have MX := t_
      clear t_
      have t_ := Lib.hid (MY.out.into hb)
      clear MY
      have MY := t_
      clear t_
      have t_ := Lib.hid (D.out.trans (hb.mono D.out.size))
      clear D
      have D := t_
      clear t_
      have t_ : w1.heap.size < v7.heap.size := by have := hb.size; omega
      clear zBP
      have zBP := t_
      clear t_
      have t_ : w1.heap.size + 1 < v7.heap.size := by have := hb.size; omega
      clear zBQ
      have zBQ := t_
      clear t_
      have t_ : w3.heap.size < v7.heap.size := by have := hb.size; omega
      clear zBX
      have zBX := t_
      clear t_
      have t_ : w4.heap.size < v7.heap.size := by have := hb.size; omega
      clear zBS
      have zBS := t_
      clear t_
      have t_ : v5.heap.size < v7.heap.size := by have := hb.size; omega
      clear zCX
      have zCX := t_
      clear t_
      have t_ : v6.heap.size < v7.heap.size := by have := hb.size; omega
      clear zCY
      have zCY := t_
      clear t_
      have MZ := Lib.hid hM.ints
      clear hM hb
      have q_ := al1 v7 (Obj.cells #[.int .i64 zk, .slice Q7 zl.length q7] 26)
      have t_ := Lib.hid (BP.out.below q_ zBP)
      clear BP
      have BP := t_
      clear t_
      have t_ := Lib.hid (BQ.out.below q_ zBQ)
      clear BQ
      have BQ := t_
      clear t_
      have t_ := Lib.hid (BX.out.below q_ zBX)
      clear BX
      have BX := t_
      clear t_
      have t_ := Lib.hid (BS.out.below q_ zBS)
      clear BS
      have BS := t_
      clear t_
      have t_ := Lib.hid (CX.out.below q_ zCX)
      clear CX
      have CX := t_
      clear t_
      have t_ := Lib.hid (CY.out.below q_ zCY)
      clear CY
      have CY := t_
      clear t_
      have t_ := Lib.hid (LP.out.into q_)
      clear LP
      have LP := t_
      clear t_
      have t_ := Lib.hid (LQ.out.into q_)
      clear LQ
      have LQ := t_
      clear t_
      have t_ := Lib.hid (LX.out.into q_)
      clear LX
      have LX := t_
      clear t_
      have t_ := Lib.hid (LS.out.into q_)
      clear LS
      have LS := t_
      clear t_
      have t_ := Lib.hid (MX.out.into q_)
      clear MX
      have MX := t_
      clear t_
      have t_ := Lib.hid (MY.out.into q_)
      clear MY
      have MY := t_
      clear t_
      have t_ := Lib.hid (MZ.out.into q_)
      clear MZ
      have MZ := t_
      clear t_
      have t_ := Lib.hid (D.out.trans (q_.mono D.out.size))
      clear D
      have D := t_
      clear t_
      have t_ : w1.heap.size < (v7.alloc (Obj.cells #[.int .i64 zk, .slice Q7 zl.length q7] 26)).heap.size := by have := q_.size; omega
      clear zBP
      have zBP := t_
      clear t_
      have t_ : w1.heap.size + 1 < (v7.alloc (Obj.cells #[.int .i64 zk, .slice Q7 zl.length q7] 26)).heap.size := by have := q_.size; omega
      clear zBQ
      have zBQ := t_
      clear t_
      have t_ : w3.heap.size < (v7.alloc (Obj.cells #[.int .i64 zk, .slice Q7 zl.length q7] 26)).heap.size := by have := q_.size; omega
      clear zBX
      have zBX := t_
      clear t_
      have t_ : w4.heap.size < (v7.alloc (Obj.cells #[.int .i64 zk, .slice Q7 zl.length q7] 26)).heap.size := by have := q_.size; omega
      clear zBS
      have zBS := t_
      clear t_
      have t_ : v5.heap.size < (v7.alloc (Obj.cells #[.int .i64 zk, .slice Q7 zl.length q7] 26)).heap.size := by have := q_.size; omega
      clear zCX
      have zCX := t_
      clear t_
      have t_ : v6.heap.size < (v7.alloc (Obj.cells #[.int .i64 zk, .slice Q7 zl.length q7] 26)).heap.size := by have := q_.size; omega
      clear zCY
      have zCY := t_
      clear t_
      have CZ := Lib.hid (BoxG.new v7 26 (.int .i64 zk) (.slice Q7 zl.length q7))
      have zCZ : v7.heap.size < (v7.alloc (Obj.cells #[.int .i64 zk, .slice Q7 zl.length q7] 26)).heap.size := by simp
      clear q_
      as_aux_lemma =>
      obtain ⟨CYx, CYy⟩ := CY.out
      obtain ⟨CZx, CZy⟩ := CZ.out
      go_wp2_with fail
      refine (add_impl_any yk zk Q6 Q7 yl.length q6 zl.length q7 yl zl _ MY.out MZ.out (by omega) (by omega) kk kl d4 HK.out).mono ?_
      rintro e v8 ⟨Q8, q8, rfl, hM, hb⟩
      clear CYx CYy CZx CZy
      have t_ := Lib.hid (BP.out.below hb zBP)
      clear BP
      have BP := t_
      clear t_
      have t_ := Lib.hid (BQ.out.below hb zBQ)
      clear BQ
      have BQ := t_
      clear t_
      have t_ := Lib.hid (BX.out.below hb zBX)
      clear BX
      have BX := t_
      clear t_
      have t_ := Lib.hid (BS.out.below hb zBS)
      clear BS
      have BS := t_
      clear t_
      have t_ := Lib.hid (CX.out.below hb zCX)
      clear CX
      have CX := t_
      clear t_
      have t_ := Lib.hid (CY.out.below hb zCY)
      clear CY
      have CY := t_
      clear t_
      have t_ := Lib.hid (CZ.out.below hb zCZ)
      clear CZ
      have CZ := t_
      clear t_
      have t_ := Lib.hid (LP.out.into hb)
      clear LP
      have LP := t_
      clear t_
      have t_ := Lib.hid (LQ.out.into hb)
      clear LQ
      have LQ := t_
      clear t_
      have t_ := Lib.hid (LX.out.into hb)
      clear LX
      have LX := t_
      clear t_
      have t_ := Lib.hid (LS.out.into hb)
      clear LS
      have LS := t_
      clear t_
      have t_ := Lib.hid (MX.out.into hb)
      clear MX
      have MX := t_
      clear t_
      have t_ := Lib.hid (MY.out.into hb)
      clear MY
      have MY := t_
      clear t_
      have t_ := Lib.hid (MZ.out.into hb)
      clear MZ
      have MZ := t_
      clear t_
      have t_ := Lib.hid (D.out.trans (hb.mono D.out.size))
      clear D
      have D := t_
      clear t_
      have t_ : w1.heap.size < v8.heap.size := by have := hb.size; omega
      clear zBP
      have zBP := t_
      clear t_
      have t_ : w1.heap.size + 1 < v8.heap.size := by have := hb.size; omega
      clear zBQ
      have zBQ := t_
      clear t_
      have t_ : w3.heap.size < v8.heap.size := by have := hb.size; omega
      clear zBX
      have zBX := t_
      clear t_
      have t_ : w4.heap.size < v8.heap.size := by have := hb.size; omega
      clear zBS
      have zBS := t_
      clear t_
      have t_ : v5.heap.size < v8.heap.size := by have := hb.size; omega
      clear zCX
      have zCX := t_
      clear t_
      have t_ : v6.heap.size < v8.heap.size := by have := hb.size; omega
      clear zCY
      have zCY := t_
      clear t_
      have t_ : v7.heap.size < v8.heap.size := by have := hb.size; omega
      clear zCZ
      have zCZ := t_
      clear t_
      have MK := Lib.hid hM.ints
      clear hM hb
      have q_ := al1 v8 (Obj.cells #[.int .i64 kk, .slice Q8 kl.length q8] 26)
      have t_ := Lib.hid (BP.out.below q_ zBP)
      clear BP
      have BP := t_
      clear t_
      have t_ := Lib.hid (BQ.out.below q_ zBQ)
      clear BQ
      have BQ := t_
      clear t_
      have t_ := Lib.hid (BX.out.below q_ zBX)
      clear BX
      have BX := t_
      clear t_
      have t_ := Lib.hid (BS.out.below q_ zBS)
      clear BS
      have BS := t_
      clear t_
      have t_ := Lib.hid (CX.out.below q_ zCX)
      clear CX
      have CX := t_
      clear t_
      have t_ := Lib.hid (CY.out.below q_ zCY)
      clear CY
      have CY := t_
      clear t_
      have t_ := Lib.hid (CZ.out.below q_ zCZ)
      clear CZ
      have CZ := t_
      clear t_
      have t_ := Lib.hid (LP.out.into q_)
      clear LP
      have LP := t_
      clear t_
      have t_ := Lib.hid (LQ.out.into q_)
      clear LQ
      have LQ := t_
      clear t_
      have t_ := Lib.hid (LX.out.into q_)
      clear LX
      have LX := t_
      clear t_
      have t_ := Lib.hid (LS.out.into q_)
      clear LS
      have LS := t_
      clear t_
      have t_ := Lib.hid (MX.out.into q_)
      clear MX
      have MX := t_
      clear t_
      have t_ := Lib.hid (MY.out.into q_)
      clear MY
      have MY := t_
      clear t_
      have t_ := Lib.hid (MZ.out.into q_)
      clear MZ
      have MZ := t_
      clear t_
      have t_ := Lib.hid (MK.out.into q_)
      clear MK
      have MK := t_
      clear t_
      have t_ := Lib.hid (D.out.trans (q_.mono D.out.size))
      clear D
      have D := t_
      clear t_
      have t_ : w1.heap.size < (v8.alloc (Obj.cells #[.int .i64 kk, .slice Q8 kl.length q8] 26)).heap.size := by have := q_.size; omega
      clear zBP
      have zBP := t_
      clear t_
      have t_ : w1.heap.size + 1 < (v8.alloc (Obj.cells #[.int .i64 kk, .slice Q8 kl.length q8] 26)).heap.size := by have := q_.size; omega
      clear zBQ
      have zBQ := t_
      clear t_
      have t_ : w3.heap.size < (v8.alloc (Obj.cells #[.int .i64 kk, .slice Q8 kl.length q8] 26)).heap.size := by have := q_.size; omega
      clear zBX
      have zBX := t_
      clear t_
      have t_ : w4.heap.size < (v8.alloc (Obj.cells #[.int .i64 kk, .slice Q8 kl.length q8] 26)).heap.size := by have := q_.size; omega
      clear zBS
      have zBS := t_
      clear t_
      have t_ : v5.heap.size < (v8.alloc (Obj.cells #[.int .i64 kk, .slice Q8 kl.length q8] 26)).heap.size := by have := q_.size; omega
      clear zCX
      have zCX := t_
      clear t_
      have t_ : v6.heap.size < (v8.alloc (Obj.cells #[.int .i64 kk, .slice Q8 kl.length q8] 26)).heap.size := by have := q_.size; omega
      clear zCY
      have zCY := t_
      clear t_
      have t_ : v7.heap.size < (v8.alloc (Obj.cells #[.int .i64 kk, .slice Q8 kl.length q8] 26)).heap.size := by have := q_.size; omega
      clear zCZ
      have zCZ := t_
      clear t_
      have CK := Lib.hid (BoxG.new v8 26 (.int .i64 kk) (.slice Q8 kl.length q8))
      have zCK : v8.heap.size < (v8.alloc (Obj.cells #[.int .i64 kk, .slice Q8 kl.length q8] 26)).heap.size := by simp
      clear q_
      by_cases hd : d1 = 0 ∧ d2 = 0 ∧ d3 = 0 ∧ d4 = 0
      case neg =>
        obtain ⟨hs0, b1, b2, b3, b4, b5, b6⟩ := code_sum HX.out.codes HY.out.codes HZ.out.codes HK.out.codes hd
        have ws1 : IntKind.i64.wrap (d1 + d2) = d1 + d2 := IntWalk.i64_in _ (by omega)
        have ws2 : IntKind.i64.wrap (d1 + d2 + d3) = d1 + d2 + d3 := IntWalk.i64_in _ (by omega)
        have ws3 : IntKind.i64.wrap (d1 + d2 + d3 + d4) = d1 + d2 + d3 + d4 := IntWalk.i64_in _ (by omega)
        have e1 : (d1 + d2 + d3 + d4 != 0) = true := by simpa using hs0
        clear hd hs0 b1 b2 b3 b4 b5 b6
        go_wp2
        go_ret
        exact ⟨rfl, D.out⟩
      obtain ⟨rfl, rfl, rfl, rfl⟩ := hd
      obtain ⟨rfl, rfl⟩ := MulOut.dist HS.out HX.out HY.out HZ.out HK.out
      obtain ⟨CXx, CXy⟩ := CX.out
      obtain ⟨CKx, CKy⟩ := CK.out
      go_wp2_with fail
      refine (like_any xk Q5 Q8 xl.length q5 q8 xl _ _ _ MX.out MK.out (by omega) (Nat.le_refl _) (Nat.le_refl _)).mono ?_
      rintro e v9 ⟨rfl, hb⟩
      have HE := Lib.hid (D.out.trans (hb.mono D.out.size))
      clear CXx CXy CKx CKy
      clear hb
      go_wp2
      go_ret
      exact ⟨rfl, HE.out⟩

set_option maxRecDepth 100000 in
theorem openB {H : Type} {enc : TypeId × Value → H} {W : World} {base : Nat} {v : Value} {d : DataW H} {p : List MemPlace} {b0 : Nat}
    (hv : Value.okWide Try.prog W .any b0 22 v) (h : DataW.Trod enc Try.prog W base (fun _ => true) true 22 v d p) :
    ∃ A n c bs, v = .slice A n c ∧ Bys W W.heap.size A n bs := by
  obtain ⟨A, n, c, rfl⟩ := okWide_slice Try.underlying22 hv
  obtain ⟨fuel, hf⟩ := h
  rcases open_ints Try.underlying22 Try.underlying5 (by kernel_rfl) hf with ⟨hcs, _⟩ | ⟨x, l, c', zs, hcs, _, hl, hm, hz, _, hcell, hwz⟩
  · have hcs' : [Value.slice A n c] = [.slice none 0 0] := hcs
    simp at hcs'
    obtain ⟨rfl, rfl, rfl⟩ := hcs'
    exact ⟨none, 0, 0, [], rfl, rfl, fun j hj => by omega, fun h => absurd h (by omega)⟩
  · have hcs' : [Value.slice A n c] = [.slice (some x) l c'] := hcs
    simp at hcs'
    obtain ⟨rfl, rfl, rfl⟩ := hcs'
    have hz' : zs.length = c := by simpa using hz
    refine ⟨some x, n, c, zs.take n, rfl, by simp; omega, fun j hj => ?_, fun h0 => ?_⟩
    · have hin : zs.getD j 0 ∈ zs := by
        rw [List.getD_eq_getElem?_getD, List.getElem?_eq_getElem (by omega)]
        exact List.getElem_mem _
      have hw := hwz _ hin
      have e : (zs.take n).getD j 0 = zs.getD j 0 := by simp [hj]
      rw [e]
      have h1 : IntKind.u8.min = 0 := by decide
      have h2 : IntKind.u8.max = 255 := by decide
      simp [Lit.wf, h1, h2] at hw
      simpa [List.getD_eq_getElem?_getD] using hw
    · obtain ⟨b, off, spot⟩ := x
      have hc := hcell 0 (by omega)
      have hspot : spot = none := by simpa [Addr.add] using World.cell?_spot hc
      subst hspot
      have hlt := World.block_lt_of_cell? W _ hc
      refine ⟨b, off, rfl, by simpa [Addr.add] using hlt, fun j hj => ?_⟩
      have := hcell j (by omega)
      rw [show (⟨b, off, none⟩ : Addr).add j = ⟨b, off + j, none⟩ from by unfold Addr.add; split <;> simp_all] at this
      rw [this]
      simp [hj]

set_option maxRecDepth 100000 in
theorem laurentRing_lifted (os : Os) (started : os.Started) (H : Type) (enc : TypeId × Value → H) :
    ReturnsInHanded {} Try.checked os 3 .any (Rows.fnLaurentRingSpec.pre6 enc Try.prog Try.f3 Rows.fnLaurentRingRow.domain false) (Rows.fnLaurentRingSpec.post enc Try.prog Try.f3 false true false false) := by
  refine returnsInHanded_of_change (C := Try.checked) own started (by kernel_rfl) Try.func3
    (ChangeSpec.witness6 (enc := enc) (C := Try.checked) false ⟨#[], #[.slice none 0 0], []⟩ 8 (by kernel_rfl) (by kernel_rfl) (by kernel_rfl) (by kernel_rfl)) ?_
  intro W base args ds gs before hval0 hW _ _
  have hval : ∀ (j : Nat) t v, Try.f3.params[j]? = some t → args[j]? = some v → Value.okWide Try.prog W .any base t v := hval0
  have hW' := hW
  obtain ⟨p, q, hA0, hV, rfl, hfz, hnd⟩ := hW
  have hA : DataW.TrodAll enc Try.prog W 0 (fun _ => true) true Try.f3.params.toList args.toList ds p := hA0
  rw [Try.params3] at hA hval
  obtain ⟨v0, vs0, d0, ds0, p0, q0, hargs, rfl, rfl, h0, r0⟩ := trodAll_cons hA
  obtain ⟨rfl, rfl, rfl⟩ := trodAll_nil r0
  obtain rfl : args = #[v0] := by cases args; simp_all
  obtain ⟨rfl, rfl⟩ := trodVars_none hV
  have k0 := h0
  have lt0 : ∀ x ∈ p0, x.block < W.heap.size := by obtain ⟨m, hm⟩ := k0; exact DataW.trod_lt m _ _ _ hm
  obtain ⟨A, n, c, bs, rfl, hi⟩ := openB (hval 0 22 v0 rfl rfl) h0
  clear hA0 hval0
  refine (ring_law A n c bs W hi).mono fun e W' ⟨he, bel⟩ => ?_
  subst he
  exact ⟨_, rfl, _, _, _, [], _, [], hW', trodAll_mk1 (shut_bool Try.underlying4 _), (trodAll_cons_mk (Below.trod laidOut (by kernel_rfl) (of_decide_eq_true (by kernel_rfl)) k0 bel lt0) trodAll_mk0), rfl, bel.frame _, fun h => by cases h⟩

theorem laurentRing_holds : Rows.FnLaurentRingSaid :=
  OpenClaim.holds_of_wide 3 Try.f3 rfl rfl rfl rfl rfl rfl rfl ⟨rfl, rfl, rfl, rfl, rfl⟩ rfl rfl rfl rfl rfl (by kernel_rfl) Try.func3 (by kernel_rfl)
    (of_decide_eq_true (by kernel_rfl)) (by unfold Func.isWrapper; first | (rw [if_pos (by decide +kernel)]; kernel_rfl) | (rw [if_neg (by decide +kernel)]; exact ⟨rfl, rfl⟩))
    (fun os started H enc _ => laurentRing_lifted os started H enc)

#print axioms laurentRing_holds

end Go.Proofs.Ytpkjjcfcpmcdiaa
