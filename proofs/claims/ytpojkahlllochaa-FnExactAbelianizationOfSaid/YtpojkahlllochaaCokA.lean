/- Torsion numbers: those greater than 1. No condition but those that each theorem names. -/
import Derived.Test.YtpojkahlllochaaInvC
import Derived.Test.YtpojkahlllochaaGrpA
import Derived.Test.YtpojkahlllochaaMatH
namespace Go.Proofs.Ytpojkahlllochaa
open Go.RowKit

def tors (l : List Int) : List Int := l.filter (fun x => decide (1 < x))
theorem tors_next {l : List Int} {j : Nat} (h : j < l.length) : tors (l.take (j + 1)) = tors (l.take j) ++ (if 1 < l.getD j 0 then [l.getD j 0] else []) := by
  unfold tors
  rw [take_next h, List.filter_append]
  obtain ⟨x, hx⟩ : ∃ x, l.getD j 0 = x := ⟨_, rfl⟩
  rw [hx]
  congr 1
  by_cases e : 1 < x
  · rw [if_pos e]; simp [e]
  · rw [if_neg e]; simp [e]
theorem tors_len (l : List Int) : (tors l).length ≤ l.length := List.length_filter_le _ _
theorem tors_take_len (l : List Int) (k : Nat) : (tors (l.take k)).length ≤ k := by have := tors_len (l.take k); rw [List.length_take] at this; omega

set_option maxRecDepth 100000 in
set_option maxHeartbeats 4000000 in
theorem torsion_spec (A : Option Addr) (n c : Nat) (xs : List Int) (w : World) (h : Ints w w.heap.size A n xs) (hn : n ≤ 2304) :
    Calls Try.prog 91 #[.slice A n c] w (ResD w (tors xs)) := by
  have hl0 := h.1
  have H := Lib.hid h
  obtain ⟨i0, hi0, hz0, hz1, hz2⟩ := info_parts info2
  have HI := Lib.hid (And.intro hi0 (And.intro hz0 (And.intro hz1 hz2)))
  have OE := Lib.hid (own_empty w)
  have AE := Lib.hid (al1 w (Obj.cells #[] 2))
  clear hi0 hz0 hz1 hz2 h
  go_enter Try.func91, Try.ntmps91
  go_wp2
  obtain ⟨V0, hV0⟩ : ∃ V0, V0 = w.alloc (Obj.cells #[] 2) := ⟨_, rfl⟩
  rw [← hV0] at OE AE
  rw [← hV0]
  clear hV0
  go_loopw [4, 3] (fun x y wr => ∃ (k : Nat) (A2 : Option Addr) (c2 : Nat), k ≤ n ∧ x = .int .i64 k ∧ y = .slice A2 (tors (xs.take k)).length c2 ∧ Own wr w.heap.size wr.heap.size A2 (tors (xs.take k)).length c2 (tors (xs.take k)) ∧ Below w.heap.size w wr) (fun x _ _ => n - (intOf x).toNat)
  case atStart => exact ⟨0, _, 0, Nat.zero_le _, rfl, rfl, OE.out, AE.out⟩
  case round =>
    obtain ⟨k, A2, c2, hk, rfl, rfl, hown, hbel⟩ := hrel
    have HO6 := Lib.hid hown
    have HL6 := Lib.hid hbel
    have sz : w.heap.size ≤ wr.heap.size := hbel.size
    have hlen := tors_take_len xs k
    by_cases hlt : k < n
    · have Q := Lib.hid (tors_next (l := xs) (j := k) (by omega))
      obtain ⟨l, hl⟩ : ∃ l, tors (xs.take k) = l := ⟨_, rfl⟩
      rw [hl] at HO6 hlen Q
      rw [hl]
      clear hl hown hbel
      obtain ⟨b, off, z, rfl, hbl, hz, hc⟩ := (H.out.below HL6.out).at_z hlt
      rw [hz] at Q
      have i2 : (0 : Int) ≤ (k : Int) := by omega
      have i3 : (k : Int) < (n : Int) := by omega
      clear hz
      by_cases hz0 : 1 < z
      · have q := Q.out
        rw [if_pos hz0] at q
        have Q2 := Lib.hid q
        clear q
        have HOW := Lib.hid (HO6.out.al (Nat.le_refl _) (al1 wr (Obj.cells #[.int .i64 z] 2))).1
        have HNW := Lib.hid (World.news_of_block (cs := #[.int .i64 z]) (t := 2) (fr := (0, 0)) (heap_alloc_new wr _))
        have d1 : decide (1 < z) = true := by simpa using hz0
        go_wp2_with (at_builtin; refine wpList_append_lies _ rfl _ _ 24 rfl w.heap.size 2 i0 _ 1 8 Try.underlying24 HI.out.1 HI.out.2.1 HI.out.2.2.1 HI.out.2.2.2 rfl (by decide) (.slice A2 l.length c2) l.length (l.map (Value.int .i64)) rfl (by exact HOW.out) ⟨wr.heap.size, 0, none⟩ 1 1 [.int .i64 z] rfl rfl (by exact HNW.out) (by simp [Value.oneCell']) (by omega) (by unfold maxLen; omega) (by omega) (by simp <;> omega) (wr.heap.size + 1) (by simp) ?_; intro gg cap w7 hown7 hgrow hat hlt7; have P7 := Lib.hid (push_own HL6.out HO6.out hown7 hgrow hlt7); clear hown7 hgrow hat hlt7)
        have P8 := Lib.hid P7.out.1
        rw [← Q2.out] at P8
        go_roundw
        case rel => exact ⟨k + 1, _, cap, by omega, by go_num, by rw [Q2.out, List.length_append]; rfl, P8.out, P7.out.2⟩
        case measure => simp [intOf]; omega
      · have q := Q.out
        rw [if_neg hz0, List.append_nil] at q
        have Q2 := Lib.hid q
        clear q
        have d1 : decide (1 < z) = false := by simpa using hz0
        go_wp2
        go_roundw
        case rel => exact ⟨k + 1, A2, c2, by omega, by go_num, by rw [Q2.out], by rw [Q2.out]; exact HO6.out, HL6.out⟩
        case measure => simp [intOf]; omega
    · obtain rfl : k = n := by omega
      have hx : xs.take k = xs := List.take_of_length_le (by omega)
      rw [hx] at HO6 ⊢
      clear hx hown hbel
      have i3 : ¬ (k : Int) < (k : Int) := by omega
      go_wp2
      go_ret
      exact ⟨A2, c2, rfl, HO6.out, HL6.out⟩

/-- A group in a box, its list in new memory. -/
def GtAt (B b : Nat) (r : Int) (W0 : World) (l : List Int) (wr : World) : Prop :=
  ∃ A c, BoxG wr b (.int .i64 r) (.slice A l.length c) ∧ Free wr b ∧ Own wr B wr.heap.size A l.length c l ∧ Kept b (b + 1) W0 wr
theorem GtAt.push {B b : Nat} {r z : Int} {W0 w7 : World} {l : List Int} {gg cap : Nat} {x : Value} (hbox : BoxG w7 b (.int .i64 r) x) (hfree : Free w7 b)
    (hown : w7.ownsRow B 2 1 (.slice (some ⟨gg, 0, none⟩) (l.length + 1) cap) (l.length + 1) (l.map (Value.int .i64) ++ [.int .i64 z])) (hg : gg < w7.heap.size) (hb : b < B) (hk : Kept b (b + 1) W0 w7) :
    GtAt B b r W0 (l ++ [z]) (w7.setCell ⟨b, 1, none⟩ (.slice (some ⟨gg, 0, none⟩) (l.length + 1) cap)) := by
  have ho : Own w7 B w7.heap.size (some ⟨gg, 0, none⟩) (l.length + 1) cap (l ++ [z]) := ⟨by simpa using hown, fun a ha => by cases ha; exact hg⟩
  refine ⟨some ⟨gg, 0, none⟩, cap, ⟨?_, ?_⟩, ?_, ?_, ?_⟩
  · rw [World.cell?_setCell_other w7 _ _ _ (by simp)]; exact hbox.1
  · have h2 := hbox.2
    have := World.cell?_setCell_same w7 ⟨b, 1, none⟩ (.slice (some ⟨gg, 0, none⟩) (l.length + 1) cap) h2
    simpa using this
  · intro o
    rw [World.frozen?_setCell]
    exact hfree o
  · have := (ho.far (p := ⟨b, 1, none⟩) (.inl hb) (.slice (some ⟨gg, 0, none⟩) (l.length + 1) cap))
    simpa [World.setCell] using this
  · exact hk.set_ (Nat.le_refl _) (by dsimp only; omega) _
/-- A group in new memory. -/
def ResG (w : World) (r : Int) (l : List Int) (e : Ending) (w' : World) : Prop := ∃ A c, e = .returned (.agg #[.int .i64 r, .slice A l.length c]) ∧ Own w' w.heap.size w'.heap.size A l.length c l ∧ Below w.heap.size w w'
/-- A group in new memory, with a code. -/
def ResGC (w : World) (r : Int) (l : List Int) (code : Int) (e : Ending) (w' : World) : Prop := ∃ A c, e = .returned (.tuple #[.agg #[.int .i64 r, .slice A l.length c], .int .i64 code]) ∧ Own w' w.heap.size w'.heap.size A l.length c l ∧ Below w.heap.size w w'

set_option maxRecDepth 100000 in
set_option maxHeartbeats 4000000 in
theorem group_impl (r : Int) (A : Option Addr) (n c : Nat) (xs : List Int) (w : World) (h : Ints w w.heap.size A n xs) (hn : n ≤ 2304) :
    Calls Try.prog 93 #[.int .i64 r, .slice A n c] w (ResG w r (tors xs)) := by
  have hl0 := h.1
  have H := Lib.hid h
  obtain ⟨i0, hi0, hz0, hz1, hz2⟩ := info_parts info2
  have HI := Lib.hid (And.intro hi0 (And.intro hz0 (And.intro hz1 hz2)))
  have T0 := Lib.hid ((BoxG.new w 48 (.int .i64 0) (.slice none 0 0)).below (al1 (w.alloc (Obj.cells #[.int .i64 0, .slice none 0 0] 48)) (Obj.cells #[.int .i64 r, .slice none 0 0] 48)) (by simp))
  have F0 := Lib.hid ((Free.new w 48 #[.int .i64 0, .slice none 0 0]).below (al1 (w.alloc (Obj.cells #[.int .i64 0, .slice none 0 0] 48)) (Obj.cells #[.int .i64 r, .slice none 0 0] 48)) (by simp))
  have G0 := Lib.hid (BoxG.new (w.alloc (Obj.cells #[.int .i64 0, .slice none 0 0] 48)) 48 (.int .i64 r) (.slice none 0 0))
  have FG := Lib.hid (Free.new (w.alloc (Obj.cells #[.int .i64 0, .slice none 0 0] 48)) 48 #[.int .i64 r, .slice none 0 0])
  have D0 := Lib.hid (al2 w (Obj.cells #[.int .i64 0, .slice none 0 0] 48) (Obj.cells #[.int .i64 r, .slice none 0 0] 48))
  simp only [World.size_alloc] at G0 FG
  clear hi0 hz0 hz1 hz2 h
  go_enter Try.func93, Try.ntmps93
  go_wp2
  obtain ⟨W0, hW0⟩ : ∃ W0, W0 = ((w.alloc (Obj.cells #[.int .i64 0, .slice none 0 0] 48)).alloc (Obj.cells #[.int .i64 r, .slice none 0 0] 48)) := ⟨_, rfl⟩
  have s0 : w.heap.size + 1 < W0.heap.size := by rw [hW0]; simp
  rw [← hW0] at T0 F0 G0 FG D0
  rw [← hW0]
  clear hW0
  go_loopw [12, 7] (fun x _ wr => ∃ k : Nat, k ≤ n ∧ x = .int .i64 k ∧ GtAt W0.heap.size (w.heap.size + 1) r W0 (tors (xs.take k)) wr) (fun x _ _ => n - (intOf x).toNat)
  case atStart => exact ⟨0, Nat.zero_le _, rfl, none, 0, G0.out, FG.out, Own.none_ _ _ _, Kept.refl _ _ _⟩
  case round =>
    obtain ⟨k, hk, rfl, ⟨A2, c2, hbox, hfree, hown, hkept⟩⟩ := hrel
    have HX := Lib.hid hbox
    have HF := Lib.hid hfree
    have HO := Lib.hid hown
    have HK := Lib.hid hkept
    have sz : W0.heap.size ≤ wr.heap.size := hkept.size
    have hlen := tors_take_len xs k
    have DB := Lib.hid (D0.out.trans (hkept.below (B := w.heap.size) (by omega) (by omega)))
    by_cases hlt : k < n
    · have Q := Lib.hid (tors_next (l := xs) (j := k) (by omega))
      obtain ⟨l, hl⟩ : ∃ l, tors (xs.take k) = l := ⟨_, rfl⟩
      rw [hl] at HO hlen Q HX
      clear hown hbox hfree hkept
      obtain ⟨b, off, z, rfl, hbl, hz, hc⟩ := (H.out.below DB.out).at_z hlt
      rw [hz] at Q
      have i2 : (0 : Int) ≤ (k : Int) := by omega
      have i3 : (k : Int) < (n : Int) := by omega
      clear hz
      by_cases hz0 : 1 < z
      · have q := Q.out
        rw [if_pos hz0] at q
        have Q2 := Lib.hid q
        clear q
        have HOW := Lib.hid (HO.out.al (Nat.le_refl _) (al1 wr (Obj.cells #[.int .i64 z] 2))).1
        have HNW := Lib.hid (World.news_of_block (cs := #[.int .i64 z]) (t := 2) (fr := (0, 0)) (heap_alloc_new wr _))
        have d1 : decide (1 < z) = true := by simpa using hz0
        obtain ⟨l0, l1⟩ := HX.out
        go_wp2_with (at_builtin; refine wpList_append_lies _ rfl _ _ 24 rfl W0.heap.size 2 i0 _ 1 8 Try.underlying24 HI.out.1 HI.out.2.1 HI.out.2.2.1 HI.out.2.2.2 rfl (by decide) (.slice A2 l.length c2) l.length (l.map (Value.int .i64)) rfl (by exact HOW.out) ⟨wr.heap.size, 0, none⟩ 1 1 [.int .i64 z] rfl rfl (by exact HNW.out) (by simp [Value.oneCell']) (by omega) (by unfold maxLen; omega) (by omega) (by simp <;> omega) (wr.heap.size + 1) (by simp) ?_; intro gg cap w7 hown7 hgrow hat hlt7; have O7 := Lib.hid hown7; have L7 := Lib.hid hlt7; have K7 := Lib.hid (Kept.of_grown hgrow HOW.out.lt); obtain ⟨y0, y1⟩ := (HX.out.below (al1 wr (Obj.cells #[.int .i64 z] 2)) (by omega)).kept K7.out (by simp; omega) (by simp; omega); have g7 := (HF.out.below (al1 wr (Obj.cells #[.int .i64 z] 2)) (by omega)).kept K7.out (by simp; omega) (by simp; omega); unfold Free at g7; clear hown7 hgrow hlt7 hat)
        have hkk := Lib.hid ((HK.out.alloc _).over K7.out (by omega))
        have hfin := Lib.hid (GtAt.push ⟨y0, y1⟩ g7 O7.out L7.out (by omega) hkk.out)
        clear l0 l1 y0 y1 g7
        go_wp2
        go_roundw
        case rel => exact ⟨k + 1, by omega, by go_num, by rw [Q2.out]; exact hfin.out⟩
        case measure => simp [intOf]; omega
      · have q := Q.out
        rw [if_neg hz0, List.append_nil] at q
        have Q2 := Lib.hid q
        clear q
        have d1 : decide (1 < z) = false := by simpa using hz0
        go_wp2
        go_roundw
        case rel => exact ⟨k + 1, by omega, by go_num, by rw [Q2.out]; exact ⟨A2, c2, HX.out, HF.out, HO.out, HK.out⟩⟩
        case measure => simp [intOf]; omega
    · obtain rfl : k = n := by omega
      have hx : xs.take k = xs := List.take_of_length_le (by omega)
      rw [hx] at HO HX
      clear hx hown hbox hfree hkept
      have i3 : ¬ (k : Int) < (k : Int) := by omega
      obtain ⟨l0, l1⟩ := HX.out
      obtain ⟨n0, n1⟩ := T0.out.kept HK.out (by omega) (by omega)
      have f0 := F0.out.kept HK.out (by omega) (by omega)
      unfold Free at f0
      go_wp2
      refine bodyPost_ret (v := .agg #[.int .i64 r, .slice A2 (tors xs).length c2]) (by simp [results, Try.results93, n0, n1, go_sem]) rfl ⟨A2, c2, rfl, ?_, ?_⟩
      · refine (((HO.out.far (p := ⟨w.heap.size, 0, none⟩) (by dsimp only; omega) _).far (p := ⟨w.heap.size, 1, none⟩) (by dsimp only; omega) _)).wide (by omega) ?_
        simp [World.setCell]
      · exact (DB.out.setCell (by simp) _).setCell (by simp) _

set_option maxHeartbeats 4000000 in
theorem cok_impl_err (r q : Int) (A : Option Addr) (n c : Nat) (l : List Int) (code : Int) (w : World) (hI : Calls Try.prog 92 #[.agg #[.int .i64 r, .int .i64 q, .slice A n c]] ((w.alloc (Obj.cells #[.int .i64 r, .int .i64 q, .slice A n c] 77)).alloc (Obj.cells #[.int .i64 0, .slice none 0 0] 48)) (ResL ((w.alloc (Obj.cells #[.int .i64 r, .int .i64 q, .slice A n c] 77)).alloc (Obj.cells #[.int .i64 0, .slice none 0 0] 48)) l code)) (hc : code ≠ 0) :
    Calls Try.prog 74 #[.agg #[.int .i64 r, .int .i64 q, .slice A n c]] w (ResGC w 0 [] code) := by
  have t1 : (code != 0) = true := by simpa using hc
  clear hc
  have T0 := Lib.hid (BoxG.new (w.alloc (Obj.cells #[.int .i64 r, .int .i64 q, .slice A n c] 77)) 48 (.int .i64 0) (.slice none 0 0))
  have F0 := Lib.hid (Free.new (w.alloc (Obj.cells #[.int .i64 r, .int .i64 q, .slice A n c] 77)) 48 #[.int .i64 0, .slice none 0 0])
  have K0 := Lib.hid ((Box3.new w 77 (.int .i64 r) (.int .i64 q) (.slice A n c)).below (al1 (w.alloc (Obj.cells #[.int .i64 r, .int .i64 q, .slice A n c] 77)) (Obj.cells #[.int .i64 0, .slice none 0 0] 48)) (by simp))
  simp only [World.size_alloc] at T0 F0
  have H := Lib.hid hI
  clear hI
  go_enter Try.func74, Try.ntmps74
  go_wp2_with fail
  refine H.out.mono ?_
  rintro e w1 ⟨A2, c2, rfl, hown, hb⟩
  have s1 : w.heap.size + 1 < w1.heap.size := by have := hb.size; simp at this; omega
  have s2 : w.heap.size < w1.heap.size := by omega
  have T1 := Lib.hid (T0.out.below hb (by simp))
  have F1 := Lib.hid (F0.out.below hb (by simp))
  have K1 := Lib.hid (K0.out.below hb (by simp; omega))
  have HB := Lib.hid (on2 _ _ hb)
  have O1 := Lib.hid hown
  clear hown hb T0 F0 K0
  obtain ⟨n0, n1⟩ := T1.out
  have f0 := F1.out
  unfold Free at f0
  go_wp2
  refine bodyPost_ret (v := .tuple #[.agg #[.int .i64 0, .slice none 0 0], .int .i64 code]) (by simp [results, Try.results74, n0, n1, go_sem]) rfl ⟨none, 0, rfl, Own.none_ _ _ _, ?_⟩
  exact (HB.out.setCell (by simp) _).setCell (by simp) _

set_option maxHeartbeats 4000000 in
theorem cok_spec_err (r q : Int) (A : Option Addr) (n c : Nat) (l : List Int) (code : Int) (w : World) (hI : Calls Try.prog 90 #[.agg #[.int .i64 r, .int .i64 q, .slice A n c]] ((w.alloc (Obj.cells #[.int .i64 r, .int .i64 q, .slice A n c] 77)).alloc (Obj.cells #[.int .i64 0, .slice none 0 0] 48)) (ResL ((w.alloc (Obj.cells #[.int .i64 r, .int .i64 q, .slice A n c] 77)).alloc (Obj.cells #[.int .i64 0, .slice none 0 0] 48)) l code)) (hc : code ≠ 0) :
    Calls Try.prog 73 #[.agg #[.int .i64 r, .int .i64 q, .slice A n c]] w (ResGC w 0 [] code) := by
  have t1 : (code != 0) = true := by simpa using hc
  clear hc
  have T0 := Lib.hid (BoxG.new (w.alloc (Obj.cells #[.int .i64 r, .int .i64 q, .slice A n c] 77)) 48 (.int .i64 0) (.slice none 0 0))
  have F0 := Lib.hid (Free.new (w.alloc (Obj.cells #[.int .i64 r, .int .i64 q, .slice A n c] 77)) 48 #[.int .i64 0, .slice none 0 0])
  have K0 := Lib.hid ((Box3.new w 77 (.int .i64 r) (.int .i64 q) (.slice A n c)).below (al1 (w.alloc (Obj.cells #[.int .i64 r, .int .i64 q, .slice A n c] 77)) (Obj.cells #[.int .i64 0, .slice none 0 0] 48)) (by simp))
  simp only [World.size_alloc] at T0 F0
  have H := Lib.hid hI
  clear hI
  go_enter Try.func73, Try.ntmps73
  go_wp2_with fail
  refine H.out.mono ?_
  rintro e w1 ⟨A2, c2, rfl, hown, hb⟩
  have s1 : w.heap.size + 1 < w1.heap.size := by have := hb.size; simp at this; omega
  have s2 : w.heap.size < w1.heap.size := by omega
  have T1 := Lib.hid (T0.out.below hb (by simp))
  have F1 := Lib.hid (F0.out.below hb (by simp))
  have K1 := Lib.hid (K0.out.below hb (by simp; omega))
  have HB := Lib.hid (on2 _ _ hb)
  have O1 := Lib.hid hown
  clear hown hb T0 F0 K0
  obtain ⟨n0, n1⟩ := T1.out
  have f0 := F1.out
  unfold Free at f0
  go_wp2
  refine bodyPost_ret (v := .tuple #[.agg #[.int .i64 0, .slice none 0 0], .int .i64 code]) (by simp [results, Try.results73, n0, n1, go_sem]) rfl ⟨none, 0, rfl, Own.none_ _ _ _, ?_⟩
  exact (HB.out.setCell (by simp) _).setCell (by simp) _

set_option maxHeartbeats 4000000 in
theorem cok_impl_ok (r q : Int) (A : Option Addr) (n c : Nat) (l : List Int) (w : World) (hI : Calls Try.prog 92 #[.agg #[.int .i64 r, .int .i64 q, .slice A n c]] ((w.alloc (Obj.cells #[.int .i64 r, .int .i64 q, .slice A n c] 77)).alloc (Obj.cells #[.int .i64 0, .slice none 0 0] 48)) (ResL ((w.alloc (Obj.cells #[.int .i64 r, .int .i64 q, .slice A n c] 77)).alloc (Obj.cells #[.int .i64 0, .slice none 0 0] 48)) l 0)) (hl : l.length ≤ 48) (h0 : 0 ≤ r) (h1 : r ≤ 48) :
    Calls Try.prog 74 #[.agg #[.int .i64 r, .int .i64 q, .slice A n c]] w (ResGC w (r - (l.length : Int)) (tors l) 0) := by
  have wr0 : IntKind.i64.wrap (r - (l.length : Int)) = r - (l.length : Int) := IntWalk.i64_in _ (by omega)
  have T0 := Lib.hid (BoxG.new (w.alloc (Obj.cells #[.int .i64 r, .int .i64 q, .slice A n c] 77)) 48 (.int .i64 0) (.slice none 0 0))
  have F0 := Lib.hid (Free.new (w.alloc (Obj.cells #[.int .i64 r, .int .i64 q, .slice A n c] 77)) 48 #[.int .i64 0, .slice none 0 0])
  have K0 := Lib.hid ((Box3.new w 77 (.int .i64 r) (.int .i64 q) (.slice A n c)).below (al1 (w.alloc (Obj.cells #[.int .i64 r, .int .i64 q, .slice A n c] 77)) (Obj.cells #[.int .i64 0, .slice none 0 0] 48)) (by simp))
  simp only [World.size_alloc] at T0 F0
  have H := Lib.hid hI
  clear hI
  go_enter Try.func74, Try.ntmps74
  go_wp2_with fail
  refine H.out.mono ?_
  rintro e w1 ⟨A2, c2, rfl, hown, hb⟩
  have s1 : w.heap.size + 1 < w1.heap.size := by have := hb.size; simp at this; omega
  have s2 : w.heap.size < w1.heap.size := by omega
  have T1 := Lib.hid (T0.out.below hb (by simp))
  have F1 := Lib.hid (F0.out.below hb (by simp))
  have K1 := Lib.hid (K0.out.below hb (by simp; omega))
  have HB := Lib.hid (on2 _ _ hb)
  have O1 := Lib.hid hown
  clear hown hb T0 F0 K0
  obtain ⟨k0, k1, k2⟩ := K1.out
  go_wp2_with fail
  refine (group_impl (r - (l.length : Int)) A2 l.length c2 l _ O1.out.ints (by omega)).mono ?_
  rintro e w2 ⟨A3, c3, rfl, hown, hb⟩
  have s3 : w1.heap.size ≤ w2.heap.size := hb.size
  obtain ⟨n0, n1⟩ := T1.out.below hb s1
  have f0 := F1.out.below hb s1
  unfold Free at f0
  have O2 := Lib.hid hown
  have HB2 := Lib.hid (HB.out.trans (hb.mono (by omega)))
  clear hown hb k0 k1 k2
  go_wp2
  refine bodyPost_ret (v := .tuple #[.agg #[.int .i64 (r - (l.length : Int)), .slice A3 (tors l).length c3], .int .i64 0]) (by simp [results, Try.results74, n0, n1, go_sem]) rfl ⟨A3, c3, rfl, ?_, ?_⟩
  · refine (((O2.out.far (p := ⟨w.heap.size + 1, 0, none⟩) (by dsimp only; omega) _).far (p := ⟨w.heap.size + 1, 1, none⟩) (by dsimp only; omega) _)).wide (by omega) ?_
    simp [World.setCell]
  · exact (HB2.out.setCell (by simp) _).setCell (by simp) _

set_option maxHeartbeats 4000000 in
theorem cok_spec_ok (r q : Int) (A : Option Addr) (n c : Nat) (l : List Int) (w : World) (hI : Calls Try.prog 90 #[.agg #[.int .i64 r, .int .i64 q, .slice A n c]] ((w.alloc (Obj.cells #[.int .i64 r, .int .i64 q, .slice A n c] 77)).alloc (Obj.cells #[.int .i64 0, .slice none 0 0] 48)) (ResL ((w.alloc (Obj.cells #[.int .i64 r, .int .i64 q, .slice A n c] 77)).alloc (Obj.cells #[.int .i64 0, .slice none 0 0] 48)) l 0)) (hl : l.length ≤ 48) (h0 : 0 ≤ r) (h1 : r ≤ 48) :
    Calls Try.prog 73 #[.agg #[.int .i64 r, .int .i64 q, .slice A n c]] w (ResGC w (r - (l.length : Int)) (tors l) 0) := by
  have wr0 : IntKind.i64.wrap (r - (l.length : Int)) = r - (l.length : Int) := IntWalk.i64_in _ (by omega)
  have T0 := Lib.hid (BoxG.new (w.alloc (Obj.cells #[.int .i64 r, .int .i64 q, .slice A n c] 77)) 48 (.int .i64 0) (.slice none 0 0))
  have F0 := Lib.hid (Free.new (w.alloc (Obj.cells #[.int .i64 r, .int .i64 q, .slice A n c] 77)) 48 #[.int .i64 0, .slice none 0 0])
  have K0 := Lib.hid ((Box3.new w 77 (.int .i64 r) (.int .i64 q) (.slice A n c)).below (al1 (w.alloc (Obj.cells #[.int .i64 r, .int .i64 q, .slice A n c] 77)) (Obj.cells #[.int .i64 0, .slice none 0 0] 48)) (by simp))
  simp only [World.size_alloc] at T0 F0
  have H := Lib.hid hI
  clear hI
  go_enter Try.func73, Try.ntmps73
  go_wp2_with fail
  refine H.out.mono ?_
  rintro e w1 ⟨A2, c2, rfl, hown, hb⟩
  have s1 : w.heap.size + 1 < w1.heap.size := by have := hb.size; simp at this; omega
  have s2 : w.heap.size < w1.heap.size := by omega
  have T1 := Lib.hid (T0.out.below hb (by simp))
  have F1 := Lib.hid (F0.out.below hb (by simp))
  have K1 := Lib.hid (K0.out.below hb (by simp; omega))
  have HB := Lib.hid (on2 _ _ hb)
  have O1 := Lib.hid hown
  clear hown hb T0 F0 K0
  obtain ⟨k0, k1, k2⟩ := K1.out
  go_wp2_with fail
  go_region_held3 (fun W => W.cell? ⟨w.heap.size, 0, none⟩ = some (.int .i64 r) ∧ W.cell? ⟨w.heap.size, 1, none⟩ = some (.int .i64 q) ∧ W.cell? ⟨w.heap.size, 2, none⟩ = some (.slice A n c)) (go_keep)
    ((go_at_call 91; (with_reducible refine (torsion_spec A2 l.length c2 l _ (by exact O1.out.ints.into (Below.refl _ _).drew) (by omega)).mono ?_); rintro e w2 ⟨A3, c3, rfl, hown, hb'⟩; have hb := undrew hb'; have s3 : w1.heap.size ≤ w2.heap.size := hb.size; obtain ⟨n0, n1⟩ := T1.out.below hb s1; have f0 := F1.out.below hb s1; unfold Free at f0; have O2 : Hid (Own w2 w1.heap.size w2.heap.size A3 (tors l).length c3 (tors l)) := Lib.hid hown; have HB2 := Lib.hid (HB.out.trans (hb.mono (by omega))); obtain ⟨e0, e1, e2⟩ := K1.out.below hb s2; clear hown hb hb'))
  go_wp2
  refine bodyPost_ret (v := .tuple #[.agg #[.int .i64 (r - (l.length : Int)), .slice A3 (tors l).length c3], .int .i64 0]) (by simp [results, Try.results73, n0, n1, go_sem]) rfl ⟨A3, c3, rfl, ?_, ?_⟩
  · refine (((O2.out.far (p := ⟨w.heap.size + 1, 0, none⟩) (by dsimp only; omega) _).far (p := ⟨w.heap.size + 1, 1, none⟩) (by dsimp only; omega) _)).wide (by first | omega | (simp [World.drew]; omega)) ?_
    simp [World.setCell]
  · exact (HB2.out.setCell (by simp) _).setCell (by simp) _

end Go.Proofs.Ytpojkahlllochaa
