/- The draws of the law on matrices' texts, and the comparison of two matrices. No condition but those that each theorem names. -/
import Derived.Test.YtboanggdehceaaaDoorDrmC
import Derived.Test.YtboanggdehceaaaDoorPrsF
namespace Go.Proofs.YtboanggdehceaaaDoor
open Go.RowKit

theorem blanked_wd (h : List UInt8) (zs : List Int) : ∀ k, k ≤ zs.length → blanked h zs k = h ++ Prs.wd (zs.take k)
  | 0, _ => by simp [blanked, Prs.wd]
  | k + 1, hk => by
    have e : zs.take (k + 1) = zs.take k ++ [zs.getD k 0] := by
      rw [List.take_add_one, List.getElem?_eq_getElem (by omega), List.getD_eq_getElem?_getD, List.getElem?_eq_getElem (by omega)]
      rfl
    have e2 := Prs.wd_snoc (zs.take k) (zs.getD k 0) []
    rw [List.append_nil, List.append_nil] at e2
    rw [blanked, blanked_wd h zs k (by omega), e, e2, List.append_assoc]
/-- The text of a matrix. -/
def mText (r q : Int) (zs : List Int) : List UInt8 := blanked (sides r q) zs zs.length
theorem mText_eq (r q : Int) (zs : List Int) : mText r q zs = Lib.itoa r ++ 120 :: (Lib.itoa q ++ 58 :: Prs.wd zs) := by
  unfold mText
  rw [blanked_wd _ _ _ (Nat.le_refl _), List.take_length]
  simp [sides]
theorem mText_txt {r q : Int} {zs : List Int} (h : MOk r q zs) : Prs.Txt (mText r q zs) r q zs := by
  refine ⟨mText_eq r q zs, ?_, ?_, fun e he => ?_⟩
  · unfold Prs.Sm; have := h.1; have := h.2.1; omega
  · unfold Prs.Sm; have := h.2.2.1; have := h.2.2.2.1; omega
  · obtain ⟨i, hi, rfl⟩ := List.mem_iff_getElem.1 he
    have := h.2.2.2.2.2 i hi
    rw [List.getD_eq_getElem?_getD, List.getElem?_eq_getElem hi] at this
    simp at this
    unfold Prs.Sm
    omega
theorem txt_mText {l : List UInt8} {r q : Int} {zs : List Int} (h : Prs.Txt l r q zs) : l = mText r q zs := h.1.trans (mText_eq r q zs).symm
theorem mText_ne {r q : Int} {zs : List Int} : (mText r q zs).isEmpty = false := by
  rw [mText_eq]
  cases Lib.itoa r <;> rfl
theorem mText_len {r q : Int} {zs : List Int} (h : MOk r q zs) (hz : zs.length ≤ 100) : (mText r q zs).length ≤ 2300 := by
  have h1 := blanked_len (sides r q) zs (fun i hi => h.2.2.2.2.2 i hi) zs.length (Nat.le_refl _)
  have h2 := itoa_len r (by have := h.1; omega) (by have := h.2.1; omega)
  have h3 := itoa_len q (by have := h.2.2.1; omega) (by have := h.2.2.2.1; omega)
  have h4 : (sides r q).length ≤ 44 := by unfold sides; simp; omega
  unfold mText
  omega

/-- A matrix that was drawn from a code. -/
def DrawnF (w : World) (e : Ending) (w' : World) : Prop :=
  ∃ r q R t zs, AnyP r q zs ∧ e = .returned (.agg #[.int .i64 r, .int .i64 q, .slice R zs.length t]) ∧ Own w' w.heap.size w'.heap.size R zs.length t zs ∧ Below w.heap.size w w'
set_option maxRecDepth 100000 in
set_option maxHeartbeats 4000000 in
theorem drawF_spec (A : Option Addr) (n c : Nat) (bs : List Int) (w : World) (h : Bys w w.heap.size A n bs) (hn : n ≤ 1048576) : Calls Tryd.prog 6 #[.slice A n c] w (DrawnF w) := by
  have B0 := Lib.hid (Box3.new w 26 (.int .i64 0) (.int .i64 0) (.slice none 0 0))
  have F0 := Lib.hid (Free.new w 26 #[.int .i64 0, .int .i64 0, .slice none 0 0])
  have D0 := Lib.hid (al1 w (Obj.cells #[.int .i64 0, .int .i64 0, .slice none 0 0] 26))
  have H0 := Lib.hid (h.into D0.out)
  have s0 : w.heap.size < (w.alloc (Obj.cells #[.int .i64 0, .int .i64 0, .slice none 0 0] 26)).heap.size := by simp
  clear h
  go_enter Tryd.func6, Tryd.ntmps6
  go_wp2_with fail
  refine (from_spec A n c bs _ H0.out hn).mono ?_
  rintro e w1 ⟨g, x, rfl, hs, hg1, hg2, hb⟩
  have hg1' : w.heap.size < g := by simp at hg1; omega
  have s1 : w.heap.size < w1.heap.size := by omega
  have B1 := Lib.hid (B0.out.below hb s0)
  have F1 := Lib.hid (F0.out.below hb s0)
  have D1 := Lib.hid (D0.out.trans (hb.mono D0.out.size))
  have H1 := Lib.hid ((H0.out.below hb).more hg1)
  have S1 := Lib.hid hs
  clear hb hs B0 F0 D0 H0 s0 hg1
  go_wp2_with fail
  refine (drawMatrix_spec g A n c bs 0 x _ H1.out hn S1.out).mono ?_
  rintro e w2 ⟨r, q, R, t, zs, a2, x2, hP, rfl, hown, hs, hk⟩
  have B2 := Lib.hid (B1.out.kept hk s1 (by omega))
  have F2 := Lib.hid (F1.out.kept hk s1 (by omega))
  have D2 := Lib.hid (D1.out.trans (hk.below (B := w.heap.size) (by omega) (by omega)))
  have O2 := Lib.hid (hown.wide (show w.heap.size + 1 ≤ w1.heap.size by omega) (Nat.le_refl _))
  have PP := Lib.hid hP
  clear hs hk hown hP B1 F1 D1 H1 S1
  obtain ⟨k0, k1, k2⟩ := B2.out
  have kf := F2.out
  unfold Free at kf
  go_wp2
  refine bodyPost_ret (v := .agg #[.int .i64 r, .int .i64 q, .slice R zs.length t]) (by simp [results, Tryd.results6, k0, k1, k2, go_sem]) rfl ⟨r, q, R, t, zs, PP.out, rfl, ?_, ((D2.out.setCell (by simp) _).setCell (by simp) _).setCell (by simp) _⟩
  exact (((O2.out.far (p := ⟨w.heap.size, 0, none⟩) (.inl (by dsimp only; omega)) _).far (p := ⟨w.heap.size, 1, none⟩) (.inl (by dsimp only; omega)) _).far (p := ⟨w.heap.size, 2, none⟩) (.inl (by dsimp only; omega)) _).wide (by omega) (by simp [World.setCell])

/-- A text that was drawn from a code. -/
def DrawnS (w : World) (e : Ending) (w' : World) : Prop := ∃ l : List UInt8, l.length ≤ 2500 ∧ e = .returned (.string ⟨l.toArray⟩) ∧ Below w.heap.size w w'
set_option maxRecDepth 100000 in
set_option maxHeartbeats 8000000 in
theorem drawP_spec (A : Option Addr) (n c : Nat) (bs : List Int) (w : World) (h : Bys w w.heap.size A n bs) (hn : n ≤ 1048576) : Calls Tryd.prog 11 #[.slice A n c] w (DrawnS w) := by
  have H0 := Lib.hid h
  clear h
  go_enter Tryd.func11, Tryd.ntmps11
  go_wp2_with fail
  refine (from_spec A n c bs _ H0.out hn).mono ?_
  rintro e w1 ⟨g, x, rfl, hs, hg1, hg2, hb⟩
  have D1 := Lib.hid hb
  have H1 := Lib.hid ((H0.out.below hb).more hg1)
  have S1 := Lib.hid hs
  clear hb hs H0
  go_wp2_with fail
  refine (drawMatrix_spec g A n c bs 0 x _ H1.out hn S1.out).mono ?_
  rintro e w2 ⟨r, q, R, t, zs, a2, x2, hP, rfl, hown, hs, hk⟩
  have D2 := Lib.hid (D1.out.trans (hk.below (B := w.heap.size) (by omega) (by omega)))
  have H2 := Lib.hid (H1.out.kept hk (Nat.le_refl _) (by omega))
  have S2 := Lib.hid hs
  have I2 := Lib.hid hown.ints
  have zl : zs.length ≤ 100 := hP.1
  have g2 : g < w2.heap.size := by have := hk.size; omega
  have gw : w.heap.size ≤ w2.heap.size := by omega
  clear hs hk hown hP D1 H1 S1
  by_cases hM : MOk r q zs
  · have TE : (mText r q zs).isEmpty = false := mText_ne
    have TL := mText_len hM zl
    have HM := Lib.hid hM
    have FM := Lib.hid (fun w h => (show Calls Tryd.prog 28 _ w (NumR w (mText r q zs)) from formatM_spec r q R zs.length t zs w h (by omega) HM.out))
    obtain ⟨l, hl⟩ : ∃ l, mText r q zs = l := ⟨_, rfl⟩
    rw [hl] at TE TL FM
    clear hM hl
    go_wp2_with fail
    refine (FM.out _ I2.out).mono ?_
    rintro e w3 ⟨rfl, hb⟩
    have D3 := Lib.hid (D2.out.trans (hb.mono gw))
    have H3 := Lib.hid ((H2.out.below (hb.mono (by omega))))
    have S3 := Lib.hid (S2.out.below hb g2)
    have g3 : g < w3.heap.size := by have := hb.size; omega
    clear hb D2 H2 S2 I2
    go_wp2_with fail
    refine (damage_spec g A n c bs a2 x2 l 2300 _ H3.out hn S3.out (by omega) (by omega)).mono ?_
    rintro e w4 ⟨l4, a4, x4, hl4, rfl, hs4, hk4⟩
    have D4 := Lib.hid (D3.out.trans (hk4.below (B := w.heap.size) (by omega) (by omega)))
    clear hs4 hk4
    go_wp2
    go_ret
    exact ⟨l4, by omega, rfl, D4.out⟩
  · have HM := Lib.hid hM
    have FM := Lib.hid (fun w h => formatM_spec_no r q R zs.length t zs w h (by omega) HM.out)
    clear hM
    go_wp2_with fail
    refine (FM.out _ I2.out).mono ?_
    rintro e w3 ⟨rfl, hb⟩
    have D3 := Lib.hid ((D2.out.trans (hb.mono gw)).alloc (by have := hb.size; omega) (Obj.cells #[.string ⟨#[49, 120, 49, 58, 32, 49, 48, 48, 48, 48, 48, 48, 48, 48, 48, 48, 48, 49]⟩, .string ⟨#[49, 120, 49, 58, 32, 48, 49]⟩, .string ⟨#[52, 57, 120, 48, 58]⟩, .string ⟨#[49, 120, 50, 58, 32, 51]⟩, .string ⟨#[49, 120, 49, 58, 32, 45, 48]⟩, .string ⟨#[120, 49, 58]⟩, .string ⟨#[49, 120, 49, 58, 32, 49, 48, 48, 48, 48, 48, 48, 48, 48, 48, 48, 48, 48, 48]⟩] 9))
    have H3 := Lib.hid (((H2.out.below (hb.mono (by omega)))).below ((al1 w3 (Obj.cells #[.string ⟨#[49, 120, 49, 58, 32, 49, 48, 48, 48, 48, 48, 48, 48, 48, 48, 48, 48, 49]⟩, .string ⟨#[49, 120, 49, 58, 32, 48, 49]⟩, .string ⟨#[52, 57, 120, 48, 58]⟩, .string ⟨#[49, 120, 50, 58, 32, 51]⟩, .string ⟨#[49, 120, 49, 58, 32, 45, 48]⟩, .string ⟨#[120, 49, 58]⟩, .string ⟨#[49, 120, 49, 58, 32, 49, 48, 48, 48, 48, 48, 48, 48, 48, 48, 48, 48, 48, 48]⟩] 9)).mono (by have := hb.size; omega)))
    have S3 := Lib.hid ((S2.out.below hb g2).below (al1 w3 (Obj.cells #[.string ⟨#[49, 120, 49, 58, 32, 49, 48, 48, 48, 48, 48, 48, 48, 48, 48, 48, 48, 49]⟩, .string ⟨#[49, 120, 49, 58, 32, 48, 49]⟩, .string ⟨#[52, 57, 120, 48, 58]⟩, .string ⟨#[49, 120, 50, 58, 32, 51]⟩, .string ⟨#[49, 120, 49, 58, 32, 45, 48]⟩, .string ⟨#[120, 49, 58]⟩, .string ⟨#[49, 120, 49, 58, 32, 49, 48, 48, 48, 48, 48, 48, 48, 48, 48, 48, 48, 48, 48]⟩] 9)) (by have := hb.size; omega))
    have g3 : g < w3.heap.size := by have := hb.size; omega
    clear hb D2 H2 S2 I2
    go_wp2_with fail
    refine (next_spec g A n c bs 7 a2 x2 _ H3.out hn S3.out (by omega) (by omega)).mono ?_
    rintro e w4 ⟨v, a4, x4, rfl, v0, v1, -, hs4, hk4⟩
    have v3 := v1 (by omega)
    obtain ⟨vn, rfl⟩ : ∃ vn : Nat, v = vn := ⟨v.toNat, by omega⟩
    have z4 : w3.heap.size < w4.heap.size := by have := hk4.size; simp at this; omega
    have z5 : w.heap.size ≤ (w3.alloc (Obj.cells #[.string ⟨#[49, 120, 49, 58, 32, 49, 48, 48, 48, 48, 48, 48, 48, 48, 48, 48, 48, 49]⟩, .string ⟨#[49, 120, 49, 58, 32, 48, 49]⟩, .string ⟨#[52, 57, 120, 48, 58]⟩, .string ⟨#[49, 120, 50, 58, 32, 51]⟩, .string ⟨#[49, 120, 49, 58, 32, 45, 48]⟩, .string ⟨#[120, 49, 58]⟩, .string ⟨#[49, 120, 49, 58, 32, 49, 48, 48, 48, 48, 48, 48, 48, 48, 48, 48, 48, 48, 48]⟩] 9)).heap.size := by simp; omega
    have hcell := seven_at w4 w3 ((hk4.block w3.heap.size (by simp) (by omega)).trans (heap_alloc_new w3 (Obj.cells #[.string ⟨#[49, 120, 49, 58, 32, 49, 48, 48, 48, 48, 48, 48, 48, 48, 48, 48, 48, 49]⟩, .string ⟨#[49, 120, 49, 58, 32, 48, 49]⟩, .string ⟨#[52, 57, 120, 48, 58]⟩, .string ⟨#[49, 120, 50, 58, 32, 51]⟩, .string ⟨#[49, 120, 49, 58, 32, 45, 48]⟩, .string ⟨#[120, 49, 58]⟩, .string ⟨#[49, 120, 49, 58, 32, 49, 48, 48, 48, 48, 48, 48, 48, 48, 48, 48, 48, 48, 48]⟩] 9))) vn (by omega)
    have sl := seven_len vn (by omega)
    obtain ⟨u5, hu5⟩ : ∃ u5, ([[49, 120, 49, 58, 32, 49, 48, 48, 48, 48, 48, 48, 48, 48, 48, 48, 48, 49], [49, 120, 49, 58, 32, 48, 49], [52, 57, 120, 48, 58], [49, 120, 50, 58, 32, 51], [49, 120, 49, 58, 32, 45, 48], [120, 49, 58], [49, 120, 49, 58, 32, 49, 48, 48, 48, 48, 48, 48, 48, 48, 48, 48, 48, 48, 48]] : List (List UInt8)).getD vn [] = u5 := ⟨_, rfl⟩
    rw [hu5] at hcell sl
    have D4 := Lib.hid (D3.out.trans (hk4.below (B := w.heap.size) (by omega) z5))
    have H4 := Lib.hid (H3.out.kept hk4 (Nat.le_refl _) (by simp; omega))
    have S4 := Lib.hid hs4
    have gw4 : w.heap.size ≤ w4.heap.size := by omega
    clear hs4 hk4 v1 hu5 D3 H3 S3
    go_wp2_with fail
    refine (damage_spec g A n c bs a4 x4 u5 30 _ H4.out hn S4.out sl (by omega)).mono ?_
    rintro e w5 ⟨l4, a5, x5, hl4, rfl, hs4, hk4⟩
    have D5 := Lib.hid (D4.out.trans (hk4.below (B := w.heap.size) (by omega) (by omega)))
    clear hs4 hk4
    go_wp2
    go_ret
    exact ⟨l4, by omega, rfl, D5.out⟩

set_option maxHeartbeats 1000000 in
theorem likeM_any (r q : Int) (A A' : Option Addr) (n c c' : Nat) (zs : List Int) (B B' : Nat) (w : World) (h : Ints w B A n zs) (h' : Ints w B' A' n zs) (hn : n ≤ 1048576) (hB : B ≤ w.heap.size) (hB' : B' ≤ w.heap.size) :
    Calls Tryd.prog 10 #[.agg #[.int .i64 r, .int .i64 q, .slice A n c], .agg #[.int .i64 r, .int .i64 q, .slice A' n c']] w fun e w' => e = .returned (.bool true) ∧ Below w.heap.size w w' := by
  have D0 := Lib.hid (al2 w (Obj.cells #[.int .i64 r, .int .i64 q, .slice A n c] 26) (Obj.cells #[.int .i64 r, .int .i64 q, .slice A' n c'] 26))
  have EQ := Lib.hid (likeInts_any A A' n c c' zs B B' _ (h.below (D0.out.mono hB)) (h'.below (D0.out.mono hB')) hn)
  clear h h'
  go_enter Tryd.func10, Tryd.ntmps10
  go_wp2_with fail
  refine EQ.out.mono ?_
  rintro e w1 ⟨rfl, hb⟩
  have HB := Lib.hid (on2 _ _ hb)
  clear hb
  go_wp2
  go_ret
  exact ⟨rfl, HB.out⟩
end Go.Proofs.YtboanggdehceaaaDoor
