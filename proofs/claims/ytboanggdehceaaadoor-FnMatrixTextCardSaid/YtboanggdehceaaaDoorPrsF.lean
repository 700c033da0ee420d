/- The program's ParseMatrix. No condition but those that each theorem names. -/
import Derived.Test.YtboanggdehceaaaDoorPrsD
namespace Go.Proofs.YtboanggdehceaaaDoor
open Go.RowKit

/-- What a text is parsed to: a matrix and an error's number. -/
def PO (l : List UInt8) (r q : Int) (zs : List Int) (x : Int) : Prop :=
  (Prs.Txt l r q zs ∧ MOk r q zs ∧ x = 0) ∨ ((∃ r c es, Prs.Txt l r c es ∧ ¬ MOk r c es) ∧ r = 0 ∧ q = 0 ∧ zs = [] ∧ x = 2) ∨ ((¬ ∃ r c es, Prs.Txt l r c es) ∧ r = 0 ∧ q = 0 ∧ zs = [] ∧ x = 6)
theorem PO.exists_ (l : List UInt8) : ∃ r q zs x, PO l r q zs x := by
  by_cases h : ∃ r c es, Prs.Txt l r c es
  · obtain ⟨r, c, es, h1⟩ := h
    by_cases h2 : MOk r c es
    · exact ⟨r, c, es, 0, .inl ⟨h1, h2, rfl⟩⟩
    · exact ⟨0, 0, [], 2, .inr (.inl ⟨⟨r, c, es, h1, h2⟩, rfl, rfl, rfl, rfl⟩)⟩
  · exact ⟨0, 0, [], 6, .inr (.inr ⟨h, rfl, rfl, rfl, rfl⟩)⟩
theorem PO.unique {l : List UInt8} {r q r' q' x x' : Int} {zs zs' : List Int} (h : PO l r q zs x) (h' : PO l r' q' zs' x') : r = r' ∧ q = q' ∧ zs = zs' ∧ x = x' := by
  rcases h with ⟨a, b, rfl⟩ | ⟨⟨r1, c1, e1, a, b⟩, rfl, rfl, rfl, rfl⟩ | ⟨a, rfl, rfl, rfl, rfl⟩ <;> rcases h' with ⟨a', b', rfl⟩ | ⟨⟨r2, c2, e2, a', b'⟩, rfl, rfl, rfl, rfl⟩ | ⟨a', rfl, rfl, rfl, rfl⟩
  · obtain ⟨rfl, rfl, rfl⟩ := a.unique a'; exact ⟨rfl, rfl, rfl, rfl⟩
  · obtain ⟨rfl, rfl, rfl⟩ := a.unique a'; exact absurd b b'
  · exact absurd ⟨_, _, _, a⟩ a'
  · obtain ⟨rfl, rfl, rfl⟩ := a.unique a'; exact absurd b' b
  · exact ⟨rfl, rfl, rfl, rfl⟩
  · exact absurd ⟨_, _, _, a⟩ a'
  · exact absurd ⟨_, _, _, a'⟩ a
  · exact absurd ⟨_, _, _, a'⟩ a
  · exact ⟨rfl, rfl, rfl, rfl⟩
theorem PO.len {l : List UInt8} {r q x : Int} {zs : List Int} (h : PO l r q zs x) : zs.length ≤ 2304 := by
  rcases h with ⟨_, h, _⟩ | ⟨_, _, _, rfl, _⟩ | ⟨_, _, _, rfl, _⟩
  · have h1 := h.2.2.2.2.1
    have h2 := rq_hi h.1 h.2.1 h.2.2.1 h.2.2.2.1
    omega
  · simp
  · simp
/-- The result of a parser. -/
def PRes (w : World) (l : List UInt8) (e : Ending) (w' : World) : Prop := ∃ r q zs x, PO l r q zs x ∧ ResM w r q zs (.int .i64 x) e w'
theorem PRes.fix {w : World} {l : List UInt8} {e : Ending} {w' : World} {r q x : Int} {zs : List Int} (h : PRes w l e w') (hp : PO l r q zs x) : ResM w r q zs (.int .i64 x) e w' := by
  obtain ⟨r1, q1, z1, x1, h1, h2⟩ := h
  obtain ⟨rfl, rfl, rfl, rfl⟩ := h1.unique hp
  exact h2
theorem PRes.zero {w W : World} {l : List UInt8} {x : Int} (h : PO l 0 0 [] x) (hb : Below w.heap.size w W) : PRes w l (.returned (.tuple #[.agg #[.int .i64 0, .int .i64 0, .slice none 0 0], .int .i64 x])) W :=
  ⟨0, 0, [], x, h, none, 0, rfl, Own.none_ _ _ _, hb⟩
theorem PRes.full {w W : World} {l : List UInt8} {r q : Int} {zs : List Int} {A : Option Addr} {c : Nat} (h : PO l r q zs 0) (ho : Own W w.heap.size W.heap.size A zs.length c zs) (hb : Below w.heap.size w W) : PRes w l (.returned (.tuple #[.agg #[.int .i64 r, .int .i64 q, .slice A zs.length c], .int .i64 0])) W :=
  ⟨r, q, zs, 0, h, A, c, rfl, ho, hb⟩
set_option maxRecDepth 100000 in
set_option maxHeartbeats 8000000 in
theorem parse_impl (l : List UInt8) (w : World) (hl : l.length ≤ 1048576) : Calls Tryd.prog 9 #[.string ⟨l.toArray⟩] w (PRes w l) := by
  have K0 := Lib.hid (Box3.new w 26 (.int .i64 0) (.int .i64 0) (.slice none 0 0))
  have F0 := Lib.hid (Free.new w 26 #[.int .i64 0, .int .i64 0, .slice none 0 0])
  have D0 := Lib.hid (al1 w (Obj.cells #[.int .i64 0, .int .i64 0, .slice none 0 0] 26))
  have s0 : w.heap.size < (w.alloc (Obj.cells #[.int .i64 0, .int .i64 0, .slice none 0 0] 26)).heap.size := by simp
  go_enter Tryd.func9, Tryd.ntmps9
  go_wp2_with fail
  refine (read_impl l _ hl).mono ?_
  rintro e w1 ⟨hc, hb⟩
  have s1 : w.heap.size < w1.heap.size := by have := hb.size; simp at this; omega
  have K1 := Lib.hid (K0.out.below hb s0)
  have F1 := Lib.hid (F0.out.below hb s0)
  have D1 := Lib.hid (D0.out.trans (hb.mono D0.out.size))
  clear hb K0 F0 D0
  rcases hc with ⟨r, c, es, A, cap, hT, rfl, ho⟩ | ⟨hno, rfl⟩
  case inr =>
    have NO := Lib.hid (show PO l 0 0 [] 6 from .inr (.inr ⟨hno, rfl, rfl, rfl, rfl⟩))
    have K := K1
    have F := F1
    have D := D1
    clear hno K1 F1 D1
    obtain ⟨z0, z1, z2⟩ := K.out
    have zf := F.out
    unfold Free at zf
    go_wp2
    exact bodyPost_ret (v := .tuple #[.agg #[.int .i64 0, .int .i64 0, .slice none 0 0], .int .i64 6]) (by simp [results, Tryd.results9, z0, z1, z2, s1, go_sem]) rfl (PRes.zero NO.out ((((D.out.setCell (by simp) _).setCell (by simp) _).setCell (by simp) _).alloc (by simp [World.setCell]; omega) _))
  have el : es.length ≤ 1048576 := by
    have h1 := congrArg List.length hT.1
    have h2 := Prs.wd_len es
    simp at h1
    omega
  have HT := Lib.hid hT
  have O1 := Lib.hid ho
  clear hT ho
  have B1 := Lib.hid ((Box3.new w1 26 (.int .i64 r) (.int .i64 c) (.slice A es.length cap)))
  have G1 := Lib.hid (al1 w1 (Obj.cells #[.int .i64 r, .int .i64 c, .slice A es.length cap] 26))
  have K2 := Lib.hid (K1.out.below G1.out s1)
  have F2 := Lib.hid (F1.out.below G1.out s1)
  have D2 := Lib.hid (D1.out.trans (G1.out.mono D1.out.size))
  have O2 := Lib.hid ((O1.out.al (Nat.le_refl _) G1.out).wide (lo' := w.heap.size + 1) (hi' := (w1.alloc (Obj.cells #[.int .i64 r, .int .i64 c, .slice A es.length cap] 26)).heap.size) (by simp) G1.out.size)
  have s2 : w.heap.size < (w1.alloc (Obj.cells #[.int .i64 r, .int .i64 c, .slice A es.length cap] 26)).heap.size := by simp; omega
  have s3 : w1.heap.size < (w1.alloc (Obj.cells #[.int .i64 r, .int .i64 c, .slice A es.length cap] 26)).heap.size := by simp
  clear K1 F1 D1 O1 G1 s1 s0
  by_cases hM : MOk r c es
  case neg =>
    have NO := Lib.hid (show PO l 0 0 [] 2 from .inr (.inl ⟨⟨r, c, es, HT.out, hM⟩, rfl, rfl, rfl, rfl⟩))
    have HM := Lib.hid hM
    clear hM
    go_wp2_with fail
    refine (isMi_no r c A es.length cap es _ O2.out.ints el HM.out).mono ?_
    rintro e w2 ⟨rfl, hb⟩
    have s4 : w.heap.size < w2.heap.size := by have := hb.size; omega
    have K := Lib.hid (K2.out.below hb s2)
    have F := Lib.hid (F2.out.below hb s2)
    have D := Lib.hid (D2.out.trans (hb.mono D2.out.size))
    clear hb K2 F2 D2
    obtain ⟨z0, z1, z2⟩ := K.out
    have zf := F.out
    unfold Free at zf
    go_wp2
    exact bodyPost_ret (v := .tuple #[.agg #[.int .i64 0, .int .i64 0, .slice none 0 0], .int .i64 2]) (by simp [results, Tryd.results9, z0, z1, z2, go_sem]) rfl (PRes.zero NO.out (((D.out.setCell (by simp) _).setCell (by simp) _).setCell (by simp) _))
  have YES := Lib.hid (show PO l r c es 0 from .inl ⟨HT.out, hM, rfl⟩)
  have HM := Lib.hid hM
  clear hM
  go_wp2_with fail
  refine (isMi_yes r c A es.length cap es _ O2.out.ints el HM.out).mono ?_
  rintro e w2 ⟨rfl, hb⟩
  have s4 : w.heap.size < w2.heap.size := by have := hb.size; omega
  have s5 : w1.heap.size < w2.heap.size := by have := hb.size; omega
  have K := Lib.hid (K2.out.below hb s2)
  have F := Lib.hid (F2.out.below hb s2)
  have D := Lib.hid (D2.out.trans (hb.mono D2.out.size))
  have B := Lib.hid (B1.out.below hb s3)
  have O := Lib.hid ((O2.out.al (Nat.le_refl _) hb).wide (Nat.le_refl _) hb.size)
  clear hb K2 F2 D2 B1 O2
  obtain ⟨z0, z1, z2⟩ := K.out
  obtain ⟨b0, b1, b2⟩ := B.out
  have zf := F.out
  unfold Free at zf
  go_wp2
  refine bodyPost_ret (v := .tuple #[.agg #[.int .i64 r, .int .i64 c, .slice A es.length cap], .int .i64 0]) (by simp [results, Tryd.results9, z0, z1, z2, go_sem]) rfl (PRes.full YES.out ?_ (((D.out.setCell (by simp) _).setCell (by simp) _).setCell (by simp) _))
  exact (((O.out.far (p := ⟨w.heap.size, 0, none⟩) (.inl (by dsimp only; omega)) _).far (p := ⟨w.heap.size, 1, none⟩) (.inl (by dsimp only; omega)) _).far (p := ⟨w.heap.size, 2, none⟩) (.inl (by dsimp only; omega)) _).wide (by omega) (by simp [World.setCell])
end Go.Proofs.YtboanggdehceaaaDoor
