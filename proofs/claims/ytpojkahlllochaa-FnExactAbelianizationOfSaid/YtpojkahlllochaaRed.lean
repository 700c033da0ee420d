/- The laws' helpers over reductions: comparison and marks. No condition but those that each theorem names. -/
import Derived.Test.YtpojkahlllochaaSmS
namespace Go.Proofs.Ytpojkahlllochaa
open Go.RowKit

/-- The five matrices of a reduction, each read as a list. -/
def RedInts (w : World) (B : Nat) (s : Sm.St) (Al Ali Ad Ar Ari : Option Addr) : Prop :=
  Ints w B Al s.l.length s.l ∧ Ints w B Ali s.li.length s.li ∧ Ints w B Ad s.d.length s.d ∧ Ints w B Ar s.r.length s.r ∧ Ints w B Ari s.ri.length s.ri
/-- The five matrices of a reduction lie between two block numbers, each owned. -/
def RedOwn (w : World) (lo hi : Nat) (s : Sm.St) (Al Ali Ad Ar Ari : Option Addr) (cl cli cd cr cri : Nat) : Prop :=
  ∃ b1 b2 b3 b4, lo ≤ b1 ∧ b1 ≤ b2 ∧ b2 ≤ b3 ∧ b3 ≤ b4 ∧ b4 ≤ hi ∧ Own w lo b1 Ad s.d.length cd s.d ∧ Own w b1 b2 Al s.l.length cl s.l ∧ Own w b2 b3 Ali s.li.length cli s.li ∧ Own w b3 b4 Ar s.r.length cr s.r ∧ Own w b4 hi Ari s.ri.length cri s.ri
/-- No matrix is large. -/
def Small (s : Sm.St) : Prop := s.l.length ≤ 2304 ∧ s.li.length ≤ 2304 ∧ s.d.length ≤ 2304 ∧ s.r.length ≤ 2304 ∧ s.ri.length ≤ 2304
theorem RedInts.below {w w' : World} {B : Nat} {s : Sm.St} {Al Ali Ad Ar Ari : Option Addr} (h : RedInts w B s Al Ali Ad Ar Ari) (hb : Below B w w') : RedInts w' B s Al Ali Ad Ar Ari :=
  ⟨h.1.below hb, h.2.1.below hb, h.2.2.1.below hb, h.2.2.2.1.below hb, h.2.2.2.2.below hb⟩
theorem RedOwn.ints {w : World} {lo hi B : Nat} {s : Sm.St} {Al Ali Ad Ar Ari : Option Addr} {cl cli cd cr cri : Nat} (h : RedOwn w lo hi s Al Ali Ad Ar Ari cl cli cd cr cri) (hB : hi ≤ B) : RedInts w B s Al Ali Ad Ar Ari := by
  obtain ⟨b1, b2, b3, b4, i0, i1, i2, i3, i4, h1, h2, h3, h4, h5⟩ := h
  exact ⟨h2.ints.more (by omega), h3.ints.more (by omega), h1.ints.more (by omega), h4.ints.more (by omega), h5.ints.more hB⟩
theorem RedOwn.below {w w' : World} {lo hi B : Nat} {s : Sm.St} {Al Ali Ad Ar Ari : Option Addr} {cl cli cd cr cri : Nat} (h : RedOwn w lo hi s Al Ali Ad Ar Ari cl cli cd cr cri) (hb : Below B w w') (hh : hi ≤ B) : RedOwn w' lo hi s Al Ali Ad Ar Ari cl cli cd cr cri := by
  obtain ⟨b1, b2, b3, b4, i0, i1, i2, i3, i4, h1, h2, h3, h4, h5⟩ := h
  exact ⟨b1, b2, b3, b4, i0, i1, i2, i3, i4, h1.below hb (by omega), h2.below hb (by omega), h3.below hb (by omega), h4.below hb (by omega), h5.below hb hh⟩
theorem RedOwn.kept {w w' : World} {lo hi lo' hi' : Nat} {s : Sm.St} {Al Ali Ad Ar Ari : Option Addr} {cl cli cd cr cri : Nat} (h : RedOwn w lo hi s Al Ali Ad Ar Ari cl cli cd cr cri) (hk : Kept lo' hi' w w') (hd : hi ≤ lo' ∨ hi' ≤ lo) (hh : hi ≤ w.heap.size) : RedOwn w' lo hi s Al Ali Ad Ar Ari cl cli cd cr cri := by
  obtain ⟨b1, b2, b3, b4, i0, i1, i2, i3, i4, h1, h2, h3, h4, h5⟩ := h
  exact ⟨b1, b2, b3, b4, i0, i1, i2, i3, i4, h1.kept hk (by omega) (by omega), h2.kept hk (by omega) (by omega), h3.kept hk (by omega) (by omega), h4.kept hk (by omega) (by omega), h5.kept hk (by omega) (by omega)⟩

/-- The state with marks from k on in place of its entries. -/
def markSt (k : Int) (s : Sm.St) : Sm.St := ⟨marks k s.l.length, marks (k + s.l.length) s.li.length, marks (k + s.l.length + s.li.length) s.d.length, marks (k + s.l.length + s.li.length + s.d.length) s.r.length, marks (k + s.l.length + s.li.length + s.d.length + s.r.length) s.ri.length⟩
def sizeSt (s : Sm.St) : Int := s.l.length + s.li.length + s.d.length + s.r.length + s.ri.length

theorem ResR.red {w w' : World} {R C code : Int} {s : Sm.St} {e : Ending} (h : ResR w R C s code e w') :
    ∃ (Al Ali Ad Ar Ari : Option Addr) (cl cli cd cr cri : Nat), e = .returned (.tuple #[.agg #[.int .i64 R, .int .i64 R, .slice Al s.l.length cl, .int .i64 R, .int .i64 R, .slice Ali s.li.length cli, .int .i64 R, .int .i64 C, .slice Ad s.d.length cd, .int .i64 C, .int .i64 C, .slice Ar s.r.length cr, .int .i64 C, .int .i64 C, .slice Ari s.ri.length cri], .int .i64 code]) ∧ RedOwn w' w.heap.size w'.heap.size s Al Ali Ad Ar Ari cl cli cd cr cri ∧ Below w.heap.size w w' := by
  obtain ⟨b1, b2, b3, b4, Ad, Al, Ali, Ar, Ari, cd, cl, cli, cr, cri, rfl, i0, i1, i2, i3, i4, hd, hl, hli, hr, hri, hb⟩ := h
  exact ⟨Al, Ali, Ad, Ar, Ari, cl, cli, cd, cr, cri, rfl, ⟨b1, b2, b3, b4, i0, i1, i2, i3, i4, hd, hl, hli, hr, hri⟩, hb⟩
theorem RedOwn.wide {w : World} {lo hi lo' hi' : Nat} {s : Sm.St} {Al Ali Ad Ar Ari : Option Addr} {cl cli cd cr cri : Nat} (h : RedOwn w lo hi s Al Ali Ad Ar Ari cl cli cd cr cri) (h1 : lo' ≤ lo) (h2 : hi ≤ hi') : RedOwn w lo' hi' s Al Ali Ad Ar Ari cl cli cd cr cri := by
  obtain ⟨b1, b2, b3, b4, i0, i1, i2, i3, i4, hd, hl, hli, hr, hri⟩ := h
  exact ⟨b1, b2, b3, b4, by omega, i1, i2, i3, by omega, hd.wide h1 (Nat.le_refl _), hl, hli, hr, hri.wide (Nat.le_refl _) h2⟩

end Go.Proofs.Ytpojkahlllochaa
