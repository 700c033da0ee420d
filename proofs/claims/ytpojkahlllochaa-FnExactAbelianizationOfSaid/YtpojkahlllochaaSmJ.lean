/- Contracts of the table of places and of the steps on all five matrices of a reduction, the program's. No condition but those that each theorem names. -/
import Derived.Test.YtpojkahlllochaaSmI
import Derived.LoopN
import Derived.Deep.MidRow
namespace Go.Proofs.Ytpojkahlllochaa
open Go.RowKit

/-- A block that is known whole, none of it frozen. -/
def Row (w : World) (g : Nat) (cs : Array Value) (t : TypeId) : Prop := w.heap[g]? = some (.cells cs t (0, 0))
theorem Row.lt {w : World} {g : Nat} {cs : Array Value} {t : TypeId} (h : Row w g cs t) : g < w.heap.size := by
  rcases Nat.lt_or_ge g w.heap.size with hlt | hge
  · exact hlt
  · unfold Row at h; rw [Array.getElem?_eq_none hge] at h; cases h
theorem Row.new (w : World) (cs : Array Value) (t : TypeId) : Row (w.alloc (.cells cs t)) w.heap.size cs t := heap_alloc_new w _
theorem Row.below {w w' : World} {g B : Nat} {cs : Array Value} {t : TypeId} (h : Row w g cs t) (hb : Below B w w') (hg : g < B) : Row w' g cs t := (hb.block g hg).trans h
theorem Row.kept {w w' : World} {g lo hi : Nat} {cs : Array Value} {t : TypeId} (h : Row w g cs t) (hk : Kept lo hi w w') (hn : ¬ (lo ≤ g ∧ g < hi)) : Row w' g cs t := (hk.block g h.lt hn).trans h
theorem Row.there {w : World} {g n : Nat} {cs : Array Value} {t : TypeId} (h : Row w g cs t) (hn : n = cs.size) : w.there g 0 n := fun j hj => by
  subst hn
  rw [cell_of_row w g _ cs t (0, 0) h, frozen_of_row w g _ cs t h]
  simp [Array.getElem?_eq_getElem (show j < cs.size from hj)]
theorem Row.range {w : World} {g : Nat} {cs : Array Value} {t : TypeId} (h : Row w g cs t) : w.rangeAt g 0 cs.toList := fun j v hv => by
  rw [cell_of_row w g _ cs t (0, 0) h]
  simpa using hv
theorem below_setCells {B : Nat} {a : World} {g : Nat} (hg : B ≤ g) : ∀ (vs : List Value) (o : Nat) (w : World), Below B a w → Below B a (w.setCells g o vs)
  | [], _, _, h => h
  | v :: r, o, _, h => below_setCells hg r (o + 1) _ (h.setCell (p := ⟨g, o, none⟩) hg v)
theorem results_cell_mid {P : Program} {fn : Func} {p : Tmp} {ty : TypeId} (h : fn.results = #[.cell p ty]) (tmps : Array Value) (w : World) (g : Nat) (cs : List Value) (d : TypeDesc)
    (hp : tmps.getD p undef = .pointer (some ⟨g, 0, none⟩)) (hc : w.rangeAt g 0 cs) (hu : P.underlying ty = some d) (hd : d.isRow = true) (hi : (P.info? ty).map (·.size) = some cs.length) :
    (results fn tmps).run P w = .ok (.agg cs.toArray) w := by
  have hp' : tmps[p]?.getD undef = .pointer (some ⟨g, 0, none⟩) := by simpa using hp
  simp [results, h, hp', asAddr, run_loadVar_mid w g 0 ty cs d hc hu hd hi]
theorem sizeP : (Try.prog.info? 157).map (·.size) = some 25 := by kernel_rfl
theorem sizeR : (Try.prog.info? 120).map (·.size) = some 15 := by kernel_rfl

set_option maxRecDepth 100000 in
set_option maxHeartbeats 2000000 in
theorem places_impl (R C gl nl cl gli nli cli gd nd cd gr nr cr gri nri cri : Nat) (w : World) :
    Calls Try.prog 146 #[.agg #[.int .i64 R, .int .i64 R, .slice (some ⟨gl, 0, none⟩) nl cl, .int .i64 R, .int .i64 R, .slice (some ⟨gli, 0, none⟩) nli cli, .int .i64 R, .int .i64 C, .slice (some ⟨gd, 0, none⟩) nd cd, .int .i64 C, .int .i64 C, .slice (some ⟨gr, 0, none⟩) nr cr, .int .i64 C, .int .i64 C, .slice (some ⟨gri, 0, none⟩) nri cri]] w fun e w' => e = .returned (.agg #[.int .i64 R, .int .i64 R, .slice (some ⟨gl, 0, none⟩) nl cl, .func (.func 153) #[] #[], .func (.func 154) #[] #[], .int .i64 R, .int .i64 R, .slice (some ⟨gli, 0, none⟩) nli cli, .func (.func 155) #[] #[], .func (.func 154) #[] #[], .int .i64 R, .int .i64 C, .slice (some ⟨gd, 0, none⟩) nd cd, .func (.func 153) #[] #[], .func (.func 156) #[] #[], .int .i64 C, .int .i64 C, .slice (some ⟨gr, 0, none⟩) nr cr, .func (.func 154) #[] #[], .func (.func 156) #[] #[], .int .i64 C, .int .i64 C, .slice (some ⟨gri, 0, none⟩) nri cri, .func (.func 154) #[] #[], .func (.func 157) #[] #[]]) ∧ Below w.heap.size w w' := by
  have T := Lib.hid ((Row.new (w.alloc (Obj.cells #[.int .i64 R, .int .i64 R, .slice (some ⟨gl, 0, none⟩) nl cl, .int .i64 R, .int .i64 R, .slice (some ⟨gli, 0, none⟩) nli cli, .int .i64 R, .int .i64 C, .slice (some ⟨gd, 0, none⟩) nd cd, .int .i64 C, .int .i64 C, .slice (some ⟨gr, 0, none⟩) nr cr, .int .i64 C, .int .i64 C, .slice (some ⟨gri, 0, none⟩) nri cri] 120)) #[.int .i64 0, .int .i64 0, .slice none 0 0, .nilFunc, .nilFunc, .int .i64 0, .int .i64 0, .slice none 0 0, .nilFunc, .nilFunc, .int .i64 0, .int .i64 0, .slice none 0 0, .nilFunc, .nilFunc, .int .i64 0, .int .i64 0, .slice none 0 0, .nilFunc, .nilFunc, .int .i64 0, .int .i64 0, .slice none 0 0, .nilFunc, .nilFunc] 157).there (n := 25) rfl)
  simp only [World.size_alloc] at T
  go_enter Try.func146, Try.ntmps146
  go_wp2_with (refine wpList_store_mid (by rfl) 157 (.tmp 2) (.tmp 18) (by rfl) (w.heap.size + 1) 0 #[.int .i64 R, .int .i64 R, .slice (some ⟨gl, 0, none⟩) nl cl, .func (.func 153) #[] #[], .func (.func 154) #[] #[], .int .i64 R, .int .i64 R, .slice (some ⟨gli, 0, none⟩) nli cli, .func (.func 155) #[] #[], .func (.func 154) #[] #[], .int .i64 R, .int .i64 C, .slice (some ⟨gd, 0, none⟩) nd cd, .func (.func 153) #[] #[], .func (.func 156) #[] #[], .int .i64 C, .int .i64 C, .slice (some ⟨gr, 0, none⟩) nr cr, .func (.func 154) #[] #[], .func (.func 156) #[] #[], .int .i64 C, .int .i64 C, .slice (some ⟨gri, 0, none⟩) nri cri, .func (.func 154) #[] #[], .func (.func 157) #[] #[]] (by rfl) (by rfl) (by exact T.out) sizeP (by simp [Value.oneCell']) ?_)
  refine bodyPost_ret (v := .agg #[.int .i64 R, .int .i64 R, .slice (some ⟨gl, 0, none⟩) nl cl, .func (.func 153) #[] #[], .func (.func 154) #[] #[], .int .i64 R, .int .i64 R, .slice (some ⟨gli, 0, none⟩) nli cli, .func (.func 155) #[] #[], .func (.func 154) #[] #[], .int .i64 R, .int .i64 C, .slice (some ⟨gd, 0, none⟩) nd cd, .func (.func 153) #[] #[], .func (.func 156) #[] #[], .int .i64 C, .int .i64 C, .slice (some ⟨gr, 0, none⟩) nr cr, .func (.func 154) #[] #[], .func (.func 156) #[] #[], .int .i64 C, .int .i64 C, .slice (some ⟨gri, 0, none⟩) nri cri, .func (.func 154) #[] #[], .func (.func 157) #[] #[]]) (results_cell_mid (cs := [.int .i64 R, .int .i64 R, .slice (some ⟨gl, 0, none⟩) nl cl, .func (.func 153) #[] #[], .func (.func 154) #[] #[], .int .i64 R, .int .i64 R, .slice (some ⟨gli, 0, none⟩) nli cli, .func (.func 155) #[] #[], .func (.func 154) #[] #[], .int .i64 R, .int .i64 C, .slice (some ⟨gd, 0, none⟩) nd cd, .func (.func 153) #[] #[], .func (.func 156) #[] #[], .int .i64 C, .int .i64 C, .slice (some ⟨gr, 0, none⟩) nr cr, .func (.func 154) #[] #[], .func (.func 156) #[] #[], .int .i64 C, .int .i64 C, .slice (some ⟨gri, 0, none⟩) nri cri, .func (.func 154) #[] #[], .func (.func 157) #[] #[]]) Try.results146 _ _ (w.heap.size + 1) _ (by rfl) (World.rangeAt_setCells_same _ _ _ _ T.out) Try.underlying157 rfl sizeP) rfl ⟨rfl, below_setCells (by omega) _ _ _ (al2 _ _ _)⟩

end Go.Proofs.Ytpojkahlllochaa
