/- The program's copy of a matrix, and what a reduction begins with. No condition but those that each theorem names. -/
import Derived.Test.YtpojkahlllochaaSmP
import Derived.Laws.CopyOwn
namespace Go.Proofs.Ytpojkahlllochaa
open Go.RowKit

theorem Kept.setRow2 {w : World} {g : Nat} (cs : Array Value) : Kept g (g + 1) w (w.setRow g cs) :=
  ⟨rfl, rfl, rfl, by simp, fun k _ hn => setRow_other w g k cs (by omega)⟩
theorem wpList_copy_ints2 {w : World} {ops : Array Oper} {rest : List Oper} {o : Oper} {a : Act} {Q : Exit → Act → World → Prop} (hgd : o.guard = none) (d s : Operand) (ho : o.op = .call { callee := .builtin .copy, args := #[d, s], argTypes := #[24, 24] })
    (g n c B : Nat) (A : Option Addr) (zs : List Int) (hd : a.eval d = .slice (some ⟨g, 0, none⟩) n n) (hs : a.eval s = .slice A n c) (hg : Blk w g (List.replicate n 0)) (hi : Ints w B A n zs)
    (h : ∀ w', Blk w' g zs → Kept g (g + 1) w w' → wpList Try.prog ops Q rest (a.put o.dst (goInt n)) w') : wpList Try.prog ops Q (o :: rest) a w := by
  by_cases h0 : n = 0
  · subst h0
    have hz : zs = [] := List.eq_nil_of_length_eq_zero hi.1
    subst hz
    refine wpList_copy_nothing hgd d s _ _ ho 2 Try.underlying24 (by kernel_rfl) _ _ _ _ _ _ hd hs rfl ?_
    exact h w (by simpa using hg) (Kept.refl _ _ _)
  · obtain ⟨b, off, rfl, hb, hc⟩ := hi.2 (by omega)
    have hl : (zs.map (Value.int .i64)).length = n := by simp [hi.1]
    refine wpList_copy_own hgd d s _ _ ho 2 Try.underlying24 (by kernel_rfl) g 0 n n ⟨b, off, none⟩ n c hd hs ((List.replicate n 0).map (Value.int .i64)).toArray 2 hg (zs.map (Value.int .i64)) (by rw [hl]; exact (Nat.min_self n).symm) ?_ (by rw [hl]; simp) (by simp [Value.oneCell']) ?_
    · intro j v hv
      have hj : j < n := by
        have := (List.getElem?_eq_some_iff.1 hv).1
        rw [hl] at this
        exact this
      rw [show (⟨b, off, none⟩ : Addr).add j = ⟨b, off + j, none⟩ from by unfold Addr.add; split <;> simp_all, hc j hj]
      rw [List.getElem?_map] at hv
      have hl2 : j < zs.length := by rw [hi.1]; exact hj
      rw [List.getElem?_eq_getElem hl2] at hv
      simp at hv
      simp [List.getElem?_eq_getElem hl2, hv]
    · rw [hl]
      refine h _ ?_ (Kept.setRow2 _)
      have := setRow_heap w g _ ((((List.replicate n (0 : Int)).map (Value.int .i64)).toArray).toList.take 0 ++ (zs.map (Value.int .i64) ++ (((List.replicate n (0 : Int)).map (Value.int .i64)).toArray).toList.drop (0 + n))).toArray _ _ hg
      unfold Blk
      rw [this]
      simp

set_option maxHeartbeats 1000000 in
theorem clone2_impl (R C : Nat) (A : Option Addr) (n c : Nat) (zs : List Int) (w : World) (h : Ints w w.heap.size A n zs) (hn : n = R * C) (hR : R ≤ 48) (hC : C ≤ 48) :
    Calls Try.prog 124 #[.agg #[.int .i64 R, .int .i64 C, .slice A n c]] w (MadeM w R C n zs) := by
  have p1 := rc_le hR hC
  have p0 : 0 ≤ (R : Int) * (C : Int) := by rw [castM]; omega
  have p2 : (R : Int) * (C : Int) ≤ 2304 := by rw [castM]; omega
  have hc : (R : Int) * (C : Int) = (n : Int) := by rw [castM, hn]
  have HC := Lib.hid hc
  have H := Lib.hid h
  have K1 := Lib.hid ((Box3.new w 77 (.int .i64 R) (.int .i64 C) (.slice A n c)).below (al1 _ (Obj.cells #[.int .i64 0, .int .i64 0, .slice none 0 0] 77)) (by simp))
  have K2 := Lib.hid (Box3.new (w.alloc (Obj.cells #[.int .i64 R, .int .i64 C, .slice A n c] 77)) 77 (.int .i64 0) (.int .i64 0) (.slice none 0 0))
  have F2 := Lib.hid (Free.new (w.alloc (Obj.cells #[.int .i64 R, .int .i64 C, .slice A n c] 77)) 77 #[.int .i64 0, .int .i64 0, .slice none 0 0])
  simp only [World.size_alloc] at K2 F2
  clear h hn hc
  go_enter Try.func124, Try.ntmps124
  go_wp2_with fail
  refine (zero_impl _ _ n _ p0 (by omega) HC.out).mono ?_
  rintro e w2 ⟨g, rfl, hblk, hg, hg2, hb⟩
  have s2 : w.heap.size + 1 < w2.heap.size := by have := hb.size; simp at this; omega
  have s2' : w.heap.size < w2.heap.size := by omega
  have gz : w.heap.size + 1 < g := by simp at hg; omega
  have ob := (Obj.cells #[.int .i64 R, .int .i64 C, .slice (some ⟨g, 0, none⟩) n n] 77)
  have L1 := Lib.hid ((K1.out.below hb (by simp <;> omega)).below (al1 w2 (Obj.cells #[.int .i64 R, .int .i64 C, .slice (some ⟨g, 0, none⟩) n n] 77)) (by omega))
  have L2 := Lib.hid ((K2.out.below hb (by simp <;> omega)).below (al1 w2 (Obj.cells #[.int .i64 R, .int .i64 C, .slice (some ⟨g, 0, none⟩) n n] 77)) (by omega))
  have G2 := Lib.hid ((F2.out.below hb (by simp <;> omega)).below (al1 w2 (Obj.cells #[.int .i64 R, .int .i64 C, .slice (some ⟨g, 0, none⟩) n n] 77)) (by omega))
  have L3 := Lib.hid (Box3.new w2 77 (.int .i64 R) (.int .i64 C) (.slice (some ⟨g, 0, none⟩) n n))
  have HB := Lib.hid ((on2 _ _ hb).trans ((al1 w2 (Obj.cells #[.int .i64 R, .int .i64 C, .slice (some ⟨g, 0, none⟩) n n] 77)).mono (by omega)))
  have BG := Lib.hid (hblk.alloc (Obj.cells #[.int .i64 R, .int .i64 C, .slice (some ⟨g, 0, none⟩) n n] 77))
  have IS := Lib.hid (H.out.below HB.out)
  clear hb hblk hg K1 K2 F2 ob
  obtain ⟨k0, k1, k2⟩ := L1.out
  go_wp2_with (refine wpList_copy_ints2 rfl _ _ rfl g n c w.heap.size A zs rfl rfl BG.out IS.out ?_; intro w3 hb3 hk3; have B3 := Lib.hid hb3; have Q3 := Lib.hid hk3; obtain ⟨j0, j1, j2⟩ := L3.out.kept hk3 (by simp) (by omega); obtain ⟨n0, n1, n2⟩ := L2.out.kept hk3 (by simp <;> omega) (by omega); have f0 := G2.out.kept hk3 (by simp <;> omega) (by omega); unfold Free at f0; clear hb3 hk3 k0 k1 k2)
  refine bodyPost_ret (v := .agg #[.int .i64 R, .int .i64 C, .slice (some ⟨g, 0, none⟩) n n]) (by simp [results, Try.results124, n0, n1, n2, go_sem]) rfl ⟨g, rfl, ?_, by omega, ?_⟩
  · exact (((B3.out.far (p := ⟨w.heap.size + 1, 0, none⟩) (by dsimp only; omega) _).far (p := ⟨w.heap.size + 1, 1, none⟩) (by dsimp only; omega) _).far (p := ⟨w.heap.size + 1, 2, none⟩) (by dsimp only; omega) _)
  · exact (((HB.out.trans (Q3.out.below (by omega) (by simp <;> omega))).setCell (by simp) _).setCell (by simp) _).setCell (by simp) _


end Go.Proofs.Ytpojkahlllochaa
