/-
  DERIVED. GIVEN WITH THE SEED: THE PROGRAM's TIES (one call each: nine closed facts by the kernel) AND EACH ROW's TIE, after the 31st guide's Derived/Test/Toyas{Tie, Card}.lean. No idea stands in it: it is a product of the set-up. Laid BY PROGRAM, IN A SANDBOX (cutbox-door.mjs). By AI agents, Wed Nov 11 2026. No macro, syntax, notation, axiom, sorry.
-/
import Derived.Test.YtjendlfophdfeaaDoorRows
import Derived.LaidByTextLater
import Derived.SevenTiedAt
import Derived.LaidSub
import Derived.LaidOnce
namespace Go.Proofs.YtjendlfophdfeaaDoor
open Go
set_option maxRecDepth 100000
theorem seatTie1 : Tryd.prog.laidByTextLater [("math/bits.deBruijn32tab", Rows.laid_math_bits_deBruijn32tab), ("math/bits.deBruijn64tab", Rows.laid_math_bits_deBruijn64tab), ("internal/strconv.uint64pow10", Rows.laid_internal_strconv_uint64pow10), ("unicode/utf8.acceptRanges", Rows.laid_unicode_utf8_acceptRanges), ("strconv.ErrRange", Rows.laid_strconv_ErrRange), ("strconv.ErrSyntax", Rows.laid_strconv_ErrSyntax), ("loop.example/g00870/impl.perm4s", Rows.laid_loop_example_g00870_impl_perm4s), ("loop.example/g00870/impl.boundaryFace", Rows.laid_loop_example_g00870_impl_boundaryFace), ("loop.example/g00870/impl.edgeEnds", Rows.laid_loop_example_g00870_impl_edgeEnds), ("loop.example/g00870/impl.edgeNumbers", Rows.laid_loop_example_g00870_impl_edgeNumbers)] [.data, .data, .data, .data, .sentinel, .sentinel, .wider, .data, .data, .data] true :=
  Program.laidByTextLater_by_one 126 8 97 (by kernel_rfl) (by kernel_rfl) (by kernel_rfl) (by kernel_rfl) (by kernel_rfl) (by kernel_rfl) (fun _ _ => by kernel_rfl)
theorem pin_laid_unicode_utf8_first : Tryd.pinned.checked.prog.pinnedFits "unicode/utf8.first" = true := by kernel_rfl
theorem noOwnUnsafe : Tryd.pinned.checked.prog.headLifts.contains "ownunsafe" = false := by kernel_rfl
theorem tie : Tryd.prog.laidByTextLater [("math/bits.deBruijn32tab", Rows.laid_math_bits_deBruijn32tab), ("math/bits.deBruijn64tab", Rows.laid_math_bits_deBruijn64tab), ("internal/strconv.uint64pow10", Rows.laid_internal_strconv_uint64pow10), ("loop.example/g00870/impl.perm4s", Rows.laid_loop_example_g00870_impl_perm4s), ("loop.example/g00870/impl.boundaryFace", Rows.laid_loop_example_g00870_impl_boundaryFace)] [.data, .data, .data, .wider, .data] true :=
  Program.laidByTextLater.sub seatTie1 ["math/bits.deBruijn32tab", "math/bits.deBruijn64tab", "internal/strconv.uint64pow10", "loop.example/g00870/impl.perm4s", "loop.example/g00870/impl.boundaryFace"] (by kernel_rfl) (by kernel_rfl)
theorem fnExactTriangulationText_row_tie : Rows.fnExactTriangulationTextRow.laidByTextAt .later Tryd.pinned [.data, .data, .data, .wider, .data] true :=
  OpenClaim.laidByTextAt_later rfl rfl tie noOwnUnsafe
theorem fits2 : Tryd.pinned.checked.prog.listedFits [("math/bits.deBruijn32tab", Rows.laid_math_bits_deBruijn32tab), ("math/bits.deBruijn64tab", Rows.laid_math_bits_deBruijn64tab), ("internal/strconv.uint64pow10", Rows.laid_internal_strconv_uint64pow10), ("unicode/utf8.acceptRanges", Rows.laid_unicode_utf8_acceptRanges), ("strconv.ErrRange", Rows.laid_strconv_ErrRange), ("strconv.ErrSyntax", Rows.laid_strconv_ErrSyntax), ("loop.example/g00870/impl.perm4s", Rows.laid_loop_example_g00870_impl_perm4s), ("loop.example/g00870/impl.boundaryFace", Rows.laid_loop_example_g00870_impl_boundaryFace), ("unicode/utf8.first", Rows.laid_unicode_utf8_first)] = true := by
  unfold Program.listedFits
  rw [noOwnUnsafe]
  kernel_rfl
theorem tie2 : Tryd.prog.laidByTextLater [("math/bits.deBruijn32tab", Rows.laid_math_bits_deBruijn32tab), ("math/bits.deBruijn64tab", Rows.laid_math_bits_deBruijn64tab), ("internal/strconv.uint64pow10", Rows.laid_internal_strconv_uint64pow10), ("unicode/utf8.acceptRanges", Rows.laid_unicode_utf8_acceptRanges), ("strconv.ErrRange", Rows.laid_strconv_ErrRange), ("strconv.ErrSyntax", Rows.laid_strconv_ErrSyntax), ("loop.example/g00870/impl.perm4s", Rows.laid_loop_example_g00870_impl_perm4s), ("loop.example/g00870/impl.boundaryFace", Rows.laid_loop_example_g00870_impl_boundaryFace)] [.data, .data, .data, .data, .sentinel, .sentinel, .wider, .data] true :=
  Program.laidByTextLater.sub seatTie1 ["math/bits.deBruijn32tab", "math/bits.deBruijn64tab", "internal/strconv.uint64pow10", "unicode/utf8.acceptRanges", "strconv.ErrRange", "strconv.ErrSyntax", "loop.example/g00870/impl.perm4s", "loop.example/g00870/impl.boundaryFace"] (by kernel_rfl) (by kernel_rfl)
theorem fnExactReadTriangulation_row_tie : Rows.fnExactReadTriangulationRow.laidByTextAt .later Tryd.pinned [.data, .data, .data, .data, .sentinel, .sentinel, .wider, .data, .pinned] true :=
  OpenClaim.laidByTextAt_pinned rfl rfl tie2 rfl rfl rfl rfl (fun y hy _e => by
    simp only [Rows.fnExactReadTriangulationRow, List.zip_cons_cons, List.zip_nil_right, List.mem_cons, List.mem_nil_iff, or_false] at hy
    rcases hy with rfl | rfl | rfl | rfl | rfl | rfl | rfl | rfl | rfl
    · cases _e
    · cases _e
    · cases _e
    · cases _e
    · cases _e
    · cases _e
    · cases _e
    · cases _e
    · exact ⟨pin_laid_unicode_utf8_first, by kernel_rfl⟩) fits2
theorem tie3 : Tryd.prog.laidByTextLater [("loop.example/g00870/impl.perm4s", Rows.laid_loop_example_g00870_impl_perm4s), ("loop.example/g00870/impl.boundaryFace", Rows.laid_loop_example_g00870_impl_boundaryFace)] [.wider, .data] true :=
  Program.laidByTextLater.sub seatTie1 ["loop.example/g00870/impl.perm4s", "loop.example/g00870/impl.boundaryFace"] (by kernel_rfl) (by kernel_rfl)
theorem fnGlue_row_tie : Rows.fnGlueRow.laidByTextAt .later Tryd.pinned [.wider, .data] true :=
  OpenClaim.laidByTextAt_later rfl rfl tie3 noOwnUnsafe
theorem fnRelabel_row_tie : Rows.fnRelabelRow.laidByTextAt .later Tryd.pinned [.wider, .data] true :=
  OpenClaim.laidByTextAt_later rfl rfl tie3 noOwnUnsafe
theorem tie4 : Tryd.prog.laidByTextLater [("loop.example/g00870/impl.perm4s", Rows.laid_loop_example_g00870_impl_perm4s), ("loop.example/g00870/impl.boundaryFace", Rows.laid_loop_example_g00870_impl_boundaryFace), ("loop.example/g00870/impl.edgeEnds", Rows.laid_loop_example_g00870_impl_edgeEnds), ("loop.example/g00870/impl.edgeNumbers", Rows.laid_loop_example_g00870_impl_edgeNumbers)] [.wider, .data, .data, .data] true :=
  Program.laidByTextLater.sub seatTie1 ["loop.example/g00870/impl.perm4s", "loop.example/g00870/impl.boundaryFace", "loop.example/g00870/impl.edgeEnds", "loop.example/g00870/impl.edgeNumbers"] (by kernel_rfl) (by kernel_rfl)
theorem fnExactSkeletonOf_row_tie : Rows.fnExactSkeletonOfRow.laidByTextAt .later Tryd.pinned [.wider, .data, .data, .data] true :=
  OpenClaim.laidByTextAt_later rfl rfl tie4 noOwnUnsafe
theorem fnExactClassCounts_row_tie : Rows.fnExactClassCountsRow.laidByTextAt .later Tryd.pinned [.wider, .data, .data, .data] true :=
  OpenClaim.laidByTextAt_later rfl rfl tie4 noOwnUnsafe
theorem fnExactEulerOf_row_tie : Rows.fnExactEulerOfRow.laidByTextAt .later Tryd.pinned [.wider, .data, .data, .data] true :=
  OpenClaim.laidByTextAt_later rfl rfl tie4 noOwnUnsafe
theorem fnExactEdgeSigns_row_tie : Rows.fnExactEdgeSignsRow.laidByTextAt .later Tryd.pinned [.wider, .data, .data, .data] true :=
  OpenClaim.laidByTextAt_later rfl rfl tie4 noOwnUnsafe
theorem fnExactIsReversedEdge_row_tie : Rows.fnExactIsReversedEdgeRow.laidByTextAt .later Tryd.pinned [.wider, .data, .data, .data] true :=
  OpenClaim.laidByTextAt_later rfl rfl tie4 noOwnUnsafe
theorem fnExactEdgeRing_row_tie : Rows.fnExactEdgeRingRow.laidByTextAt .later Tryd.pinned [.wider, .data, .data, .data] true :=
  OpenClaim.laidByTextAt_later rfl rfl tie4 noOwnUnsafe
theorem fnExactBoundaryClasses_row_tie : Rows.fnExactBoundaryClassesRow.laidByTextAt .later Tryd.pinned [.wider, .data, .data, .data] true :=
  OpenClaim.laidByTextAt_later rfl rfl tie4 noOwnUnsafe
theorem fnExactTriangulationTextUpto_row_tie : Rows.fnExactTriangulationTextUptoRow.laidByTextAt .later Tryd.pinned [.data, .data, .data, .wider, .data] true :=
  OpenClaim.laidByTextAt_later rfl rfl tie noOwnUnsafe
theorem fnExactReadTriangulationUpto_row_tie : Rows.fnExactReadTriangulationUptoRow.laidByTextAt .later Tryd.pinned [.data, .data, .data, .data, .sentinel, .sentinel, .wider, .data, .pinned] true :=
  OpenClaim.laidByTextAt_pinned rfl rfl tie2 rfl rfl rfl rfl (fun y hy _e => by
    simp only [Rows.fnExactReadTriangulationUptoRow, List.zip_cons_cons, List.zip_nil_right, List.mem_cons, List.mem_nil_iff, or_false] at hy
    rcases hy with rfl | rfl | rfl | rfl | rfl | rfl | rfl | rfl | rfl
    · cases _e
    · cases _e
    · cases _e
    · cases _e
    · cases _e
    · cases _e
    · cases _e
    · cases _e
    · exact ⟨pin_laid_unicode_utf8_first, by kernel_rfl⟩) fits2
theorem fnGlueUpto_row_tie : Rows.fnGlueUptoRow.laidByTextAt .later Tryd.pinned [.wider, .data] true :=
  OpenClaim.laidByTextAt_later rfl rfl tie3 noOwnUnsafe
theorem fnRelabelUpto_row_tie : Rows.fnRelabelUptoRow.laidByTextAt .later Tryd.pinned [.wider, .data] true :=
  OpenClaim.laidByTextAt_later rfl rfl tie3 noOwnUnsafe
theorem fnExactSkeletonOfUpto_row_tie : Rows.fnExactSkeletonOfUptoRow.laidByTextAt .later Tryd.pinned [.wider, .data, .data, .data] true :=
  OpenClaim.laidByTextAt_later rfl rfl tie4 noOwnUnsafe
theorem fnExactClassCountsUpto_row_tie : Rows.fnExactClassCountsUptoRow.laidByTextAt .later Tryd.pinned [.wider, .data, .data, .data] true :=
  OpenClaim.laidByTextAt_later rfl rfl tie4 noOwnUnsafe
theorem fnExactEulerOfUpto_row_tie : Rows.fnExactEulerOfUptoRow.laidByTextAt .later Tryd.pinned [.wider, .data, .data, .data] true :=
  OpenClaim.laidByTextAt_later rfl rfl tie4 noOwnUnsafe
theorem fnExactEdgeSignsUpto_row_tie : Rows.fnExactEdgeSignsUptoRow.laidByTextAt .later Tryd.pinned [.wider, .data, .data, .data] true :=
  OpenClaim.laidByTextAt_later rfl rfl tie4 noOwnUnsafe
theorem fnExactIsReversedEdgeUpto_row_tie : Rows.fnExactIsReversedEdgeUptoRow.laidByTextAt .later Tryd.pinned [.wider, .data, .data, .data] true :=
  OpenClaim.laidByTextAt_later rfl rfl tie4 noOwnUnsafe
theorem fnExactEdgeRingUpto_row_tie : Rows.fnExactEdgeRingUptoRow.laidByTextAt .later Tryd.pinned [.wider, .data, .data, .data] true :=
  OpenClaim.laidByTextAt_later rfl rfl tie4 noOwnUnsafe
theorem fnExactBoundaryClassesUpto_row_tie : Rows.fnExactBoundaryClassesUptoRow.laidByTextAt .later Tryd.pinned [.wider, .data, .data, .data] true :=
  OpenClaim.laidByTextAt_later rfl rfl tie4 noOwnUnsafe
end Go.Proofs.YtjendlfophdfeaaDoor
