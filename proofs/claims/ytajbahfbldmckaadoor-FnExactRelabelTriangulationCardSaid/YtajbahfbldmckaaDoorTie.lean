/-
  DERIVED. GIVEN WITH THE SEED: THE PROGRAM's TIES (one call each: nine closed facts by the kernel) AND EACH ROW's TIE, after the 31st guide's Derived/Test/Toyas{Tie, Card}.lean. No idea stands in it: it is a product of the set-up. Laid BY PROGRAM, IN A SANDBOX (cutbox-door.mjs). By AI agents, Wed Nov 11 2026. No macro, syntax, notation, axiom, sorry.
-/
import Derived.Test.YtajbahfbldmckaaDoorRows
import Derived.LaidByTextLater
import Derived.SevenTiedAt
import Derived.LaidSub
import Derived.LaidOnce
namespace Go.Proofs.YtajbahfbldmckaaDoor
open Go
set_option maxRecDepth 100000
theorem seatTie1 : Tryd.prog.laidByTextLater [("math/bits.deBruijn32tab", Rows.laid_math_bits_deBruijn32tab), ("math/bits.deBruijn64tab", Rows.laid_math_bits_deBruijn64tab), ("internal/strconv.uint64pow10", Rows.laid_internal_strconv_uint64pow10), ("unicode/utf8.acceptRanges", Rows.laid_unicode_utf8_acceptRanges), ("strconv.ErrRange", Rows.laid_strconv_ErrRange), ("strconv.ErrSyntax", Rows.laid_strconv_ErrSyntax), ("loop.example/g00870/impl.perm4s", Rows.laid_loop_example_g00870_impl_perm4s), ("loop.example/g00870/impl.boundaryFace", Rows.laid_loop_example_g00870_impl_boundaryFace), ("loop.example/g00870/impl.edgeEnds", Rows.laid_loop_example_g00870_impl_edgeEnds), ("loop.example/g00870/impl.edgeNumbers", Rows.laid_loop_example_g00870_impl_edgeNumbers)] [.data, .data, .data, .data, .sentinel, .sentinel, .wider, .data, .data, .data] true :=
  Program.laidByTextLater_by_one 126 8 97 (by kernel_rfl) (by kernel_rfl) (by kernel_rfl) (by kernel_rfl) (by kernel_rfl) (by kernel_rfl) (fun _ _ => by kernel_rfl)
theorem pin_laid_unicode_utf8_first : Tryd.pinned.checked.prog.pinnedFits "unicode/utf8.first" = true := by kernel_rfl
theorem noOwnUnsafe : Tryd.pinned.checked.prog.headLifts.contains "ownunsafe" = false := by kernel_rfl
theorem tie : Tryd.prog.laidByTextLater [("loop.example/g00870/impl.perm4s", Rows.laid_loop_example_g00870_impl_perm4s), ("loop.example/g00870/impl.boundaryFace", Rows.laid_loop_example_g00870_impl_boundaryFace)] [.wider, .data] true :=
  Program.laidByTextLater.sub seatTie1 ["loop.example/g00870/impl.perm4s", "loop.example/g00870/impl.boundaryFace"] (by kernel_rfl) (by kernel_rfl)
theorem fnExactAddTetrahedron_row_tie : Rows.fnExactAddTetrahedronRow.laidByTextAt .later Tryd.pinned [.wider, .data] true :=
  OpenClaim.laidByTextAt_later rfl rfl tie noOwnUnsafe
theorem fnExactGlueFaces_row_tie : Rows.fnExactGlueFacesRow.laidByTextAt .later Tryd.pinned [.wider, .data] true :=
  OpenClaim.laidByTextAt_later rfl rfl tie noOwnUnsafe
theorem fnExactUnglueFace_row_tie : Rows.fnExactUnglueFaceRow.laidByTextAt .later Tryd.pinned [.wider, .data] true :=
  OpenClaim.laidByTextAt_later rfl rfl tie noOwnUnsafe
theorem fnExactTetComponents_row_tie : Rows.fnExactTetComponentsRow.laidByTextAt .later Tryd.pinned [.wider, .data] true :=
  OpenClaim.laidByTextAt_later rfl rfl tie noOwnUnsafe
theorem fnExactUnionTriangulations_row_tie : Rows.fnExactUnionTriangulationsRow.laidByTextAt .later Tryd.pinned [.wider, .data] true :=
  OpenClaim.laidByTextAt_later rfl rfl tie noOwnUnsafe
theorem fnExactRelabelTriangulation_row_tie : Rows.fnExactRelabelTriangulationRow.laidByTextAt .later Tryd.pinned [.wider, .data] true :=
  OpenClaim.laidByTextAt_later rfl rfl tie noOwnUnsafe
theorem tie2 : Tryd.prog.laidByTextLater [("math/bits.deBruijn32tab", Rows.laid_math_bits_deBruijn32tab), ("math/bits.deBruijn64tab", Rows.laid_math_bits_deBruijn64tab), ("internal/strconv.uint64pow10", Rows.laid_internal_strconv_uint64pow10), ("loop.example/g00870/impl.perm4s", Rows.laid_loop_example_g00870_impl_perm4s), ("loop.example/g00870/impl.boundaryFace", Rows.laid_loop_example_g00870_impl_boundaryFace)] [.data, .data, .data, .wider, .data] true :=
  Program.laidByTextLater.sub seatTie1 ["math/bits.deBruijn32tab", "math/bits.deBruijn64tab", "internal/strconv.uint64pow10", "loop.example/g00870/impl.perm4s", "loop.example/g00870/impl.boundaryFace"] (by kernel_rfl) (by kernel_rfl)
theorem fnExactTriangulationText_row_tie : Rows.fnExactTriangulationTextRow.laidByTextAt .later Tryd.pinned [.data, .data, .data, .wider, .data] true :=
  OpenClaim.laidByTextAt_later rfl rfl tie2 noOwnUnsafe
theorem fits3 : Tryd.pinned.checked.prog.listedFits [("math/bits.deBruijn32tab", Rows.laid_math_bits_deBruijn32tab), ("math/bits.deBruijn64tab", Rows.laid_math_bits_deBruijn64tab), ("internal/strconv.uint64pow10", Rows.laid_internal_strconv_uint64pow10), ("unicode/utf8.acceptRanges", Rows.laid_unicode_utf8_acceptRanges), ("strconv.ErrRange", Rows.laid_strconv_ErrRange), ("strconv.ErrSyntax", Rows.laid_strconv_ErrSyntax), ("loop.example/g00870/impl.perm4s", Rows.laid_loop_example_g00870_impl_perm4s), ("loop.example/g00870/impl.boundaryFace", Rows.laid_loop_example_g00870_impl_boundaryFace), ("unicode/utf8.first", Rows.laid_unicode_utf8_first)] = true := by
  unfold Program.listedFits
  rw [noOwnUnsafe]
  kernel_rfl
theorem tie3 : Tryd.prog.laidByTextLater [("math/bits.deBruijn32tab", Rows.laid_math_bits_deBruijn32tab), ("math/bits.deBruijn64tab", Rows.laid_math_bits_deBruijn64tab), ("internal/strconv.uint64pow10", Rows.laid_internal_strconv_uint64pow10), ("unicode/utf8.acceptRanges", Rows.laid_unicode_utf8_acceptRanges), ("strconv.ErrRange", Rows.laid_strconv_ErrRange), ("strconv.ErrSyntax", Rows.laid_strconv_ErrSyntax), ("loop.example/g00870/impl.perm4s", Rows.laid_loop_example_g00870_impl_perm4s), ("loop.example/g00870/impl.boundaryFace", Rows.laid_loop_example_g00870_impl_boundaryFace)] [.data, .data, .data, .data, .sentinel, .sentinel, .wider, .data] true :=
  Program.laidByTextLater.sub seatTie1 ["math/bits.deBruijn32tab", "math/bits.deBruijn64tab", "internal/strconv.uint64pow10", "unicode/utf8.acceptRanges", "strconv.ErrRange", "strconv.ErrSyntax", "loop.example/g00870/impl.perm4s", "loop.example/g00870/impl.boundaryFace"] (by kernel_rfl) (by kernel_rfl)
theorem fnExactReadTriangulation_row_tie : Rows.fnExactReadTriangulationRow.laidByTextAt .later Tryd.pinned [.data, .data, .data, .data, .sentinel, .sentinel, .wider, .data, .pinned] true :=
  OpenClaim.laidByTextAt_pinned rfl rfl tie3 rfl rfl rfl rfl (fun y hy _e => by
    simp only [Rows.fnExactReadTriangulationRow, List.zip_cons_cons, List.zip_nil_right, List.mem_cons, List.mem_nil_iff, or_false] at hy
    rcases hy with rfl | rfl | rfl | rfl | rfl | rfl | rfl | rfl | rfl
    · cases _e
    · cases _e
    · cases _e
    · cases _e
    · cases _e
    · cases _e
    · cases _e
    · cases _e
    · exact ⟨pin_laid_unicode_utf8_first, by kernel_rfl⟩) fits3
theorem tie4 : Tryd.prog.laidByTextLater [("loop.example/g00870/impl.edgeEnds", Rows.laid_loop_example_g00870_impl_edgeEnds)] [.data] true :=
  Program.laidByTextLater.sub seatTie1 ["loop.example/g00870/impl.edgeEnds"] (by kernel_rfl) (by kernel_rfl)
theorem fnExactEdgeEnds_row_tie : Rows.fnExactEdgeEndsRow.laidByTextAt .later Tryd.pinned [.data] true :=
  OpenClaim.laidByTextAt_later rfl rfl tie4 noOwnUnsafe
theorem tie5 : Tryd.prog.laidByTextLater [("loop.example/g00870/impl.edgeNumbers", Rows.laid_loop_example_g00870_impl_edgeNumbers)] [.data] true :=
  Program.laidByTextLater.sub seatTie1 ["loop.example/g00870/impl.edgeNumbers"] (by kernel_rfl) (by kernel_rfl)
theorem fnExactEdgeBetween_row_tie : Rows.fnExactEdgeBetweenRow.laidByTextAt .later Tryd.pinned [.data] true :=
  OpenClaim.laidByTextAt_later rfl rfl tie5 noOwnUnsafe
theorem fnExactAddTetrahedronUpto_row_tie : Rows.fnExactAddTetrahedronUptoRow.laidByTextAt .later Tryd.pinned [.wider, .data] true :=
  OpenClaim.laidByTextAt_later rfl rfl tie noOwnUnsafe
theorem fnExactGlueFacesUpto_row_tie : Rows.fnExactGlueFacesUptoRow.laidByTextAt .later Tryd.pinned [.wider, .data] true :=
  OpenClaim.laidByTextAt_later rfl rfl tie noOwnUnsafe
theorem fnExactUnglueFaceUpto_row_tie : Rows.fnExactUnglueFaceUptoRow.laidByTextAt .later Tryd.pinned [.wider, .data] true :=
  OpenClaim.laidByTextAt_later rfl rfl tie noOwnUnsafe
theorem fnExactTetComponentsUpto_row_tie : Rows.fnExactTetComponentsUptoRow.laidByTextAt .later Tryd.pinned [.wider, .data] true :=
  OpenClaim.laidByTextAt_later rfl rfl tie noOwnUnsafe
theorem fnExactUnionTriangulationsUpto_row_tie : Rows.fnExactUnionTriangulationsUptoRow.laidByTextAt .later Tryd.pinned [.wider, .data] true :=
  OpenClaim.laidByTextAt_later rfl rfl tie noOwnUnsafe
theorem fnExactRelabelTriangulationUpto_row_tie : Rows.fnExactRelabelTriangulationUptoRow.laidByTextAt .later Tryd.pinned [.wider, .data] true :=
  OpenClaim.laidByTextAt_later rfl rfl tie noOwnUnsafe
theorem fnExactTriangulationTextUpto_row_tie : Rows.fnExactTriangulationTextUptoRow.laidByTextAt .later Tryd.pinned [.data, .data, .data, .wider, .data] true :=
  OpenClaim.laidByTextAt_later rfl rfl tie2 noOwnUnsafe
theorem fnExactReadTriangulationUpto_row_tie : Rows.fnExactReadTriangulationUptoRow.laidByTextAt .later Tryd.pinned [.data, .data, .data, .data, .sentinel, .sentinel, .wider, .data, .pinned] true :=
  OpenClaim.laidByTextAt_pinned rfl rfl tie3 rfl rfl rfl rfl (fun y hy _e => by
    simp only [Rows.fnExactReadTriangulationUptoRow, List.zip_cons_cons, List.zip_nil_right, List.mem_cons, List.mem_nil_iff, or_false] at hy
    rcases hy with rfl | rfl | rfl | rfl | rfl | rfl | rfl | rfl | rfl
    · cases _e
    · cases _e
    · cases _e
    · cases _e
    · cases _e
    · cases _e
    · cases _e
    · cases _e
    · exact ⟨pin_laid_unicode_utf8_first, by kernel_rfl⟩) fits3
theorem fnExactEdgeEndsUpto_row_tie : Rows.fnExactEdgeEndsUptoRow.laidByTextAt .later Tryd.pinned [.data] true :=
  OpenClaim.laidByTextAt_later rfl rfl tie4 noOwnUnsafe
theorem fnExactEdgeBetweenUpto_row_tie : Rows.fnExactEdgeBetweenUptoRow.laidByTextAt .later Tryd.pinned [.data] true :=
  OpenClaim.laidByTextAt_later rfl rfl tie5 noOwnUnsafe
end Go.Proofs.YtajbahfbldmckaaDoor
