/-
  NARROWER THAN 'FOR EVERY INPUT', by the rows' own cells (each row's printed sentence says how): FnExactTriangulationText: laid · FnExactReadTriangulation: laid · FnGlue: laid · FnRelabel: laid · FnExactSkeletonOf: laid · FnExactClassCounts: laid · FnExactEulerOf: laid · FnExactEdgeSigns: laid · FnExactIsReversedEdge: laid · FnExactEdgeRing: laid · FnExactBoundaryClasses: laid.
  DERIVED. THE GIVEN ROWS OF THIS SEAT. 11 by the template 'for every input the law returns true; each argument reads behind the call as it read before'; 0 by the template 'total and deterministic' (their statements: YtjendlfophdfeaaDoorTotals.lean).
  GIVEN WITH THE SEED: the statements are not yours to turn. If you find one false, say at which input.
  Laid BY PROGRAM, IN A SANDBOX (cutbox-rows.mjs): the forced cells as the released guide's own fill.sh prints them over the translation 6a7c482ace5c6af5… (all of the seat's roots in one cut). By AI agents, Wed Nov 11 2026. No macro, syntax, notation, axiom, sorry.
-/
import Derived.Test.YtjendlfophdfeaaDoorChecked
import GoSem.PinnedTables
import GoSem.Claim
import GoSem.ClaimJoined
import GoSem.ClaimMapViews
import Derived.JoinedTies
import Derived.KernelRfl
namespace Go.Proofs.YtjendlfophdfeaaDoor
/- THE CELL 'sum', in the pinned program and in every row, IS THE sha256 OF THE DUMP (.gsa) THAT YtjendlfophdfeaaDoorProg.lean LOADS. Nothing in Lean hashes anything: it is a label: what it is worth is what the hold of that sum in a sandbox is worth. -/
noncomputable def Tryd.pinned : Pinned := { name := "ytjendlfophdfeaadoor", sum := "6a7c482ace5c6af5e24544a60144109ad2633d079edd17f464959af486a73fb5", checked := Tryd.checked }
namespace Rows
def none {H : Type} : Left H := { results := [], args := [] }

/- WHAT THE LISTED PACKAGE-LEVEL VARIABLES READ AS WHEN THE CALL BEGINS. Each datum BY PROGRAM (the guide's laid-datum.mjs) off the statement by which the dump's own 'gosem.cut.vars' lays the variable. In a bare row this is a premise. The card (YtjendlfophdfeaaDoorCards.lean) ties it to the program's text. -/
def laid_math_bits_deBruijn32tab {H : Type} : DataW H := .agg [.lit (.int .u8 0), .lit (.int .u8 1), .lit (.int .u8 28), .lit (.int .u8 2), .lit (.int .u8 29), .lit (.int .u8 14), .lit (.int .u8 24), .lit (.int .u8 3), .lit (.int .u8 30), .lit (.int .u8 22), .lit (.int .u8 20), .lit (.int .u8 15), .lit (.int .u8 25), .lit (.int .u8 17), .lit (.int .u8 4), .lit (.int .u8 8), .lit (.int .u8 31), .lit (.int .u8 27), .lit (.int .u8 13), .lit (.int .u8 23), .lit (.int .u8 21), .lit (.int .u8 19), .lit (.int .u8 16), .lit (.int .u8 7), .lit (.int .u8 26), .lit (.int .u8 12), .lit (.int .u8 18), .lit (.int .u8 6), .lit (.int .u8 11), .lit (.int .u8 5), .lit (.int .u8 10), .lit (.int .u8 9)]
def laid_math_bits_deBruijn64tab {H : Type} : DataW H := .agg [.lit (.int .u8 0), .lit (.int .u8 1), .lit (.int .u8 56), .lit (.int .u8 2), .lit (.int .u8 57), .lit (.int .u8 49), .lit (.int .u8 28), .lit (.int .u8 3), .lit (.int .u8 61), .lit (.int .u8 58), .lit (.int .u8 42), .lit (.int .u8 50), .lit (.int .u8 38), .lit (.int .u8 29), .lit (.int .u8 17), .lit (.int .u8 4), .lit (.int .u8 62), .lit (.int .u8 47), .lit (.int .u8 59), .lit (.int .u8 36), .lit (.int .u8 45), .lit (.int .u8 43), .lit (.int .u8 51), .lit (.int .u8 22), .lit (.int .u8 53), .lit (.int .u8 39), .lit (.int .u8 33), .lit (.int .u8 30), .lit (.int .u8 24), .lit (.int .u8 18), .lit (.int .u8 12), .lit (.int .u8 5), .lit (.int .u8 63), .lit (.int .u8 55), .lit (.int .u8 48), .lit (.int .u8 27), .lit (.int .u8 60), .lit (.int .u8 41), .lit (.int .u8 37), .lit (.int .u8 16), .lit (.int .u8 46), .lit (.int .u8 35), .lit (.int .u8 44), .lit (.int .u8 21), .lit (.int .u8 52), .lit (.int .u8 32), .lit (.int .u8 23), .lit (.int .u8 11), .lit (.int .u8 54), .lit (.int .u8 26), .lit (.int .u8 40), .lit (.int .u8 15), .lit (.int .u8 34), .lit (.int .u8 20), .lit (.int .u8 31), .lit (.int .u8 10), .lit (.int .u8 25), .lit (.int .u8 14), .lit (.int .u8 19), .lit (.int .u8 9), .lit (.int .u8 13), .lit (.int .u8 8), .lit (.int .u8 7), .lit (.int .u8 6)]
def laid_internal_strconv_uint64pow10 {H : Type} : DataW H := .agg [.lit (.int .u64 1), .lit (.int .u64 10), .lit (.int .u64 100), .lit (.int .u64 1000), .lit (.int .u64 10000), .lit (.int .u64 100000), .lit (.int .u64 1000000), .lit (.int .u64 10000000), .lit (.int .u64 100000000), .lit (.int .u64 1000000000), .lit (.int .u64 10000000000), .lit (.int .u64 100000000000), .lit (.int .u64 1000000000000), .lit (.int .u64 10000000000000), .lit (.int .u64 100000000000000), .lit (.int .u64 1000000000000000), .lit (.int .u64 10000000000000000), .lit (.int .u64 100000000000000000), .lit (.int .u64 1000000000000000000), .lit (.int .u64 10000000000000000000)]
def laid_loop_example_g00870_impl_perm4s {H : Type} : DataW H := .agg [.agg [.lit (.int .u8 0), .lit (.int .u8 1), .lit (.int .u8 2), .lit (.int .u8 3)], .agg [.lit (.int .u8 0), .lit (.int .u8 1), .lit (.int .u8 3), .lit (.int .u8 2)], .agg [.lit (.int .u8 0), .lit (.int .u8 2), .lit (.int .u8 1), .lit (.int .u8 3)], .agg [.lit (.int .u8 0), .lit (.int .u8 2), .lit (.int .u8 3), .lit (.int .u8 1)], .agg [.lit (.int .u8 0), .lit (.int .u8 3), .lit (.int .u8 1), .lit (.int .u8 2)], .agg [.lit (.int .u8 0), .lit (.int .u8 3), .lit (.int .u8 2), .lit (.int .u8 1)], .agg [.lit (.int .u8 1), .lit (.int .u8 0), .lit (.int .u8 2), .lit (.int .u8 3)], .agg [.lit (.int .u8 1), .lit (.int .u8 0), .lit (.int .u8 3), .lit (.int .u8 2)], .agg [.lit (.int .u8 1), .lit (.int .u8 2), .lit (.int .u8 0), .lit (.int .u8 3)], .agg [.lit (.int .u8 1), .lit (.int .u8 2), .lit (.int .u8 3), .lit (.int .u8 0)], .agg [.lit (.int .u8 1), .lit (.int .u8 3), .lit (.int .u8 0), .lit (.int .u8 2)], .agg [.lit (.int .u8 1), .lit (.int .u8 3), .lit (.int .u8 2), .lit (.int .u8 0)], .agg [.lit (.int .u8 2), .lit (.int .u8 0), .lit (.int .u8 1), .lit (.int .u8 3)], .agg [.lit (.int .u8 2), .lit (.int .u8 0), .lit (.int .u8 3), .lit (.int .u8 1)], .agg [.lit (.int .u8 2), .lit (.int .u8 1), .lit (.int .u8 0), .lit (.int .u8 3)], .agg [.lit (.int .u8 2), .lit (.int .u8 1), .lit (.int .u8 3), .lit (.int .u8 0)], .agg [.lit (.int .u8 2), .lit (.int .u8 3), .lit (.int .u8 0), .lit (.int .u8 1)], .agg [.lit (.int .u8 2), .lit (.int .u8 3), .lit (.int .u8 1), .lit (.int .u8 0)], .agg [.lit (.int .u8 3), .lit (.int .u8 0), .lit (.int .u8 1), .lit (.int .u8 2)], .agg [.lit (.int .u8 3), .lit (.int .u8 0), .lit (.int .u8 2), .lit (.int .u8 1)], .agg [.lit (.int .u8 3), .lit (.int .u8 1), .lit (.int .u8 0), .lit (.int .u8 2)], .agg [.lit (.int .u8 3), .lit (.int .u8 1), .lit (.int .u8 2), .lit (.int .u8 0)], .agg [.lit (.int .u8 3), .lit (.int .u8 2), .lit (.int .u8 0), .lit (.int .u8 1)], .agg [.lit (.int .u8 3), .lit (.int .u8 2), .lit (.int .u8 1), .lit (.int .u8 0)]]
def laid_loop_example_g00870_impl_boundaryFace {H : Type} : DataW H := .agg [.lit (.int .i64 (-1)), .lit (.int .i64 0)]
def laid_unicode_utf8_acceptRanges {H : Type} : DataW H := .agg [.agg [.lit (.int .u8 128), .lit (.int .u8 191)], .agg [.lit (.int .u8 160), .lit (.int .u8 191)], .agg [.lit (.int .u8 128), .lit (.int .u8 159)], .agg [.lit (.int .u8 144), .lit (.int .u8 191)], .agg [.lit (.int .u8 128), .lit (.int .u8 143)], .agg [.lit (.int .u8 0), .lit (.int .u8 0)], .agg [.lit (.int .u8 0), .lit (.int .u8 0)], .agg [.lit (.int .u8 0), .lit (.int .u8 0)], .agg [.lit (.int .u8 0), .lit (.int .u8 0)], .agg [.lit (.int .u8 0), .lit (.int .u8 0)], .agg [.lit (.int .u8 0), .lit (.int .u8 0)], .agg [.lit (.int .u8 0), .lit (.int .u8 0)], .agg [.lit (.int .u8 0), .lit (.int .u8 0)], .agg [.lit (.int .u8 0), .lit (.int .u8 0)], .agg [.lit (.int .u8 0), .lit (.int .u8 0)], .agg [.lit (.int .u8 0), .lit (.int .u8 0)]]
def laid_strconv_ErrRange {H : Type} : DataW H := .iface "*errors.errorString" (.ptr (.agg [.lit (.string [118, 97, 108, 117, 101, 32, 111, 117, 116, 32, 111, 102, 32, 114, 97, 110, 103, 101])]))
def laid_strconv_ErrSyntax {H : Type} : DataW H := .iface "*errors.errorString" (.ptr (.agg [.lit (.string [105, 110, 118, 97, 108, 105, 100, 32, 115, 121, 110, 116, 97, 120])]))
/-- One of Go's own tables, pinned by name: the form's constant. -/
def laid_unicode_utf8_first : DataW Unit := Go.Pinned.utf8First
def laid_loop_example_g00870_impl_edgeEnds {H : Type} : DataW H := .agg [.agg [.lit (.int .i64 0), .lit (.int .i64 1)], .agg [.lit (.int .i64 0), .lit (.int .i64 2)], .agg [.lit (.int .i64 0), .lit (.int .i64 3)], .agg [.lit (.int .i64 1), .lit (.int .i64 2)], .agg [.lit (.int .i64 1), .lit (.int .i64 3)], .agg [.lit (.int .i64 2), .lit (.int .i64 3)]]
def laid_loop_example_g00870_impl_edgeNumbers {H : Type} : DataW H := .agg [.agg [.lit (.int .i64 (-1)), .lit (.int .i64 0), .lit (.int .i64 1), .lit (.int .i64 2)], .agg [.lit (.int .i64 0), .lit (.int .i64 (-1)), .lit (.int .i64 3), .lit (.int .i64 4)], .agg [.lit (.int .i64 1), .lit (.int .i64 3), .lit (.int .i64 (-1)), .lit (.int .i64 5)], .agg [.lit (.int .i64 2), .lit (.int .i64 4), .lit (.int .i64 5), .lit (.int .i64 (-1))]]

/-- 'laws.FnExactTriangulationText': WHATEVER THE INPUT: true; the input reads as it did. -/
def fnExactTriangulationTextSpec : ChangeSpec := { name := "fnExactTriangulationText", vars := ["loop.example/g00870/impl.boundaryFace", "loop.example/g00870/impl.perm4s"], fn := fun _ => fun
  | [d, g1, g2] => { results := [.lit (.bool true)], args := [d], vars := [g1, g2] }
  | _ => none }
def fnExactTriangulationTextRow : OpenClaim := { program := "ytjendlfophdfeaadoor", sum := "6a7c482ace5c6af5e24544a60144109ad2633d079edd17f464959af486a73fb5", func := "loop.example/g00870/laws.FnExactTriangulationText", spec := "fnExactTriangulationText", inPlace := ["internal/abi.NoEscape"], unfollowed := true, recurses := true, named := ["loop.example/g00870/impl.boundaryFace", "loop.example/g00870/impl.perm4s", "internal/strconv.uint64pow10", "math/bits.deBruijn32tab", "math/bits.deBruijn64tab"], plainKeys := false, apart := false, laid := [("math/bits.deBruijn32tab", laid_math_bits_deBruijn32tab), ("math/bits.deBruijn64tab", laid_math_bits_deBruijn64tab), ("internal/strconv.uint64pow10", laid_internal_strconv_uint64pow10), ("loop.example/g00870/impl.perm4s", laid_loop_example_g00870_impl_perm4s), ("loop.example/g00870/impl.boundaryFace", laid_loop_example_g00870_impl_boundaryFace)] }
def FnExactTriangulationTextSaid : Prop := fnExactTriangulationTextRow.holds Tryd.pinned (OpenSpec.ofChange fnExactTriangulationTextSpec)

/-- ITS FALSE NEIGHBOUR: 'it returns false'. Refute it at one input. -/
def fnExactTriangulationTextWrong : ChangeSpec := { name := "fnExactTriangulationText", vars := ["loop.example/g00870/impl.boundaryFace", "loop.example/g00870/impl.perm4s"], fn := fun _ => fun
  | [d, g1, g2] => { results := [.lit (.bool false)], args := [d], vars := [g1, g2] }
  | _ => none }
def FnExactTriangulationTextWrongFalsely : Prop := fnExactTriangulationTextRow.holds Tryd.pinned (OpenSpec.ofChange fnExactTriangulationTextWrong)

/-- 'laws.FnExactReadTriangulation': WHATEVER THE INPUT: true; the input reads as it did. -/
def fnExactReadTriangulationSpec : ChangeSpec := { name := "fnExactReadTriangulation", vars := ["loop.example/g00870/impl.perm4s", "loop.example/g00870/impl.boundaryFace"], fn := fun _ => fun
  | [d, g1, g2] => { results := [.lit (.bool true)], args := [d], vars := [g1, g2] }
  | _ => none }
def fnExactReadTriangulationRow : OpenClaim := { program := "ytjendlfophdfeaadoor", sum := "6a7c482ace5c6af5e24544a60144109ad2633d079edd17f464959af486a73fb5", func := "loop.example/g00870/laws.FnExactReadTriangulation", spec := "fnExactReadTriangulation", inPlace := ["internal/bytealg.IndexByteString", "internal/bytealg.IndexString", "internal/abi.NoEscape"], unfollowed := true, recurses := true, named := ["loop.example/g00870/impl.perm4s", "unicode/utf8.first", "unicode/utf8.acceptRanges", "internal/bytealg.MaxLen", "loop.example/g00870/impl.boundaryFace", "strconv.ErrSyntax", "strconv.ErrRange", "internal/strconv.uint64pow10", "math/bits.deBruijn32tab", "math/bits.deBruijn64tab"], plainKeys := false, apart := false, laid := [("math/bits.deBruijn32tab", laid_math_bits_deBruijn32tab), ("math/bits.deBruijn64tab", laid_math_bits_deBruijn64tab), ("internal/strconv.uint64pow10", laid_internal_strconv_uint64pow10), ("unicode/utf8.acceptRanges", laid_unicode_utf8_acceptRanges), ("strconv.ErrRange", laid_strconv_ErrRange), ("strconv.ErrSyntax", laid_strconv_ErrSyntax), ("loop.example/g00870/impl.perm4s", laid_loop_example_g00870_impl_perm4s), ("loop.example/g00870/impl.boundaryFace", laid_loop_example_g00870_impl_boundaryFace), ("unicode/utf8.first", laid_unicode_utf8_first)] }
def FnExactReadTriangulationSaid : Prop := fnExactReadTriangulationRow.holds Tryd.pinned (OpenSpec.ofChange fnExactReadTriangulationSpec)

/-- ITS FALSE NEIGHBOUR: 'it returns false'. Refute it at one input. -/
def fnExactReadTriangulationWrong : ChangeSpec := { name := "fnExactReadTriangulation", vars := ["loop.example/g00870/impl.perm4s", "loop.example/g00870/impl.boundaryFace"], fn := fun _ => fun
  | [d, g1, g2] => { results := [.lit (.bool false)], args := [d], vars := [g1, g2] }
  | _ => none }
def FnExactReadTriangulationWrongFalsely : Prop := fnExactReadTriangulationRow.holds Tryd.pinned (OpenSpec.ofChange fnExactReadTriangulationWrong)

/-- 'laws.FnGlue': WHATEVER THE INPUT: true; the input reads as it did. -/
def fnGlueSpec : ChangeSpec := { name := "fnGlue", vars := ["loop.example/g00870/impl.boundaryFace", "loop.example/g00870/impl.perm4s"], fn := fun _ => fun
  | [d, g1, g2] => { results := [.lit (.bool true)], args := [d], vars := [g1, g2] }
  | _ => none }
def fnGlueRow : OpenClaim := { program := "ytjendlfophdfeaadoor", sum := "6a7c482ace5c6af5e24544a60144109ad2633d079edd17f464959af486a73fb5", func := "loop.example/g00870/laws.FnGlue", spec := "fnGlue", unfollowed := true, recurses := true, named := ["loop.example/g00870/impl.boundaryFace", "loop.example/g00870/impl.perm4s"], plainKeys := false, apart := false, laid := [("loop.example/g00870/impl.perm4s", laid_loop_example_g00870_impl_perm4s), ("loop.example/g00870/impl.boundaryFace", laid_loop_example_g00870_impl_boundaryFace)] }
def FnGlueSaid : Prop := fnGlueRow.holds Tryd.pinned (OpenSpec.ofChange fnGlueSpec)

/-- ITS FALSE NEIGHBOUR: 'it returns false'. Refute it at one input. -/
def fnGlueWrong : ChangeSpec := { name := "fnGlue", vars := ["loop.example/g00870/impl.boundaryFace", "loop.example/g00870/impl.perm4s"], fn := fun _ => fun
  | [d, g1, g2] => { results := [.lit (.bool false)], args := [d], vars := [g1, g2] }
  | _ => none }
def FnGlueWrongFalsely : Prop := fnGlueRow.holds Tryd.pinned (OpenSpec.ofChange fnGlueWrong)

/-- 'laws.FnRelabel': WHATEVER THE INPUT: true; the input reads as it did. -/
def fnRelabelSpec : ChangeSpec := { name := "fnRelabel", vars := ["loop.example/g00870/impl.boundaryFace", "loop.example/g00870/impl.perm4s"], fn := fun _ => fun
  | [d, g1, g2] => { results := [.lit (.bool true)], args := [d], vars := [g1, g2] }
  | _ => none }
def fnRelabelRow : OpenClaim := { program := "ytjendlfophdfeaadoor", sum := "6a7c482ace5c6af5e24544a60144109ad2633d079edd17f464959af486a73fb5", func := "loop.example/g00870/laws.FnRelabel", spec := "fnRelabel", unfollowed := true, recurses := true, named := ["loop.example/g00870/impl.boundaryFace", "loop.example/g00870/impl.perm4s"], plainKeys := false, apart := false, laid := [("loop.example/g00870/impl.perm4s", laid_loop_example_g00870_impl_perm4s), ("loop.example/g00870/impl.boundaryFace", laid_loop_example_g00870_impl_boundaryFace)] }
def FnRelabelSaid : Prop := fnRelabelRow.holds Tryd.pinned (OpenSpec.ofChange fnRelabelSpec)

/-- ITS FALSE NEIGHBOUR: 'it returns false'. Refute it at one input. -/
def fnRelabelWrong : ChangeSpec := { name := "fnRelabel", vars := ["loop.example/g00870/impl.boundaryFace", "loop.example/g00870/impl.perm4s"], fn := fun _ => fun
  | [d, g1, g2] => { results := [.lit (.bool false)], args := [d], vars := [g1, g2] }
  | _ => none }
def FnRelabelWrongFalsely : Prop := fnRelabelRow.holds Tryd.pinned (OpenSpec.ofChange fnRelabelWrong)

/-- 'laws.FnExactSkeletonOf': WHATEVER THE INPUT: true; the input reads as it did. -/
def fnExactSkeletonOfSpec : ChangeSpec := { name := "fnExactSkeletonOf", vars := ["loop.example/g00870/impl.boundaryFace", "loop.example/g00870/impl.perm4s", "loop.example/g00870/impl.edgeEnds", "loop.example/g00870/impl.edgeNumbers"], fn := fun _ => fun
  | [d, g1, g2, g3, g4] => { results := [.lit (.bool true)], args := [d], vars := [g1, g2, g3, g4] }
  | _ => none }
def fnExactSkeletonOfRow : OpenClaim := { program := "ytjendlfophdfeaadoor", sum := "6a7c482ace5c6af5e24544a60144109ad2633d079edd17f464959af486a73fb5", func := "loop.example/g00870/laws.FnExactSkeletonOf", spec := "fnExactSkeletonOf", unfollowed := true, recurses := true, named := ["loop.example/g00870/impl.boundaryFace", "loop.example/g00870/impl.perm4s", "loop.example/g00870/impl.edgeEnds", "loop.example/g00870/impl.edgeNumbers"], plainKeys := false, apart := false, laid := [("loop.example/g00870/impl.perm4s", laid_loop_example_g00870_impl_perm4s), ("loop.example/g00870/impl.boundaryFace", laid_loop_example_g00870_impl_boundaryFace), ("loop.example/g00870/impl.edgeEnds", laid_loop_example_g00870_impl_edgeEnds), ("loop.example/g00870/impl.edgeNumbers", laid_loop_example_g00870_impl_edgeNumbers)] }
def FnExactSkeletonOfSaid : Prop := fnExactSkeletonOfRow.holds Tryd.pinned (OpenSpec.ofChange fnExactSkeletonOfSpec)

/-- ITS FALSE NEIGHBOUR: 'it returns false'. Refute it at one input. -/
def fnExactSkeletonOfWrong : ChangeSpec := { name := "fnExactSkeletonOf", vars := ["loop.example/g00870/impl.boundaryFace", "loop.example/g00870/impl.perm4s", "loop.example/g00870/impl.edgeEnds", "loop.example/g00870/impl.edgeNumbers"], fn := fun _ => fun
  | [d, g1, g2, g3, g4] => { results := [.lit (.bool false)], args := [d], vars := [g1, g2, g3, g4] }
  | _ => none }
def FnExactSkeletonOfWrongFalsely : Prop := fnExactSkeletonOfRow.holds Tryd.pinned (OpenSpec.ofChange fnExactSkeletonOfWrong)

/-- 'laws.FnExactClassCounts': WHATEVER THE INPUT: true; the input reads as it did. -/
def fnExactClassCountsSpec : ChangeSpec := { name := "fnExactClassCounts", vars := ["loop.example/g00870/impl.boundaryFace", "loop.example/g00870/impl.perm4s", "loop.example/g00870/impl.edgeEnds", "loop.example/g00870/impl.edgeNumbers"], fn := fun _ => fun
  | [d, g1, g2, g3, g4] => { results := [.lit (.bool true)], args := [d], vars := [g1, g2, g3, g4] }
  | _ => none }
def fnExactClassCountsRow : OpenClaim := { program := "ytjendlfophdfeaadoor", sum := "6a7c482ace5c6af5e24544a60144109ad2633d079edd17f464959af486a73fb5", func := "loop.example/g00870/laws.FnExactClassCounts", spec := "fnExactClassCounts", unfollowed := true, recurses := true, named := ["loop.example/g00870/impl.boundaryFace", "loop.example/g00870/impl.perm4s", "loop.example/g00870/impl.edgeEnds", "loop.example/g00870/impl.edgeNumbers"], plainKeys := false, apart := false, laid := [("loop.example/g00870/impl.perm4s", laid_loop_example_g00870_impl_perm4s), ("loop.example/g00870/impl.boundaryFace", laid_loop_example_g00870_impl_boundaryFace), ("loop.example/g00870/impl.edgeEnds", laid_loop_example_g00870_impl_edgeEnds), ("loop.example/g00870/impl.edgeNumbers", laid_loop_example_g00870_impl_edgeNumbers)] }
def FnExactClassCountsSaid : Prop := fnExactClassCountsRow.holds Tryd.pinned (OpenSpec.ofChange fnExactClassCountsSpec)

/-- ITS FALSE NEIGHBOUR: 'it returns false'. Refute it at one input. -/
def fnExactClassCountsWrong : ChangeSpec := { name := "fnExactClassCounts", vars := ["loop.example/g00870/impl.boundaryFace", "loop.example/g00870/impl.perm4s", "loop.example/g00870/impl.edgeEnds", "loop.example/g00870/impl.edgeNumbers"], fn := fun _ => fun
  | [d, g1, g2, g3, g4] => { results := [.lit (.bool false)], args := [d], vars := [g1, g2, g3, g4] }
  | _ => none }
def FnExactClassCountsWrongFalsely : Prop := fnExactClassCountsRow.holds Tryd.pinned (OpenSpec.ofChange fnExactClassCountsWrong)

/-- 'laws.FnExactEulerOf': WHATEVER THE INPUT: true; the input reads as it did. -/
def fnExactEulerOfSpec : ChangeSpec := { name := "fnExactEulerOf", vars := ["loop.example/g00870/impl.boundaryFace", "loop.example/g00870/impl.perm4s", "loop.example/g00870/impl.edgeEnds", "loop.example/g00870/impl.edgeNumbers"], fn := fun _ => fun
  | [d, g1, g2, g3, g4] => { results := [.lit (.bool true)], args := [d], vars := [g1, g2, g3, g4] }
  | _ => none }
def fnExactEulerOfRow : OpenClaim := { program := "ytjendlfophdfeaadoor", sum := "6a7c482ace5c6af5e24544a60144109ad2633d079edd17f464959af486a73fb5", func := "loop.example/g00870/laws.FnExactEulerOf", spec := "fnExactEulerOf", unfollowed := true, recurses := true, named := ["loop.example/g00870/impl.boundaryFace", "loop.example/g00870/impl.perm4s", "loop.example/g00870/impl.edgeEnds", "loop.example/g00870/impl.edgeNumbers"], plainKeys := false, apart := false, laid := [("loop.example/g00870/impl.perm4s", laid_loop_example_g00870_impl_perm4s), ("loop.example/g00870/impl.boundaryFace", laid_loop_example_g00870_impl_boundaryFace), ("loop.example/g00870/impl.edgeEnds", laid_loop_example_g00870_impl_edgeEnds), ("loop.example/g00870/impl.edgeNumbers", laid_loop_example_g00870_impl_edgeNumbers)] }
def FnExactEulerOfSaid : Prop := fnExactEulerOfRow.holds Tryd.pinned (OpenSpec.ofChange fnExactEulerOfSpec)

/-- ITS FALSE NEIGHBOUR: 'it returns false'. Refute it at one input. -/
def fnExactEulerOfWrong : ChangeSpec := { name := "fnExactEulerOf", vars := ["loop.example/g00870/impl.boundaryFace", "loop.example/g00870/impl.perm4s", "loop.example/g00870/impl.edgeEnds", "loop.example/g00870/impl.edgeNumbers"], fn := fun _ => fun
  | [d, g1, g2, g3, g4] => { results := [.lit (.bool false)], args := [d], vars := [g1, g2, g3, g4] }
  | _ => none }
def FnExactEulerOfWrongFalsely : Prop := fnExactEulerOfRow.holds Tryd.pinned (OpenSpec.ofChange fnExactEulerOfWrong)

/-- 'laws.FnExactEdgeSigns': WHATEVER THE INPUT: true; the input reads as it did. -/
def fnExactEdgeSignsSpec : ChangeSpec := { name := "fnExactEdgeSigns", vars := ["loop.example/g00870/impl.boundaryFace", "loop.example/g00870/impl.perm4s", "loop.example/g00870/impl.edgeEnds", "loop.example/g00870/impl.edgeNumbers"], fn := fun _ => fun
  | [d, g1, g2, g3, g4] => { results := [.lit (.bool true)], args := [d], vars := [g1, g2, g3, g4] }
  | _ => none }
def fnExactEdgeSignsRow : OpenClaim := { program := "ytjendlfophdfeaadoor", sum := "6a7c482ace5c6af5e24544a60144109ad2633d079edd17f464959af486a73fb5", func := "loop.example/g00870/laws.FnExactEdgeSigns", spec := "fnExactEdgeSigns", unfollowed := true, recurses := true, named := ["loop.example/g00870/impl.boundaryFace", "loop.example/g00870/impl.perm4s", "loop.example/g00870/impl.edgeEnds", "loop.example/g00870/impl.edgeNumbers"], plainKeys := false, apart := false, laid := [("loop.example/g00870/impl.perm4s", laid_loop_example_g00870_impl_perm4s), ("loop.example/g00870/impl.boundaryFace", laid_loop_example_g00870_impl_boundaryFace), ("loop.example/g00870/impl.edgeEnds", laid_loop_example_g00870_impl_edgeEnds), ("loop.example/g00870/impl.edgeNumbers", laid_loop_example_g00870_impl_edgeNumbers)] }
def FnExactEdgeSignsSaid : Prop := fnExactEdgeSignsRow.holds Tryd.pinned (OpenSpec.ofChange fnExactEdgeSignsSpec)

/-- ITS FALSE NEIGHBOUR: 'it returns false'. Refute it at one input. -/
def fnExactEdgeSignsWrong : ChangeSpec := { name := "fnExactEdgeSigns", vars := ["loop.example/g00870/impl.boundaryFace", "loop.example/g00870/impl.perm4s", "loop.example/g00870/impl.edgeEnds", "loop.example/g00870/impl.edgeNumbers"], fn := fun _ => fun
  | [d, g1, g2, g3, g4] => { results := [.lit (.bool false)], args := [d], vars := [g1, g2, g3, g4] }
  | _ => none }
def FnExactEdgeSignsWrongFalsely : Prop := fnExactEdgeSignsRow.holds Tryd.pinned (OpenSpec.ofChange fnExactEdgeSignsWrong)

/-- 'laws.FnExactIsReversedEdge': WHATEVER THE INPUT: true; the input reads as it did. -/
def fnExactIsReversedEdgeSpec : ChangeSpec := { name := "fnExactIsReversedEdge", vars := ["loop.example/g00870/impl.boundaryFace", "loop.example/g00870/impl.perm4s", "loop.example/g00870/impl.edgeEnds", "loop.example/g00870/impl.edgeNumbers"], fn := fun _ => fun
  | [d1, d2, g1, g2, g3, g4] => { results := [.lit (.bool true)], args := [d1, d2], vars := [g1, g2, g3, g4] }
  | _ => none }
def fnExactIsReversedEdgeRow : OpenClaim := { program := "ytjendlfophdfeaadoor", sum := "6a7c482ace5c6af5e24544a60144109ad2633d079edd17f464959af486a73fb5", func := "loop.example/g00870/laws.FnExactIsReversedEdge", spec := "fnExactIsReversedEdge", unfollowed := true, recurses := true, named := ["loop.example/g00870/impl.boundaryFace", "loop.example/g00870/impl.perm4s", "loop.example/g00870/impl.edgeEnds", "loop.example/g00870/impl.edgeNumbers"], plainKeys := false, apart := false, laid := [("loop.example/g00870/impl.perm4s", laid_loop_example_g00870_impl_perm4s), ("loop.example/g00870/impl.boundaryFace", laid_loop_example_g00870_impl_boundaryFace), ("loop.example/g00870/impl.edgeEnds", laid_loop_example_g00870_impl_edgeEnds), ("loop.example/g00870/impl.edgeNumbers", laid_loop_example_g00870_impl_edgeNumbers)] }
def FnExactIsReversedEdgeSaid : Prop := fnExactIsReversedEdgeRow.holds Tryd.pinned (OpenSpec.ofChange fnExactIsReversedEdgeSpec)

/-- ITS FALSE NEIGHBOUR: 'it returns false'. Refute it at one input. -/
def fnExactIsReversedEdgeWrong : ChangeSpec := { name := "fnExactIsReversedEdge", vars := ["loop.example/g00870/impl.boundaryFace", "loop.example/g00870/impl.perm4s", "loop.example/g00870/impl.edgeEnds", "loop.example/g00870/impl.edgeNumbers"], fn := fun _ => fun
  | [d1, d2, g1, g2, g3, g4] => { results := [.lit (.bool false)], args := [d1, d2], vars := [g1, g2, g3, g4] }
  | _ => none }
def FnExactIsReversedEdgeWrongFalsely : Prop := fnExactIsReversedEdgeRow.holds Tryd.pinned (OpenSpec.ofChange fnExactIsReversedEdgeWrong)

/-- 'laws.FnExactEdgeRing': WHATEVER THE INPUT: true; the input reads as it did. -/
def fnExactEdgeRingSpec : ChangeSpec := { name := "fnExactEdgeRing", vars := ["loop.example/g00870/impl.boundaryFace", "loop.example/g00870/impl.perm4s", "loop.example/g00870/impl.edgeEnds", "loop.example/g00870/impl.edgeNumbers"], fn := fun _ => fun
  | [d1, d2, g1, g2, g3, g4] => { results := [.lit (.bool true)], args := [d1, d2], vars := [g1, g2, g3, g4] }
  | _ => none }
def fnExactEdgeRingRow : OpenClaim := { program := "ytjendlfophdfeaadoor", sum := "6a7c482ace5c6af5e24544a60144109ad2633d079edd17f464959af486a73fb5", func := "loop.example/g00870/laws.FnExactEdgeRing", spec := "fnExactEdgeRing", unfollowed := true, recurses := true, named := ["loop.example/g00870/impl.boundaryFace", "loop.example/g00870/impl.perm4s", "loop.example/g00870/impl.edgeEnds", "loop.example/g00870/impl.edgeNumbers"], plainKeys := false, apart := false, laid := [("loop.example/g00870/impl.perm4s", laid_loop_example_g00870_impl_perm4s), ("loop.example/g00870/impl.boundaryFace", laid_loop_example_g00870_impl_boundaryFace), ("loop.example/g00870/impl.edgeEnds", laid_loop_example_g00870_impl_edgeEnds), ("loop.example/g00870/impl.edgeNumbers", laid_loop_example_g00870_impl_edgeNumbers)] }
def FnExactEdgeRingSaid : Prop := fnExactEdgeRingRow.holds Tryd.pinned (OpenSpec.ofChange fnExactEdgeRingSpec)

/-- ITS FALSE NEIGHBOUR: 'it returns false'. Refute it at one input. -/
def fnExactEdgeRingWrong : ChangeSpec := { name := "fnExactEdgeRing", vars := ["loop.example/g00870/impl.boundaryFace", "loop.example/g00870/impl.perm4s", "loop.example/g00870/impl.edgeEnds", "loop.example/g00870/impl.edgeNumbers"], fn := fun _ => fun
  | [d1, d2, g1, g2, g3, g4] => { results := [.lit (.bool false)], args := [d1, d2], vars := [g1, g2, g3, g4] }
  | _ => none }
def FnExactEdgeRingWrongFalsely : Prop := fnExactEdgeRingRow.holds Tryd.pinned (OpenSpec.ofChange fnExactEdgeRingWrong)

/-- 'laws.FnExactBoundaryClasses': WHATEVER THE INPUT: true; the input reads as it did. -/
def fnExactBoundaryClassesSpec : ChangeSpec := { name := "fnExactBoundaryClasses", vars := ["loop.example/g00870/impl.boundaryFace", "loop.example/g00870/impl.perm4s", "loop.example/g00870/impl.edgeEnds", "loop.example/g00870/impl.edgeNumbers"], fn := fun _ => fun
  | [d, g1, g2, g3, g4] => { results := [.lit (.bool true)], args := [d], vars := [g1, g2, g3, g4] }
  | _ => none }
def fnExactBoundaryClassesRow : OpenClaim := { program := "ytjendlfophdfeaadoor", sum := "6a7c482ace5c6af5e24544a60144109ad2633d079edd17f464959af486a73fb5", func := "loop.example/g00870/laws.FnExactBoundaryClasses", spec := "fnExactBoundaryClasses", unfollowed := true, recurses := true, named := ["loop.example/g00870/impl.boundaryFace", "loop.example/g00870/impl.perm4s", "loop.example/g00870/impl.edgeEnds", "loop.example/g00870/impl.edgeNumbers"], plainKeys := false, apart := false, laid := [("loop.example/g00870/impl.perm4s", laid_loop_example_g00870_impl_perm4s), ("loop.example/g00870/impl.boundaryFace", laid_loop_example_g00870_impl_boundaryFace), ("loop.example/g00870/impl.edgeEnds", laid_loop_example_g00870_impl_edgeEnds), ("loop.example/g00870/impl.edgeNumbers", laid_loop_example_g00870_impl_edgeNumbers)] }
def FnExactBoundaryClassesSaid : Prop := fnExactBoundaryClassesRow.holds Tryd.pinned (OpenSpec.ofChange fnExactBoundaryClassesSpec)

/-- ITS FALSE NEIGHBOUR: 'it returns false'. Refute it at one input. -/
def fnExactBoundaryClassesWrong : ChangeSpec := { name := "fnExactBoundaryClasses", vars := ["loop.example/g00870/impl.boundaryFace", "loop.example/g00870/impl.perm4s", "loop.example/g00870/impl.edgeEnds", "loop.example/g00870/impl.edgeNumbers"], fn := fun _ => fun
  | [d, g1, g2, g3, g4] => { results := [.lit (.bool false)], args := [d], vars := [g1, g2, g3, g4] }
  | _ => none }
def FnExactBoundaryClassesWrongFalsely : Prop := fnExactBoundaryClassesRow.holds Tryd.pinned (OpenSpec.ofChange fnExactBoundaryClassesWrong)

/- THE SECOND FORM. 'bulk': how many values and letters a reading holds, each counted each time it is reached (what is shared counts as often as it is met; a slice's spare places count too). A statement '..UptoSaid' is the law's where the arguments, and the package variables that the reading takes, are together of bulk at most 1048576: NARROWER than '..Said'. Prove '..Said' where nothing that the law and all that it calls make is longer than what came in: it says more and counts as full. Else prove '..UptoSaid'. A law counts once. -/
mutual
def uptoBulk {H : Type} : DataW H → Nat
  | .lit (.string bytes) => bytes.length + 1
  | .lit _ => 1
  | .nil => 1
  | .ptr d => uptoBulk d + 1
  | .slice elems spare => uptoBulkAll elems + uptoBulkAll spare + 1
  | .agg parts => uptoBulkAll parts + 1
  | .iface _ d => uptoBulk d + 1
  | .map entries => uptoBulkEntries entries + 1
  | .held _ => 1
def uptoBulkAll {H : Type} : List (DataW H) → Nat
  | [] => 0
  | d :: r => uptoBulk d + uptoBulkAll r
def uptoBulkEntries {H : Type} : List (Lit × DataW H) → Nat
  | [] => 0
  | x :: r => uptoBulkEntry x + uptoBulkEntries r
def uptoBulkEntry {H : Type} : Lit × DataW H → Nat
  | (.string bytes, d) => bytes.length + uptoBulk d + 1
  | (_, d) => uptoBulk d + 1
 end
def uptoSmall : (H : Type) → List (DataW H) → Bool := fun _ ds => decide (uptoBulkAll ds ≤ 1048576)
def OpenSpec.upto (s : _root_.Go.ChangeSpec) : _root_.Go.OpenSpec := { _root_.Go.OpenSpec.ofChange s with cond := some uptoSmall }

/-- 'laws.FnExactTriangulationText', WHERE WHAT IT READS IS OF BULK AT MOST 1048576: true; the input reads as it did. -/
def fnExactTriangulationTextUptoRow : OpenClaim := { program := "ytjendlfophdfeaadoor", sum := "6a7c482ace5c6af5e24544a60144109ad2633d079edd17f464959af486a73fb5", func := "loop.example/g00870/laws.FnExactTriangulationText", spec := "fnExactTriangulationText", inPlace := ["internal/abi.NoEscape"], unfollowed := true, recurses := true, named := ["loop.example/g00870/impl.boundaryFace", "loop.example/g00870/impl.perm4s", "internal/strconv.uint64pow10", "math/bits.deBruijn32tab", "math/bits.deBruijn64tab"], plainKeys := false, apart := false, laid := [("math/bits.deBruijn32tab", laid_math_bits_deBruijn32tab), ("math/bits.deBruijn64tab", laid_math_bits_deBruijn64tab), ("internal/strconv.uint64pow10", laid_internal_strconv_uint64pow10), ("loop.example/g00870/impl.perm4s", laid_loop_example_g00870_impl_perm4s), ("loop.example/g00870/impl.boundaryFace", laid_loop_example_g00870_impl_boundaryFace)], narrowed := true }
def FnExactTriangulationTextUptoSaid : Prop := fnExactTriangulationTextUptoRow.holds Tryd.pinned (OpenSpec.upto fnExactTriangulationTextSpec)

/-- 'laws.FnExactReadTriangulation', WHERE WHAT IT READS IS OF BULK AT MOST 1048576: true; the input reads as it did. -/
def fnExactReadTriangulationUptoRow : OpenClaim := { program := "ytjendlfophdfeaadoor", sum := "6a7c482ace5c6af5e24544a60144109ad2633d079edd17f464959af486a73fb5", func := "loop.example/g00870/laws.FnExactReadTriangulation", spec := "fnExactReadTriangulation", inPlace := ["internal/bytealg.IndexByteString", "internal/bytealg.IndexString", "internal/abi.NoEscape"], unfollowed := true, recurses := true, named := ["loop.example/g00870/impl.perm4s", "unicode/utf8.first", "unicode/utf8.acceptRanges", "internal/bytealg.MaxLen", "loop.example/g00870/impl.boundaryFace", "strconv.ErrSyntax", "strconv.ErrRange", "internal/strconv.uint64pow10", "math/bits.deBruijn32tab", "math/bits.deBruijn64tab"], plainKeys := false, apart := false, laid := [("math/bits.deBruijn32tab", laid_math_bits_deBruijn32tab), ("math/bits.deBruijn64tab", laid_math_bits_deBruijn64tab), ("internal/strconv.uint64pow10", laid_internal_strconv_uint64pow10), ("unicode/utf8.acceptRanges", laid_unicode_utf8_acceptRanges), ("strconv.ErrRange", laid_strconv_ErrRange), ("strconv.ErrSyntax", laid_strconv_ErrSyntax), ("loop.example/g00870/impl.perm4s", laid_loop_example_g00870_impl_perm4s), ("loop.example/g00870/impl.boundaryFace", laid_loop_example_g00870_impl_boundaryFace), ("unicode/utf8.first", laid_unicode_utf8_first)], narrowed := true }
def FnExactReadTriangulationUptoSaid : Prop := fnExactReadTriangulationUptoRow.holds Tryd.pinned (OpenSpec.upto fnExactReadTriangulationSpec)

/-- 'laws.FnGlue', WHERE WHAT IT READS IS OF BULK AT MOST 1048576: true; the input reads as it did. -/
def fnGlueUptoRow : OpenClaim := { program := "ytjendlfophdfeaadoor", sum := "6a7c482ace5c6af5e24544a60144109ad2633d079edd17f464959af486a73fb5", func := "loop.example/g00870/laws.FnGlue", spec := "fnGlue", unfollowed := true, recurses := true, named := ["loop.example/g00870/impl.boundaryFace", "loop.example/g00870/impl.perm4s"], plainKeys := false, apart := false, laid := [("loop.example/g00870/impl.perm4s", laid_loop_example_g00870_impl_perm4s), ("loop.example/g00870/impl.boundaryFace", laid_loop_example_g00870_impl_boundaryFace)], narrowed := true }
def FnGlueUptoSaid : Prop := fnGlueUptoRow.holds Tryd.pinned (OpenSpec.upto fnGlueSpec)

/-- 'laws.FnRelabel', WHERE WHAT IT READS IS OF BULK AT MOST 1048576: true; the input reads as it did. -/
def fnRelabelUptoRow : OpenClaim := { program := "ytjendlfophdfeaadoor", sum := "6a7c482ace5c6af5e24544a60144109ad2633d079edd17f464959af486a73fb5", func := "loop.example/g00870/laws.FnRelabel", spec := "fnRelabel", unfollowed := true, recurses := true, named := ["loop.example/g00870/impl.boundaryFace", "loop.example/g00870/impl.perm4s"], plainKeys := false, apart := false, laid := [("loop.example/g00870/impl.perm4s", laid_loop_example_g00870_impl_perm4s), ("loop.example/g00870/impl.boundaryFace", laid_loop_example_g00870_impl_boundaryFace)], narrowed := true }
def FnRelabelUptoSaid : Prop := fnRelabelUptoRow.holds Tryd.pinned (OpenSpec.upto fnRelabelSpec)

/-- 'laws.FnExactSkeletonOf', WHERE WHAT IT READS IS OF BULK AT MOST 1048576: true; the input reads as it did. -/
def fnExactSkeletonOfUptoRow : OpenClaim := { program := "ytjendlfophdfeaadoor", sum := "6a7c482ace5c6af5e24544a60144109ad2633d079edd17f464959af486a73fb5", func := "loop.example/g00870/laws.FnExactSkeletonOf", spec := "fnExactSkeletonOf", unfollowed := true, recurses := true, named := ["loop.example/g00870/impl.boundaryFace", "loop.example/g00870/impl.perm4s", "loop.example/g00870/impl.edgeEnds", "loop.example/g00870/impl.edgeNumbers"], plainKeys := false, apart := false, laid := [("loop.example/g00870/impl.perm4s", laid_loop_example_g00870_impl_perm4s), ("loop.example/g00870/impl.boundaryFace", laid_loop_example_g00870_impl_boundaryFace), ("loop.example/g00870/impl.edgeEnds", laid_loop_example_g00870_impl_edgeEnds), ("loop.example/g00870/impl.edgeNumbers", laid_loop_example_g00870_impl_edgeNumbers)], narrowed := true }
def FnExactSkeletonOfUptoSaid : Prop := fnExactSkeletonOfUptoRow.holds Tryd.pinned (OpenSpec.upto fnExactSkeletonOfSpec)

/-- 'laws.FnExactClassCounts', WHERE WHAT IT READS IS OF BULK AT MOST 1048576: true; the input reads as it did. -/
def fnExactClassCountsUptoRow : OpenClaim := { program := "ytjendlfophdfeaadoor", sum := "6a7c482ace5c6af5e24544a60144109ad2633d079edd17f464959af486a73fb5", func := "loop.example/g00870/laws.FnExactClassCounts", spec := "fnExactClassCounts", unfollowed := true, recurses := true, named := ["loop.example/g00870/impl.boundaryFace", "loop.example/g00870/impl.perm4s", "loop.example/g00870/impl.edgeEnds", "loop.example/g00870/impl.edgeNumbers"], plainKeys := false, apart := false, laid := [("loop.example/g00870/impl.perm4s", laid_loop_example_g00870_impl_perm4s), ("loop.example/g00870/impl.boundaryFace", laid_loop_example_g00870_impl_boundaryFace), ("loop.example/g00870/impl.edgeEnds", laid_loop_example_g00870_impl_edgeEnds), ("loop.example/g00870/impl.edgeNumbers", laid_loop_example_g00870_impl_edgeNumbers)], narrowed := true }
def FnExactClassCountsUptoSaid : Prop := fnExactClassCountsUptoRow.holds Tryd.pinned (OpenSpec.upto fnExactClassCountsSpec)

/-- 'laws.FnExactEulerOf', WHERE WHAT IT READS IS OF BULK AT MOST 1048576: true; the input reads as it did. -/
def fnExactEulerOfUptoRow : OpenClaim := { program := "ytjendlfophdfeaadoor", sum := "6a7c482ace5c6af5e24544a60144109ad2633d079edd17f464959af486a73fb5", func := "loop.example/g00870/laws.FnExactEulerOf", spec := "fnExactEulerOf", unfollowed := true, recurses := true, named := ["loop.example/g00870/impl.boundaryFace", "loop.example/g00870/impl.perm4s", "loop.example/g00870/impl.edgeEnds", "loop.example/g00870/impl.edgeNumbers"], plainKeys := false, apart := false, laid := [("loop.example/g00870/impl.perm4s", laid_loop_example_g00870_impl_perm4s), ("loop.example/g00870/impl.boundaryFace", laid_loop_example_g00870_impl_boundaryFace), ("loop.example/g00870/impl.edgeEnds", laid_loop_example_g00870_impl_edgeEnds), ("loop.example/g00870/impl.edgeNumbers", laid_loop_example_g00870_impl_edgeNumbers)], narrowed := true }
def FnExactEulerOfUptoSaid : Prop := fnExactEulerOfUptoRow.holds Tryd.pinned (OpenSpec.upto fnExactEulerOfSpec)

/-- 'laws.FnExactEdgeSigns', WHERE WHAT IT READS IS OF BULK AT MOST 1048576: true; the input reads as it did. -/
def fnExactEdgeSignsUptoRow : OpenClaim := { program := "ytjendlfophdfeaadoor", sum := "6a7c482ace5c6af5e24544a60144109ad2633d079edd17f464959af486a73fb5", func := "loop.example/g00870/laws.FnExactEdgeSigns", spec := "fnExactEdgeSigns", unfollowed := true, recurses := true, named := ["loop.example/g00870/impl.boundaryFace", "loop.example/g00870/impl.perm4s", "loop.example/g00870/impl.edgeEnds", "loop.example/g00870/impl.edgeNumbers"], plainKeys := false, apart := false, laid := [("loop.example/g00870/impl.perm4s", laid_loop_example_g00870_impl_perm4s), ("loop.example/g00870/impl.boundaryFace", laid_loop_example_g00870_impl_boundaryFace), ("loop.example/g00870/impl.edgeEnds", laid_loop_example_g00870_impl_edgeEnds), ("loop.example/g00870/impl.edgeNumbers", laid_loop_example_g00870_impl_edgeNumbers)], narrowed := true }
def FnExactEdgeSignsUptoSaid : Prop := fnExactEdgeSignsUptoRow.holds Tryd.pinned (OpenSpec.upto fnExactEdgeSignsSpec)

/-- 'laws.FnExactIsReversedEdge', WHERE WHAT IT READS IS OF BULK AT MOST 1048576: true; the input reads as it did. -/
def fnExactIsReversedEdgeUptoRow : OpenClaim := { program := "ytjendlfophdfeaadoor", sum := "6a7c482ace5c6af5e24544a60144109ad2633d079edd17f464959af486a73fb5", func := "loop.example/g00870/laws.FnExactIsReversedEdge", spec := "fnExactIsReversedEdge", unfollowed := true, recurses := true, named := ["loop.example/g00870/impl.boundaryFace", "loop.example/g00870/impl.perm4s", "loop.example/g00870/impl.edgeEnds", "loop.example/g00870/impl.edgeNumbers"], plainKeys := false, apart := false, laid := [("loop.example/g00870/impl.perm4s", laid_loop_example_g00870_impl_perm4s), ("loop.example/g00870/impl.boundaryFace", laid_loop_example_g00870_impl_boundaryFace), ("loop.example/g00870/impl.edgeEnds", laid_loop_example_g00870_impl_edgeEnds), ("loop.example/g00870/impl.edgeNumbers", laid_loop_example_g00870_impl_edgeNumbers)], narrowed := true }
def FnExactIsReversedEdgeUptoSaid : Prop := fnExactIsReversedEdgeUptoRow.holds Tryd.pinned (OpenSpec.upto fnExactIsReversedEdgeSpec)

/-- 'laws.FnExactEdgeRing', WHERE WHAT IT READS IS OF BULK AT MOST 1048576: true; the input reads as it did. -/
def fnExactEdgeRingUptoRow : OpenClaim := { program := "ytjendlfophdfeaadoor", sum := "6a7c482ace5c6af5e24544a60144109ad2633d079edd17f464959af486a73fb5", func := "loop.example/g00870/laws.FnExactEdgeRing", spec := "fnExactEdgeRing", unfollowed := true, recurses := true, named := ["loop.example/g00870/impl.boundaryFace", "loop.example/g00870/impl.perm4s", "loop.example/g00870/impl.edgeEnds", "loop.example/g00870/impl.edgeNumbers"], plainKeys := false, apart := false, laid := [("loop.example/g00870/impl.perm4s", laid_loop_example_g00870_impl_perm4s), ("loop.example/g00870/impl.boundaryFace", laid_loop_example_g00870_impl_boundaryFace), ("loop.example/g00870/impl.edgeEnds", laid_loop_example_g00870_impl_edgeEnds), ("loop.example/g00870/impl.edgeNumbers", laid_loop_example_g00870_impl_edgeNumbers)], narrowed := true }
def FnExactEdgeRingUptoSaid : Prop := fnExactEdgeRingUptoRow.holds Tryd.pinned (OpenSpec.upto fnExactEdgeRingSpec)

/-- 'laws.FnExactBoundaryClasses', WHERE WHAT IT READS IS OF BULK AT MOST 1048576: true; the input reads as it did. -/
def fnExactBoundaryClassesUptoRow : OpenClaim := { program := "ytjendlfophdfeaadoor", sum := "6a7c482ace5c6af5e24544a60144109ad2633d079edd17f464959af486a73fb5", func := "loop.example/g00870/laws.FnExactBoundaryClasses", spec := "fnExactBoundaryClasses", unfollowed := true, recurses := true, named := ["loop.example/g00870/impl.boundaryFace", "loop.example/g00870/impl.perm4s", "loop.example/g00870/impl.edgeEnds", "loop.example/g00870/impl.edgeNumbers"], plainKeys := false, apart := false, laid := [("loop.example/g00870/impl.perm4s", laid_loop_example_g00870_impl_perm4s), ("loop.example/g00870/impl.boundaryFace", laid_loop_example_g00870_impl_boundaryFace), ("loop.example/g00870/impl.edgeEnds", laid_loop_example_g00870_impl_edgeEnds), ("loop.example/g00870/impl.edgeNumbers", laid_loop_example_g00870_impl_edgeNumbers)], narrowed := true }
def FnExactBoundaryClassesUptoSaid : Prop := fnExactBoundaryClassesUptoRow.holds Tryd.pinned (OpenSpec.upto fnExactBoundaryClassesSpec)

end Rows
end Go.Proofs.YtjendlfophdfeaaDoor
