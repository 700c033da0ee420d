/-
  No cell of these rows narrows 'for every input' (looked for: loops, veiled, ifaces, maps, wideKeys, modest, calm, conditions, laid).
  DERIVED. THE GIVEN ROWS OF THIS SEAT. 11 by the template 'for every input the law returns true; each argument reads behind the call as it read before'; 0 by the template 'total and deterministic' (their statements: YtdbljeglnhefmaaTotals.lean).
  GIVEN WITH THE SEED: the statements are not yours to turn. If you find one false, say at which input.
  Laid BY PROGRAM, IN A SANDBOX (cutbox-rows.mjs): the forced cells as the released guide's own fill.sh prints them over the translation e51eaccc5e9b92b0… (all of the seat's roots in one cut). By AI agents, Wed Nov 11 2026. No macro, syntax, notation, axiom, sorry.
-/
import Derived.Test.YtdbljeglnhefmaaChecked
import GoSem.Claim
import GoSem.ClaimJoined
import GoSem.ClaimMapViews
import Derived.JoinedTies
import Derived.KernelRfl
namespace Go.Proofs.Ytdbljeglnhefmaa
/- THE CELL 'sum', in the pinned program and in every row, IS THE sha256 OF THE DUMP (.gsa) THAT YtdbljeglnhefmaaProg.lean LOADS. Nothing in Lean hashes anything: it is a label: what it is worth is what the hold of that sum in a sandbox is worth. -/
noncomputable def Try.pinned : Pinned := { name := "ytdbljeglnhefmaa", sum := "e51eaccc5e9b92b0ba3607093b9356273fa666e71ac26ab99ceffd9a61c47726", checked := Try.checked }
namespace Rows
def none {H : Type} : Left H := { results := [], args := [] }

/-- 'laws.FnExactIsMatrix': WHATEVER THE INPUT: true; the input reads as it did. -/
def fnExactIsMatrixSpec : ChangeSpec := { name := "fnExactIsMatrix", fn := fun _ => fun
  | [d] => { results := [.lit (.bool true)], args := [d] }
  | _ => none }
def fnExactIsMatrixRow : OpenClaim := { program := "ytdbljeglnhefmaa", sum := "e51eaccc5e9b92b0ba3607093b9356273fa666e71ac26ab99ceffd9a61c47726", func := "loop.example/g00870/laws.FnExactIsMatrix", spec := "fnExactIsMatrix", apart := false }
def FnExactIsMatrixSaid : Prop := fnExactIsMatrixRow.holds Try.pinned (OpenSpec.ofChange fnExactIsMatrixSpec)

/-- ITS FALSE NEIGHBOUR: 'it returns false'. Refute it at one input. -/
def fnExactIsMatrixWrong : ChangeSpec := { name := "fnExactIsMatrix", fn := fun _ => fun
  | [d] => { results := [.lit (.bool false)], args := [d] }
  | _ => none }
def FnExactIsMatrixWrongFalsely : Prop := fnExactIsMatrixRow.holds Try.pinned (OpenSpec.ofChange fnExactIsMatrixWrong)

/-- 'laws.FnExactEntryAt': WHATEVER THE INPUT: true; the input reads as it did. -/
def fnExactEntryAtSpec : ChangeSpec := { name := "fnExactEntryAt", fn := fun _ => fun
  | [d1, d2, d3] => { results := [.lit (.bool true)], args := [d1, d2, d3] }
  | _ => none }
def fnExactEntryAtRow : OpenClaim := { program := "ytdbljeglnhefmaa", sum := "e51eaccc5e9b92b0ba3607093b9356273fa666e71ac26ab99ceffd9a61c47726", func := "loop.example/g00870/laws.FnExactEntryAt", spec := "fnExactEntryAt", apart := false }
def FnExactEntryAtSaid : Prop := fnExactEntryAtRow.holds Try.pinned (OpenSpec.ofChange fnExactEntryAtSpec)

/-- ITS FALSE NEIGHBOUR: 'it returns false'. Refute it at one input. -/
def fnExactEntryAtWrong : ChangeSpec := { name := "fnExactEntryAt", fn := fun _ => fun
  | [d1, d2, d3] => { results := [.lit (.bool false)], args := [d1, d2, d3] }
  | _ => none }
def FnExactEntryAtWrongFalsely : Prop := fnExactEntryAtRow.holds Try.pinned (OpenSpec.ofChange fnExactEntryAtWrong)

/-- 'laws.FnExactTranspose': WHATEVER THE INPUT: true; the input reads as it did. -/
def fnExactTransposeSpec : ChangeSpec := { name := "fnExactTranspose", fn := fun _ => fun
  | [d] => { results := [.lit (.bool true)], args := [d] }
  | _ => none }
def fnExactTransposeRow : OpenClaim := { program := "ytdbljeglnhefmaa", sum := "e51eaccc5e9b92b0ba3607093b9356273fa666e71ac26ab99ceffd9a61c47726", func := "loop.example/g00870/laws.FnExactTranspose", spec := "fnExactTranspose", apart := false }
def FnExactTransposeSaid : Prop := fnExactTransposeRow.holds Try.pinned (OpenSpec.ofChange fnExactTransposeSpec)

/-- ITS FALSE NEIGHBOUR: 'it returns false'. Refute it at one input. -/
def fnExactTransposeWrong : ChangeSpec := { name := "fnExactTranspose", fn := fun _ => fun
  | [d] => { results := [.lit (.bool false)], args := [d] }
  | _ => none }
def FnExactTransposeWrongFalsely : Prop := fnExactTransposeRow.holds Try.pinned (OpenSpec.ofChange fnExactTransposeWrong)

/-- 'laws.FnExactMinorOf': WHATEVER THE INPUT: true; the input reads as it did. -/
def fnExactMinorOfSpec : ChangeSpec := { name := "fnExactMinorOf", fn := fun _ => fun
  | [d1, d2, d3] => { results := [.lit (.bool true)], args := [d1, d2, d3] }
  | _ => none }
def fnExactMinorOfRow : OpenClaim := { program := "ytdbljeglnhefmaa", sum := "e51eaccc5e9b92b0ba3607093b9356273fa666e71ac26ab99ceffd9a61c47726", func := "loop.example/g00870/laws.FnExactMinorOf", spec := "fnExactMinorOf", apart := false }
def FnExactMinorOfSaid : Prop := fnExactMinorOfRow.holds Try.pinned (OpenSpec.ofChange fnExactMinorOfSpec)

/-- ITS FALSE NEIGHBOUR: 'it returns false'. Refute it at one input. -/
def fnExactMinorOfWrong : ChangeSpec := { name := "fnExactMinorOf", fn := fun _ => fun
  | [d1, d2, d3] => { results := [.lit (.bool false)], args := [d1, d2, d3] }
  | _ => none }
def FnExactMinorOfWrongFalsely : Prop := fnExactMinorOfRow.holds Try.pinned (OpenSpec.ofChange fnExactMinorOfWrong)

/-- 'laws.FnExactMultiplyMatrices': WHATEVER THE INPUT: true; the input reads as it did. -/
def fnExactMultiplyMatricesSpec : ChangeSpec := { name := "fnExactMultiplyMatrices", fn := fun _ => fun
  | [d1, d2] => { results := [.lit (.bool true)], args := [d1, d2] }
  | _ => none }
def fnExactMultiplyMatricesRow : OpenClaim := { program := "ytdbljeglnhefmaa", sum := "e51eaccc5e9b92b0ba3607093b9356273fa666e71ac26ab99ceffd9a61c47726", func := "loop.example/g00870/laws.FnExactMultiplyMatrices", spec := "fnExactMultiplyMatrices", apart := false }
def FnExactMultiplyMatricesSaid : Prop := fnExactMultiplyMatricesRow.holds Try.pinned (OpenSpec.ofChange fnExactMultiplyMatricesSpec)

/-- ITS FALSE NEIGHBOUR: 'it returns false'. Refute it at one input. -/
def fnExactMultiplyMatricesWrong : ChangeSpec := { name := "fnExactMultiplyMatrices", fn := fun _ => fun
  | [d1, d2] => { results := [.lit (.bool false)], args := [d1, d2] }
  | _ => none }
def FnExactMultiplyMatricesWrongFalsely : Prop := fnExactMultiplyMatricesRow.holds Try.pinned (OpenSpec.ofChange fnExactMultiplyMatricesWrong)

/-- 'laws.FnExactDeterminant': WHATEVER THE INPUT: true; the input reads as it did. -/
def fnExactDeterminantSpec : ChangeSpec := { name := "fnExactDeterminant", fn := fun _ => fun
  | [d] => { results := [.lit (.bool true)], args := [d] }
  | _ => none }
def fnExactDeterminantRow : OpenClaim := { program := "ytdbljeglnhefmaa", sum := "e51eaccc5e9b92b0ba3607093b9356273fa666e71ac26ab99ceffd9a61c47726", func := "loop.example/g00870/laws.FnExactDeterminant", spec := "fnExactDeterminant", apart := false }
def FnExactDeterminantSaid : Prop := fnExactDeterminantRow.holds Try.pinned (OpenSpec.ofChange fnExactDeterminantSpec)

/-- ITS FALSE NEIGHBOUR: 'it returns false'. Refute it at one input. -/
def fnExactDeterminantWrong : ChangeSpec := { name := "fnExactDeterminant", fn := fun _ => fun
  | [d] => { results := [.lit (.bool false)], args := [d] }
  | _ => none }
def FnExactDeterminantWrongFalsely : Prop := fnExactDeterminantRow.holds Try.pinned (OpenSpec.ofChange fnExactDeterminantWrong)

/-- 'laws.FnExactSmithForm': WHATEVER THE INPUT: true; the input reads as it did. -/
def fnExactSmithFormSpec : ChangeSpec := { name := "fnExactSmithForm", fn := fun _ => fun
  | [d] => { results := [.lit (.bool true)], args := [d] }
  | _ => none }
def fnExactSmithFormRow : OpenClaim := { program := "ytdbljeglnhefmaa", sum := "e51eaccc5e9b92b0ba3607093b9356273fa666e71ac26ab99ceffd9a61c47726", func := "loop.example/g00870/laws.FnExactSmithForm", spec := "fnExactSmithForm", unfollowed := true, recurses := true, apart := false }
def FnExactSmithFormSaid : Prop := fnExactSmithFormRow.holds Try.pinned (OpenSpec.ofChange fnExactSmithFormSpec)

/-- ITS FALSE NEIGHBOUR: 'it returns false'. Refute it at one input. -/
def fnExactSmithFormWrong : ChangeSpec := { name := "fnExactSmithForm", fn := fun _ => fun
  | [d] => { results := [.lit (.bool false)], args := [d] }
  | _ => none }
def FnExactSmithFormWrongFalsely : Prop := fnExactSmithFormRow.holds Try.pinned (OpenSpec.ofChange fnExactSmithFormWrong)

/-- 'laws.FnExactInvariantFactors': WHATEVER THE INPUT: true; the input reads as it did. -/
def fnExactInvariantFactorsSpec : ChangeSpec := { name := "fnExactInvariantFactors", fn := fun _ => fun
  | [d] => { results := [.lit (.bool true)], args := [d] }
  | _ => none }
def fnExactInvariantFactorsRow : OpenClaim := { program := "ytdbljeglnhefmaa", sum := "e51eaccc5e9b92b0ba3607093b9356273fa666e71ac26ab99ceffd9a61c47726", func := "loop.example/g00870/laws.FnExactInvariantFactors", spec := "fnExactInvariantFactors", unfollowed := true, recurses := true, apart := false }
def FnExactInvariantFactorsSaid : Prop := fnExactInvariantFactorsRow.holds Try.pinned (OpenSpec.ofChange fnExactInvariantFactorsSpec)

/-- ITS FALSE NEIGHBOUR: 'it returns false'. Refute it at one input. -/
def fnExactInvariantFactorsWrong : ChangeSpec := { name := "fnExactInvariantFactors", fn := fun _ => fun
  | [d] => { results := [.lit (.bool false)], args := [d] }
  | _ => none }
def FnExactInvariantFactorsWrongFalsely : Prop := fnExactInvariantFactorsRow.holds Try.pinned (OpenSpec.ofChange fnExactInvariantFactorsWrong)

/-- 'laws.FnExactMatrixRank': WHATEVER THE INPUT: true; the input reads as it did. -/
def fnExactMatrixRankSpec : ChangeSpec := { name := "fnExactMatrixRank", fn := fun _ => fun
  | [d] => { results := [.lit (.bool true)], args := [d] }
  | _ => none }
def fnExactMatrixRankRow : OpenClaim := { program := "ytdbljeglnhefmaa", sum := "e51eaccc5e9b92b0ba3607093b9356273fa666e71ac26ab99ceffd9a61c47726", func := "loop.example/g00870/laws.FnExactMatrixRank", spec := "fnExactMatrixRank", unfollowed := true, recurses := true, apart := false }
def FnExactMatrixRankSaid : Prop := fnExactMatrixRankRow.holds Try.pinned (OpenSpec.ofChange fnExactMatrixRankSpec)

/-- ITS FALSE NEIGHBOUR: 'it returns false'. Refute it at one input. -/
def fnExactMatrixRankWrong : ChangeSpec := { name := "fnExactMatrixRank", fn := fun _ => fun
  | [d] => { results := [.lit (.bool false)], args := [d] }
  | _ => none }
def FnExactMatrixRankWrongFalsely : Prop := fnExactMatrixRankRow.holds Try.pinned (OpenSpec.ofChange fnExactMatrixRankWrong)

/-- 'laws.FnExactCokernelOf': WHATEVER THE INPUT: true; the input reads as it did. -/
def fnExactCokernelOfSpec : ChangeSpec := { name := "fnExactCokernelOf", fn := fun _ => fun
  | [d] => { results := [.lit (.bool true)], args := [d] }
  | _ => none }
def fnExactCokernelOfRow : OpenClaim := { program := "ytdbljeglnhefmaa", sum := "e51eaccc5e9b92b0ba3607093b9356273fa666e71ac26ab99ceffd9a61c47726", func := "loop.example/g00870/laws.FnExactCokernelOf", spec := "fnExactCokernelOf", unfollowed := true, recurses := true, apart := false }
def FnExactCokernelOfSaid : Prop := fnExactCokernelOfRow.holds Try.pinned (OpenSpec.ofChange fnExactCokernelOfSpec)

/-- ITS FALSE NEIGHBOUR: 'it returns false'. Refute it at one input. -/
def fnExactCokernelOfWrong : ChangeSpec := { name := "fnExactCokernelOf", fn := fun _ => fun
  | [d] => { results := [.lit (.bool false)], args := [d] }
  | _ => none }
def FnExactCokernelOfWrongFalsely : Prop := fnExactCokernelOfRow.holds Try.pinned (OpenSpec.ofChange fnExactCokernelOfWrong)

/-- 'laws.FnExactHomologyOf': WHATEVER THE INPUT: true; the input reads as it did. -/
def fnExactHomologyOfSpec : ChangeSpec := { name := "fnExactHomologyOf", fn := fun _ => fun
  | [d1, d2] => { results := [.lit (.bool true)], args := [d1, d2] }
  | _ => none }
def fnExactHomologyOfRow : OpenClaim := { program := "ytdbljeglnhefmaa", sum := "e51eaccc5e9b92b0ba3607093b9356273fa666e71ac26ab99ceffd9a61c47726", func := "loop.example/g00870/laws.FnExactHomologyOf", spec := "fnExactHomologyOf", unfollowed := true, recurses := true, apart := false }
def FnExactHomologyOfSaid : Prop := fnExactHomologyOfRow.holds Try.pinned (OpenSpec.ofChange fnExactHomologyOfSpec)

/-- ITS FALSE NEIGHBOUR: 'it returns false'. Refute it at one input. -/
def fnExactHomologyOfWrong : ChangeSpec := { name := "fnExactHomologyOf", fn := fun _ => fun
  | [d1, d2] => { results := [.lit (.bool false)], args := [d1, d2] }
  | _ => none }
def FnExactHomologyOfWrongFalsely : Prop := fnExactHomologyOfRow.holds Try.pinned (OpenSpec.ofChange fnExactHomologyOfWrong)

/- THE SECOND FORM. 'bulk': how many values and letters a reading holds, each counted each time it is reached (what is shared counts as often as it is met; a slice's spare places count too). A statement '..UptoSaid' is the law's where the arguments, and the package variables that the reading takes, are together of bulk at most 1048576: NARROWER than '..Said'. Prove '..Said' where nothing that the law and all that it calls make is longer than what came in: it says more and counts as full. Else prove '..UptoSaid'. A law counts once. -/
mutual
def uptoBulk {H : Type} : DataW H → Nat
  | .lit (.string bytes) => bytes.length + 1
  | .lit _ => 1
  | .nil => 1
  | .ptr d => uptoBulk d + 1
  | .slice elems spare => uptoBulkAll elems + uptoBulkAll spare + 1
  | .agg parts => uptoBulkAll parts + 1
  | .iface _ d => uptoBulk d + 1
  | .map entries => uptoBulkEntries entries + 1
  | .held _ => 1
def uptoBulkAll {H : Type} : List (DataW H) → Nat
  | [] => 0
  | d :: r => uptoBulk d + uptoBulkAll r
def uptoBulkEntries {H : Type} : List (Lit × DataW H) → Nat
  | [] => 0
  | x :: r => uptoBulkEntry x + uptoBulkEntries r
def uptoBulkEntry {H : Type} : Lit × DataW H → Nat
  | (.string bytes, d) => bytes.length + uptoBulk d + 1
  | (_, d) => uptoBulk d + 1
 end
def uptoSmall : (H : Type) → List (DataW H) → Bool := fun _ ds => decide (uptoBulkAll ds ≤ 1048576)
def OpenSpec.upto (s : _root_.Go.ChangeSpec) : _root_.Go.OpenSpec := { _root_.Go.OpenSpec.ofChange s with cond := some uptoSmall }

/-- 'laws.FnExactIsMatrix', WHERE WHAT IT READS IS OF BULK AT MOST 1048576: true; the input reads as it did. -/
def fnExactIsMatrixUptoRow : OpenClaim := { program := "ytdbljeglnhefmaa", sum := "e51eaccc5e9b92b0ba3607093b9356273fa666e71ac26ab99ceffd9a61c47726", func := "loop.example/g00870/laws.FnExactIsMatrix", spec := "fnExactIsMatrix", apart := false, narrowed := true }
def FnExactIsMatrixUptoSaid : Prop := fnExactIsMatrixUptoRow.holds Try.pinned (OpenSpec.upto fnExactIsMatrixSpec)

/-- 'laws.FnExactEntryAt', WHERE WHAT IT READS IS OF BULK AT MOST 1048576: true; the input reads as it did. -/
def fnExactEntryAtUptoRow : OpenClaim := { program := "ytdbljeglnhefmaa", sum := "e51eaccc5e9b92b0ba3607093b9356273fa666e71ac26ab99ceffd9a61c47726", func := "loop.example/g00870/laws.FnExactEntryAt", spec := "fnExactEntryAt", apart := false, narrowed := true }
def FnExactEntryAtUptoSaid : Prop := fnExactEntryAtUptoRow.holds Try.pinned (OpenSpec.upto fnExactEntryAtSpec)

/-- 'laws.FnExactTranspose', WHERE WHAT IT READS IS OF BULK AT MOST 1048576: true; the input reads as it did. -/
def fnExactTransposeUptoRow : OpenClaim := { program := "ytdbljeglnhefmaa", sum := "e51eaccc5e9b92b0ba3607093b9356273fa666e71ac26ab99ceffd9a61c47726", func := "loop.example/g00870/laws.FnExactTranspose", spec := "fnExactTranspose", apart := false, narrowed := true }
def FnExactTransposeUptoSaid : Prop := fnExactTransposeUptoRow.holds Try.pinned (OpenSpec.upto fnExactTransposeSpec)

/-- 'laws.FnExactMinorOf', WHERE WHAT IT READS IS OF BULK AT MOST 1048576: true; the input reads as it did. -/
def fnExactMinorOfUptoRow : OpenClaim := { program := "ytdbljeglnhefmaa", sum := "e51eaccc5e9b92b0ba3607093b9356273fa666e71ac26ab99ceffd9a61c47726", func := "loop.example/g00870/laws.FnExactMinorOf", spec := "fnExactMinorOf", apart := false, narrowed := true }
def FnExactMinorOfUptoSaid : Prop := fnExactMinorOfUptoRow.holds Try.pinned (OpenSpec.upto fnExactMinorOfSpec)

/-- 'laws.FnExactMultiplyMatrices', WHERE WHAT IT READS IS OF BULK AT MOST 1048576: true; the input reads as it did. -/
def fnExactMultiplyMatricesUptoRow : OpenClaim := { program := "ytdbljeglnhefmaa", sum := "e51eaccc5e9b92b0ba3607093b9356273fa666e71ac26ab99ceffd9a61c47726", func := "loop.example/g00870/laws.FnExactMultiplyMatrices", spec := "fnExactMultiplyMatrices", apart := false, narrowed := true }
def FnExactMultiplyMatricesUptoSaid : Prop := fnExactMultiplyMatricesUptoRow.holds Try.pinned (OpenSpec.upto fnExactMultiplyMatricesSpec)

/-- 'laws.FnExactDeterminant', WHERE WHAT IT READS IS OF BULK AT MOST 1048576: true; the input reads as it did. -/
def fnExactDeterminantUptoRow : OpenClaim := { program := "ytdbljeglnhefmaa", sum := "e51eaccc5e9b92b0ba3607093b9356273fa666e71ac26ab99ceffd9a61c47726", func := "loop.example/g00870/laws.FnExactDeterminant", spec := "fnExactDeterminant", apart := false, narrowed := true }
def FnExactDeterminantUptoSaid : Prop := fnExactDeterminantUptoRow.holds Try.pinned (OpenSpec.upto fnExactDeterminantSpec)

/-- 'laws.FnExactSmithForm', WHERE WHAT IT READS IS OF BULK AT MOST 1048576: true; the input reads as it did. -/
def fnExactSmithFormUptoRow : OpenClaim := { program := "ytdbljeglnhefmaa", sum := "e51eaccc5e9b92b0ba3607093b9356273fa666e71ac26ab99ceffd9a61c47726", func := "loop.example/g00870/laws.FnExactSmithForm", spec := "fnExactSmithForm", unfollowed := true, recurses := true, apart := false, narrowed := true }
def FnExactSmithFormUptoSaid : Prop := fnExactSmithFormUptoRow.holds Try.pinned (OpenSpec.upto fnExactSmithFormSpec)

/-- 'laws.FnExactInvariantFactors', WHERE WHAT IT READS IS OF BULK AT MOST 1048576: true; the input reads as it did. -/
def fnExactInvariantFactorsUptoRow : OpenClaim := { program := "ytdbljeglnhefmaa", sum := "e51eaccc5e9b92b0ba3607093b9356273fa666e71ac26ab99ceffd9a61c47726", func := "loop.example/g00870/laws.FnExactInvariantFactors", spec := "fnExactInvariantFactors", unfollowed := true, recurses := true, apart := false, narrowed := true }
def FnExactInvariantFactorsUptoSaid : Prop := fnExactInvariantFactorsUptoRow.holds Try.pinned (OpenSpec.upto fnExactInvariantFactorsSpec)

/-- 'laws.FnExactMatrixRank', WHERE WHAT IT READS IS OF BULK AT MOST 1048576: true; the input reads as it did. -/
def fnExactMatrixRankUptoRow : OpenClaim := { program := "ytdbljeglnhefmaa", sum := "e51eaccc5e9b92b0ba3607093b9356273fa666e71ac26ab99ceffd9a61c47726", func := "loop.example/g00870/laws.FnExactMatrixRank", spec := "fnExactMatrixRank", unfollowed := true, recurses := true, apart := false, narrowed := true }
def FnExactMatrixRankUptoSaid : Prop := fnExactMatrixRankUptoRow.holds Try.pinned (OpenSpec.upto fnExactMatrixRankSpec)

/-- 'laws.FnExactCokernelOf', WHERE WHAT IT READS IS OF BULK AT MOST 1048576: true; the input reads as it did. -/
def fnExactCokernelOfUptoRow : OpenClaim := { program := "ytdbljeglnhefmaa", sum := "e51eaccc5e9b92b0ba3607093b9356273fa666e71ac26ab99ceffd9a61c47726", func := "loop.example/g00870/laws.FnExactCokernelOf", spec := "fnExactCokernelOf", unfollowed := true, recurses := true, apart := false, narrowed := true }
def FnExactCokernelOfUptoSaid : Prop := fnExactCokernelOfUptoRow.holds Try.pinned (OpenSpec.upto fnExactCokernelOfSpec)

/-- 'laws.FnExactHomologyOf', WHERE WHAT IT READS IS OF BULK AT MOST 1048576: true; the input reads as it did. -/
def fnExactHomologyOfUptoRow : OpenClaim := { program := "ytdbljeglnhefmaa", sum := "e51eaccc5e9b92b0ba3607093b9356273fa666e71ac26ab99ceffd9a61c47726", func := "loop.example/g00870/laws.FnExactHomologyOf", spec := "fnExactHomologyOf", unfollowed := true, recurses := true, apart := false, narrowed := true }
def FnExactHomologyOfUptoSaid : Prop := fnExactHomologyOfUptoRow.holds Try.pinned (OpenSpec.upto fnExactHomologyOfSpec)

end Rows
end Go.Proofs.Ytdbljeglnhefmaa
