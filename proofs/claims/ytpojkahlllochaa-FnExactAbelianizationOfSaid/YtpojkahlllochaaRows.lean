/-
  No cell of these rows narrows 'for every input' (looked for: loops, veiled, ifaces, maps, wideKeys, modest, calm, conditions, laid).
  DERIVED. THE GIVEN ROWS OF THIS SEAT. 10 by the template 'for every input the law returns true; each argument reads behind the call as it read before'; 0 by the template 'total and deterministic' (their statements: YtpojkahlllochaaTotals.lean).
  GIVEN WITH THE SEED: the statements are not yours to turn. If you find one false, say at which input.
  Laid BY PROGRAM, IN A SANDBOX (cutbox-rows.mjs): the forced cells as the released guide's own fill.sh prints them over the translation 5e490b5abb13bc7b… (all of the seat's roots in one cut). By AI agents, Wed Nov 11 2026. No macro, syntax, notation, axiom, sorry.
-/
import Derived.Test.YtpojkahlllochaaChecked
import GoSem.Claim
import GoSem.ClaimJoined
import GoSem.ClaimMapViews
import Derived.JoinedTies
import Derived.KernelRfl
namespace Go.Proofs.Ytpojkahlllochaa
/- THE CELL 'sum', in the pinned program and in every row, IS THE sha256 OF THE DUMP (.gsa) THAT YtpojkahlllochaaProg.lean LOADS. Nothing in Lean hashes anything: it is a label: what it is worth is what the hold of that sum in a sandbox is worth. -/
noncomputable def Try.pinned : Pinned := { name := "ytpojkahlllochaa", sum := "5e490b5abb13bc7b2696f0d71e07d5bf64bcf9d670ca31bec6820e12172fa74a", checked := Try.checked }
namespace Rows
def none {H : Type} : Left H := { results := [], args := [] }

/-- 'laws.FnWords': WHATEVER THE INPUT: true; the input reads as it did. -/
def fnWordsSpec : ChangeSpec := { name := "fnWords", fn := fun _ => fun
  | [d] => { results := [.lit (.bool true)], args := [d] }
  | _ => none }
def fnWordsRow : OpenClaim := { program := "ytpojkahlllochaa", sum := "5e490b5abb13bc7b2696f0d71e07d5bf64bcf9d670ca31bec6820e12172fa74a", func := "loop.example/g00870/laws.FnWords", spec := "fnWords", apart := false }
def FnWordsSaid : Prop := fnWordsRow.holds Try.pinned (OpenSpec.ofChange fnWordsSpec)

/-- ITS FALSE NEIGHBOUR: 'it returns false'. Refute it at one input. -/
def fnWordsWrong : ChangeSpec := { name := "fnWords", fn := fun _ => fun
  | [d] => { results := [.lit (.bool false)], args := [d] }
  | _ => none }
def FnWordsWrongFalsely : Prop := fnWordsRow.holds Try.pinned (OpenSpec.ofChange fnWordsWrong)

/-- 'laws.FnSimplify': WHATEVER THE INPUT: true; the input reads as it did. -/
def fnSimplifySpec : ChangeSpec := { name := "fnSimplify", fn := fun _ => fun
  | [d] => { results := [.lit (.bool true)], args := [d] }
  | _ => none }
def fnSimplifyRow : OpenClaim := { program := "ytpojkahlllochaa", sum := "5e490b5abb13bc7b2696f0d71e07d5bf64bcf9d670ca31bec6820e12172fa74a", func := "loop.example/g00870/laws.FnSimplify", spec := "fnSimplify", unfollowed := true, recurses := true, apart := false }
def FnSimplifySaid : Prop := fnSimplifyRow.holds Try.pinned (OpenSpec.ofChange fnSimplifySpec)

/-- ITS FALSE NEIGHBOUR: 'it returns false'. Refute it at one input. -/
def fnSimplifyWrong : ChangeSpec := { name := "fnSimplify", fn := fun _ => fun
  | [d] => { results := [.lit (.bool false)], args := [d] }
  | _ => none }
def FnSimplifyWrongFalsely : Prop := fnSimplifyRow.holds Try.pinned (OpenSpec.ofChange fnSimplifyWrong)

/-- 'laws.FnExactIsWord': WHATEVER THE INPUT: true; the input reads as it did. -/
def fnExactIsWordSpec : ChangeSpec := { name := "fnExactIsWord", fn := fun _ => fun
  | [d] => { results := [.lit (.bool true)], args := [d] }
  | _ => none }
def fnExactIsWordRow : OpenClaim := { program := "ytpojkahlllochaa", sum := "5e490b5abb13bc7b2696f0d71e07d5bf64bcf9d670ca31bec6820e12172fa74a", func := "loop.example/g00870/laws.FnExactIsWord", spec := "fnExactIsWord", apart := false }
def FnExactIsWordSaid : Prop := fnExactIsWordRow.holds Try.pinned (OpenSpec.ofChange fnExactIsWordSpec)

/-- ITS FALSE NEIGHBOUR: 'it returns false'. Refute it at one input. -/
def fnExactIsWordWrong : ChangeSpec := { name := "fnExactIsWord", fn := fun _ => fun
  | [d] => { results := [.lit (.bool false)], args := [d] }
  | _ => none }
def FnExactIsWordWrongFalsely : Prop := fnExactIsWordRow.holds Try.pinned (OpenSpec.ofChange fnExactIsWordWrong)

/-- 'laws.FnExactFreeReduce': WHATEVER THE INPUT: true; the input reads as it did. -/
def fnExactFreeReduceSpec : ChangeSpec := { name := "fnExactFreeReduce", fn := fun _ => fun
  | [d] => { results := [.lit (.bool true)], args := [d] }
  | _ => none }
def fnExactFreeReduceRow : OpenClaim := { program := "ytpojkahlllochaa", sum := "5e490b5abb13bc7b2696f0d71e07d5bf64bcf9d670ca31bec6820e12172fa74a", func := "loop.example/g00870/laws.FnExactFreeReduce", spec := "fnExactFreeReduce", apart := false }
def FnExactFreeReduceSaid : Prop := fnExactFreeReduceRow.holds Try.pinned (OpenSpec.ofChange fnExactFreeReduceSpec)

/-- ITS FALSE NEIGHBOUR: 'it returns false'. Refute it at one input. -/
def fnExactFreeReduceWrong : ChangeSpec := { name := "fnExactFreeReduce", fn := fun _ => fun
  | [d] => { results := [.lit (.bool false)], args := [d] }
  | _ => none }
def FnExactFreeReduceWrongFalsely : Prop := fnExactFreeReduceRow.holds Try.pinned (OpenSpec.ofChange fnExactFreeReduceWrong)

/-- 'laws.FnExactInvertWord': WHATEVER THE INPUT: true; the input reads as it did. -/
def fnExactInvertWordSpec : ChangeSpec := { name := "fnExactInvertWord", fn := fun _ => fun
  | [d] => { results := [.lit (.bool true)], args := [d] }
  | _ => none }
def fnExactInvertWordRow : OpenClaim := { program := "ytpojkahlllochaa", sum := "5e490b5abb13bc7b2696f0d71e07d5bf64bcf9d670ca31bec6820e12172fa74a", func := "loop.example/g00870/laws.FnExactInvertWord", spec := "fnExactInvertWord", apart := false }
def FnExactInvertWordSaid : Prop := fnExactInvertWordRow.holds Try.pinned (OpenSpec.ofChange fnExactInvertWordSpec)

/-- ITS FALSE NEIGHBOUR: 'it returns false'. Refute it at one input. -/
def fnExactInvertWordWrong : ChangeSpec := { name := "fnExactInvertWord", fn := fun _ => fun
  | [d] => { results := [.lit (.bool false)], args := [d] }
  | _ => none }
def FnExactInvertWordWrongFalsely : Prop := fnExactInvertWordRow.holds Try.pinned (OpenSpec.ofChange fnExactInvertWordWrong)

/-- 'laws.FnExactCyclicReduce': WHATEVER THE INPUT: true; the input reads as it did. -/
def fnExactCyclicReduceSpec : ChangeSpec := { name := "fnExactCyclicReduce", fn := fun _ => fun
  | [d] => { results := [.lit (.bool true)], args := [d] }
  | _ => none }
def fnExactCyclicReduceRow : OpenClaim := { program := "ytpojkahlllochaa", sum := "5e490b5abb13bc7b2696f0d71e07d5bf64bcf9d670ca31bec6820e12172fa74a", func := "loop.example/g00870/laws.FnExactCyclicReduce", spec := "fnExactCyclicReduce", apart := false }
def FnExactCyclicReduceSaid : Prop := fnExactCyclicReduceRow.holds Try.pinned (OpenSpec.ofChange fnExactCyclicReduceSpec)

/-- ITS FALSE NEIGHBOUR: 'it returns false'. Refute it at one input. -/
def fnExactCyclicReduceWrong : ChangeSpec := { name := "fnExactCyclicReduce", fn := fun _ => fun
  | [d] => { results := [.lit (.bool false)], args := [d] }
  | _ => none }
def FnExactCyclicReduceWrongFalsely : Prop := fnExactCyclicReduceRow.holds Try.pinned (OpenSpec.ofChange fnExactCyclicReduceWrong)

/-- 'laws.FnExactIsPresentation': WHATEVER THE INPUT: true; the input reads as it did. -/
def fnExactIsPresentationSpec : ChangeSpec := { name := "fnExactIsPresentation", fn := fun _ => fun
  | [d] => { results := [.lit (.bool true)], args := [d] }
  | _ => none }
def fnExactIsPresentationRow : OpenClaim := { program := "ytpojkahlllochaa", sum := "5e490b5abb13bc7b2696f0d71e07d5bf64bcf9d670ca31bec6820e12172fa74a", func := "loop.example/g00870/laws.FnExactIsPresentation", spec := "fnExactIsPresentation", apart := false }
def FnExactIsPresentationSaid : Prop := fnExactIsPresentationRow.holds Try.pinned (OpenSpec.ofChange fnExactIsPresentationSpec)

/-- ITS FALSE NEIGHBOUR: 'it returns false'. Refute it at one input. -/
def fnExactIsPresentationWrong : ChangeSpec := { name := "fnExactIsPresentation", fn := fun _ => fun
  | [d] => { results := [.lit (.bool false)], args := [d] }
  | _ => none }
def FnExactIsPresentationWrongFalsely : Prop := fnExactIsPresentationRow.holds Try.pinned (OpenSpec.ofChange fnExactIsPresentationWrong)

/-- 'laws.FnExactAbelianizationOf': WHATEVER THE INPUT: true; the input reads as it did. -/
def fnExactAbelianizationOfSpec : ChangeSpec := { name := "fnExactAbelianizationOf", fn := fun _ => fun
  | [d] => { results := [.lit (.bool true)], args := [d] }
  | _ => none }
def fnExactAbelianizationOfRow : OpenClaim := { program := "ytpojkahlllochaa", sum := "5e490b5abb13bc7b2696f0d71e07d5bf64bcf9d670ca31bec6820e12172fa74a", func := "loop.example/g00870/laws.FnExactAbelianizationOf", spec := "fnExactAbelianizationOf", unfollowed := true, recurses := true, apart := false }
def FnExactAbelianizationOfSaid : Prop := fnExactAbelianizationOfRow.holds Try.pinned (OpenSpec.ofChange fnExactAbelianizationOfSpec)

/-- ITS FALSE NEIGHBOUR: 'it returns false'. Refute it at one input. -/
def fnExactAbelianizationOfWrong : ChangeSpec := { name := "fnExactAbelianizationOf", fn := fun _ => fun
  | [d] => { results := [.lit (.bool false)], args := [d] }
  | _ => none }
def FnExactAbelianizationOfWrongFalsely : Prop := fnExactAbelianizationOfRow.holds Try.pinned (OpenSpec.ofChange fnExactAbelianizationOfWrong)

/-- 'laws.FnExactApplyTietze': WHATEVER THE INPUT: true; the input reads as it did. -/
def fnExactApplyTietzeSpec : ChangeSpec := { name := "fnExactApplyTietze", fn := fun _ => fun
  | [d1, d2] => { results := [.lit (.bool true)], args := [d1, d2] }
  | _ => none }
def fnExactApplyTietzeRow : OpenClaim := { program := "ytpojkahlllochaa", sum := "5e490b5abb13bc7b2696f0d71e07d5bf64bcf9d670ca31bec6820e12172fa74a", func := "loop.example/g00870/laws.FnExactApplyTietze", spec := "fnExactApplyTietze", unfollowed := true, recurses := true, apart := false }
def FnExactApplyTietzeSaid : Prop := fnExactApplyTietzeRow.holds Try.pinned (OpenSpec.ofChange fnExactApplyTietzeSpec)

/-- ITS FALSE NEIGHBOUR: 'it returns false'. Refute it at one input. -/
def fnExactApplyTietzeWrong : ChangeSpec := { name := "fnExactApplyTietze", fn := fun _ => fun
  | [d1, d2] => { results := [.lit (.bool false)], args := [d1, d2] }
  | _ => none }
def FnExactApplyTietzeWrongFalsely : Prop := fnExactApplyTietzeRow.holds Try.pinned (OpenSpec.ofChange fnExactApplyTietzeWrong)

/-- 'laws.FnExactSimplifyPresentation': WHATEVER THE INPUT: true; the input reads as it did. -/
def fnExactSimplifyPresentationSpec : ChangeSpec := { name := "fnExactSimplifyPresentation", fn := fun _ => fun
  | [d] => { results := [.lit (.bool true)], args := [d] }
  | _ => none }
def fnExactSimplifyPresentationRow : OpenClaim := { program := "ytpojkahlllochaa", sum := "5e490b5abb13bc7b2696f0d71e07d5bf64bcf9d670ca31bec6820e12172fa74a", func := "loop.example/g00870/laws.FnExactSimplifyPresentation", spec := "fnExactSimplifyPresentation", unfollowed := true, recurses := true, apart := false }
def FnExactSimplifyPresentationSaid : Prop := fnExactSimplifyPresentationRow.holds Try.pinned (OpenSpec.ofChange fnExactSimplifyPresentationSpec)

/-- ITS FALSE NEIGHBOUR: 'it returns false'. Refute it at one input. -/
def fnExactSimplifyPresentationWrong : ChangeSpec := { name := "fnExactSimplifyPresentation", fn := fun _ => fun
  | [d] => { results := [.lit (.bool false)], args := [d] }
  | _ => none }
def FnExactSimplifyPresentationWrongFalsely : Prop := fnExactSimplifyPresentationRow.holds Try.pinned (OpenSpec.ofChange fnExactSimplifyPresentationWrong)

/- THE SECOND FORM. 'bulk': how many values and letters a reading holds, each counted each time it is reached (what is shared counts as often as it is met; a slice's spare places count too). A statement '..UptoSaid' is the law's where the arguments, and the package variables that the reading takes, are together of bulk at most 1048576: NARROWER than '..Said'. Prove '..Said' where nothing that the law and all that it calls make is longer than what came in: it says more and counts as full. Else prove '..UptoSaid'. A law counts once. -/
mutual
def uptoBulk {H : Type} : DataW H → Nat
  | .lit (.string bytes) => bytes.length + 1
  | .lit _ => 1
  | .nil => 1
  | .ptr d => uptoBulk d + 1
  | .slice elems spare => uptoBulkAll elems + uptoBulkAll spare + 1
  | .agg parts => uptoBulkAll parts + 1
  | .iface _ d => uptoBulk d + 1
  | .map entries => uptoBulkEntries entries + 1
  | .held _ => 1
def uptoBulkAll {H : Type} : List (DataW H) → Nat
  | [] => 0
  | d :: r => uptoBulk d + uptoBulkAll r
def uptoBulkEntries {H : Type} : List (Lit × DataW H) → Nat
  | [] => 0
  | x :: r => uptoBulkEntry x + uptoBulkEntries r
def uptoBulkEntry {H : Type} : Lit × DataW H → Nat
  | (.string bytes, d) => bytes.length + uptoBulk d + 1
  | (_, d) => uptoBulk d + 1
 end
def uptoSmall : (H : Type) → List (DataW H) → Bool := fun _ ds => decide (uptoBulkAll ds ≤ 1048576)
def OpenSpec.upto (s : _root_.Go.ChangeSpec) : _root_.Go.OpenSpec := { _root_.Go.OpenSpec.ofChange s with cond := some uptoSmall }

/-- 'laws.FnWords', WHERE WHAT IT READS IS OF BULK AT MOST 1048576: true; the input reads as it did. -/
def fnWordsUptoRow : OpenClaim := { program := "ytpojkahlllochaa", sum := "5e490b5abb13bc7b2696f0d71e07d5bf64bcf9d670ca31bec6820e12172fa74a", func := "loop.example/g00870/laws.FnWords", spec := "fnWords", apart := false, narrowed := true }
def FnWordsUptoSaid : Prop := fnWordsUptoRow.holds Try.pinned (OpenSpec.upto fnWordsSpec)

/-- 'laws.FnSimplify', WHERE WHAT IT READS IS OF BULK AT MOST 1048576: true; the input reads as it did. -/
def fnSimplifyUptoRow : OpenClaim := { program := "ytpojkahlllochaa", sum := "5e490b5abb13bc7b2696f0d71e07d5bf64bcf9d670ca31bec6820e12172fa74a", func := "loop.example/g00870/laws.FnSimplify", spec := "fnSimplify", unfollowed := true, recurses := true, apart := false, narrowed := true }
def FnSimplifyUptoSaid : Prop := fnSimplifyUptoRow.holds Try.pinned (OpenSpec.upto fnSimplifySpec)

/-- 'laws.FnExactIsWord', WHERE WHAT IT READS IS OF BULK AT MOST 1048576: true; the input reads as it did. -/
def fnExactIsWordUptoRow : OpenClaim := { program := "ytpojkahlllochaa", sum := "5e490b5abb13bc7b2696f0d71e07d5bf64bcf9d670ca31bec6820e12172fa74a", func := "loop.example/g00870/laws.FnExactIsWord", spec := "fnExactIsWord", apart := false, narrowed := true }
def FnExactIsWordUptoSaid : Prop := fnExactIsWordUptoRow.holds Try.pinned (OpenSpec.upto fnExactIsWordSpec)

/-- 'laws.FnExactFreeReduce', WHERE WHAT IT READS IS OF BULK AT MOST 1048576: true; the input reads as it did. -/
def fnExactFreeReduceUptoRow : OpenClaim := { program := "ytpojkahlllochaa", sum := "5e490b5abb13bc7b2696f0d71e07d5bf64bcf9d670ca31bec6820e12172fa74a", func := "loop.example/g00870/laws.FnExactFreeReduce", spec := "fnExactFreeReduce", apart := false, narrowed := true }
def FnExactFreeReduceUptoSaid : Prop := fnExactFreeReduceUptoRow.holds Try.pinned (OpenSpec.upto fnExactFreeReduceSpec)

/-- 'laws.FnExactInvertWord', WHERE WHAT IT READS IS OF BULK AT MOST 1048576: true; the input reads as it did. -/
def fnExactInvertWordUptoRow : OpenClaim := { program := "ytpojkahlllochaa", sum := "5e490b5abb13bc7b2696f0d71e07d5bf64bcf9d670ca31bec6820e12172fa74a", func := "loop.example/g00870/laws.FnExactInvertWord", spec := "fnExactInvertWord", apart := false, narrowed := true }
def FnExactInvertWordUptoSaid : Prop := fnExactInvertWordUptoRow.holds Try.pinned (OpenSpec.upto fnExactInvertWordSpec)

/-- 'laws.FnExactCyclicReduce', WHERE WHAT IT READS IS OF BULK AT MOST 1048576: true; the input reads as it did. -/
def fnExactCyclicReduceUptoRow : OpenClaim := { program := "ytpojkahlllochaa", sum := "5e490b5abb13bc7b2696f0d71e07d5bf64bcf9d670ca31bec6820e12172fa74a", func := "loop.example/g00870/laws.FnExactCyclicReduce", spec := "fnExactCyclicReduce", apart := false, narrowed := true }
def FnExactCyclicReduceUptoSaid : Prop := fnExactCyclicReduceUptoRow.holds Try.pinned (OpenSpec.upto fnExactCyclicReduceSpec)

/-- 'laws.FnExactIsPresentation', WHERE WHAT IT READS IS OF BULK AT MOST 1048576: true; the input reads as it did. -/
def fnExactIsPresentationUptoRow : OpenClaim := { program := "ytpojkahlllochaa", sum := "5e490b5abb13bc7b2696f0d71e07d5bf64bcf9d670ca31bec6820e12172fa74a", func := "loop.example/g00870/laws.FnExactIsPresentation", spec := "fnExactIsPresentation", apart := false, narrowed := true }
def FnExactIsPresentationUptoSaid : Prop := fnExactIsPresentationUptoRow.holds Try.pinned (OpenSpec.upto fnExactIsPresentationSpec)

/-- 'laws.FnExactAbelianizationOf', WHERE WHAT IT READS IS OF BULK AT MOST 1048576: true; the input reads as it did. -/
def fnExactAbelianizationOfUptoRow : OpenClaim := { program := "ytpojkahlllochaa", sum := "5e490b5abb13bc7b2696f0d71e07d5bf64bcf9d670ca31bec6820e12172fa74a", func := "loop.example/g00870/laws.FnExactAbelianizationOf", spec := "fnExactAbelianizationOf", unfollowed := true, recurses := true, apart := false, narrowed := true }
def FnExactAbelianizationOfUptoSaid : Prop := fnExactAbelianizationOfUptoRow.holds Try.pinned (OpenSpec.upto fnExactAbelianizationOfSpec)

/-- 'laws.FnExactApplyTietze', WHERE WHAT IT READS IS OF BULK AT MOST 1048576: true; the input reads as it did. -/
def fnExactApplyTietzeUptoRow : OpenClaim := { program := "ytpojkahlllochaa", sum := "5e490b5abb13bc7b2696f0d71e07d5bf64bcf9d670ca31bec6820e12172fa74a", func := "loop.example/g00870/laws.FnExactApplyTietze", spec := "fnExactApplyTietze", unfollowed := true, recurses := true, apart := false, narrowed := true }
def FnExactApplyTietzeUptoSaid : Prop := fnExactApplyTietzeUptoRow.holds Try.pinned (OpenSpec.upto fnExactApplyTietzeSpec)

/-- 'laws.FnExactSimplifyPresentation', WHERE WHAT IT READS IS OF BULK AT MOST 1048576: true; the input reads as it did. -/
def fnExactSimplifyPresentationUptoRow : OpenClaim := { program := "ytpojkahlllochaa", sum := "5e490b5abb13bc7b2696f0d71e07d5bf64bcf9d670ca31bec6820e12172fa74a", func := "loop.example/g00870/laws.FnExactSimplifyPresentation", spec := "fnExactSimplifyPresentation", unfollowed := true, recurses := true, apart := false, narrowed := true }
def FnExactSimplifyPresentationUptoSaid : Prop := fnExactSimplifyPresentationUptoRow.holds Try.pinned (OpenSpec.upto fnExactSimplifyPresentationSpec)

end Rows
end Go.Proofs.Ytpojkahlllochaa
