/-
  No cell of these rows narrows 'for every input' (looked for: loops, veiled, ifaces, maps, wideKeys, modest, calm, conditions, laid).
  DERIVED. THE GIVEN ROWS OF THIS SEAT. 3 by the template 'for every input the law returns true; each argument reads behind the call as it read before'; 0 by the template 'total and deterministic' (their statements: YtboanggdehceaaaTotals.lean).
  GIVEN WITH THE SEED: the statements are not yours to turn. If you find one false, say at which input.
  Laid BY PROGRAM, IN A SANDBOX (cutbox-rows.mjs): the forced cells as the released guide's own fill.sh prints them over the translation 1771b4efa7ffcd50… (all of the seat's roots in one cut). By AI agents, Wed Nov 11 2026. No macro, syntax, notation, axiom, sorry.
-/
import Derived.Test.YtboanggdehceaaaChecked
import GoSem.Claim
import GoSem.ClaimJoined
import GoSem.ClaimMapViews
import Derived.JoinedTies
import Derived.KernelRfl
namespace Go.Proofs.Ytboanggdehceaaa
/- THE CELL 'sum', in the pinned program and in every row, IS THE sha256 OF THE DUMP (.gsa) THAT YtboanggdehceaaaProg.lean LOADS. Nothing in Lean hashes anything: it is a label: what it is worth is what the hold of that sum in a sandbox is worth. -/
noncomputable def Try.pinned : Pinned := { name := "ytboanggdehceaaa", sum := "1771b4efa7ffcd50117360439af9d474e872d93842b75d38547f4b6f487a5e05", checked := Try.checked }
namespace Rows
def none {H : Type} : Left H := { results := [], args := [] }

/-- 'laws.FnExactParseMatrix': WHATEVER THE INPUT: true; the input reads as it did. -/
def fnExactParseMatrixSpec : ChangeSpec := { name := "fnExactParseMatrix", fn := fun _ => fun
  | [d] => { results := [.lit (.bool true)], args := [d] }
  | _ => none }
def fnExactParseMatrixRow : OpenClaim := { program := "ytboanggdehceaaa", sum := "1771b4efa7ffcd50117360439af9d474e872d93842b75d38547f4b6f487a5e05", func := "loop.example/g00870/laws.FnExactParseMatrix", spec := "fnExactParseMatrix", recurses := true, apart := false }
def FnExactParseMatrixSaid : Prop := fnExactParseMatrixRow.holds Try.pinned (OpenSpec.ofChange fnExactParseMatrixSpec)

/-- ITS FALSE NEIGHBOUR: 'it returns false'. Refute it at one input. -/
def fnExactParseMatrixWrong : ChangeSpec := { name := "fnExactParseMatrix", fn := fun _ => fun
  | [d] => { results := [.lit (.bool false)], args := [d] }
  | _ => none }
def FnExactParseMatrixWrongFalsely : Prop := fnExactParseMatrixRow.holds Try.pinned (OpenSpec.ofChange fnExactParseMatrixWrong)

/-- 'laws.FnExactIsReduction': WHATEVER THE INPUT: true; the input reads as it did. -/
def fnExactIsReductionSpec : ChangeSpec := { name := "fnExactIsReduction", fn := fun _ => fun
  | [d1, d2] => { results := [.lit (.bool true)], args := [d1, d2] }
  | _ => none }
def fnExactIsReductionRow : OpenClaim := { program := "ytboanggdehceaaa", sum := "1771b4efa7ffcd50117360439af9d474e872d93842b75d38547f4b6f487a5e05", func := "loop.example/g00870/laws.FnExactIsReduction", spec := "fnExactIsReduction", apart := false }
def FnExactIsReductionSaid : Prop := fnExactIsReductionRow.holds Try.pinned (OpenSpec.ofChange fnExactIsReductionSpec)

/-- ITS FALSE NEIGHBOUR: 'it returns false'. Refute it at one input. -/
def fnExactIsReductionWrong : ChangeSpec := { name := "fnExactIsReduction", fn := fun _ => fun
  | [d1, d2] => { results := [.lit (.bool false)], args := [d1, d2] }
  | _ => none }
def FnExactIsReductionWrongFalsely : Prop := fnExactIsReductionRow.holds Try.pinned (OpenSpec.ofChange fnExactIsReductionWrong)

/-- 'laws.FnExactDirectSum': WHATEVER THE INPUT: true; the input reads as it did. -/
def fnExactDirectSumSpec : ChangeSpec := { name := "fnExactDirectSum", fn := fun _ => fun
  | [d1, d2] => { results := [.lit (.bool true)], args := [d1, d2] }
  | _ => none }
def fnExactDirectSumRow : OpenClaim := { program := "ytboanggdehceaaa", sum := "1771b4efa7ffcd50117360439af9d474e872d93842b75d38547f4b6f487a5e05", func := "loop.example/g00870/laws.FnExactDirectSum", spec := "fnExactDirectSum", unfollowed := true, recurses := true, apart := false }
def FnExactDirectSumSaid : Prop := fnExactDirectSumRow.holds Try.pinned (OpenSpec.ofChange fnExactDirectSumSpec)

/-- ITS FALSE NEIGHBOUR: 'it returns false'. Refute it at one input. -/
def fnExactDirectSumWrong : ChangeSpec := { name := "fnExactDirectSum", fn := fun _ => fun
  | [d1, d2] => { results := [.lit (.bool false)], args := [d1, d2] }
  | _ => none }
def FnExactDirectSumWrongFalsely : Prop := fnExactDirectSumRow.holds Try.pinned (OpenSpec.ofChange fnExactDirectSumWrong)

/- THE SECOND FORM. 'bulk': how many values and letters a reading holds, each counted each time it is reached (what is shared counts as often as it is met; a slice's spare places count too). A statement '..UptoSaid' is the law's where the arguments, and the package variables that the reading takes, are together of bulk at most 1048576: NARROWER than '..Said'. Prove '..Said' where nothing that the law and all that it calls make is longer than what came in: it says more and counts as full. Else prove '..UptoSaid'. A law counts once. -/
mutual
def uptoBulk {H : Type} : DataW H → Nat
  | .lit (.string bytes) => bytes.length + 1
  | .lit _ => 1
  | .nil => 1
  | .ptr d => uptoBulk d + 1
  | .slice elems spare => uptoBulkAll elems + uptoBulkAll spare + 1
  | .agg parts => uptoBulkAll parts + 1
  | .iface _ d => uptoBulk d + 1
  | .map entries => uptoBulkEntries entries + 1
  | .held _ => 1
def uptoBulkAll {H : Type} : List (DataW H) → Nat
  | [] => 0
  | d :: r => uptoBulk d + uptoBulkAll r
def uptoBulkEntries {H : Type} : List (Lit × DataW H) → Nat
  | [] => 0
  | x :: r => uptoBulkEntry x + uptoBulkEntries r
def uptoBulkEntry {H : Type} : Lit × DataW H → Nat
  | (.string bytes, d) => bytes.length + uptoBulk d + 1
  | (_, d) => uptoBulk d + 1
 end
def uptoSmall : (H : Type) → List (DataW H) → Bool := fun _ ds => decide (uptoBulkAll ds ≤ 1048576)
def OpenSpec.upto (s : _root_.Go.ChangeSpec) : _root_.Go.OpenSpec := { _root_.Go.OpenSpec.ofChange s with cond := some uptoSmall }

/-- 'laws.FnExactParseMatrix', WHERE WHAT IT READS IS OF BULK AT MOST 1048576: true; the input reads as it did. -/
def fnExactParseMatrixUptoRow : OpenClaim := { program := "ytboanggdehceaaa", sum := "1771b4efa7ffcd50117360439af9d474e872d93842b75d38547f4b6f487a5e05", func := "loop.example/g00870/laws.FnExactParseMatrix", spec := "fnExactParseMatrix", recurses := true, apart := false, narrowed := true }
def FnExactParseMatrixUptoSaid : Prop := fnExactParseMatrixUptoRow.holds Try.pinned (OpenSpec.upto fnExactParseMatrixSpec)

/-- 'laws.FnExactIsReduction', WHERE WHAT IT READS IS OF BULK AT MOST 1048576: true; the input reads as it did. -/
def fnExactIsReductionUptoRow : OpenClaim := { program := "ytboanggdehceaaa", sum := "1771b4efa7ffcd50117360439af9d474e872d93842b75d38547f4b6f487a5e05", func := "loop.example/g00870/laws.FnExactIsReduction", spec := "fnExactIsReduction", apart := false, narrowed := true }
def FnExactIsReductionUptoSaid : Prop := fnExactIsReductionUptoRow.holds Try.pinned (OpenSpec.upto fnExactIsReductionSpec)

/-- 'laws.FnExactDirectSum', WHERE WHAT IT READS IS OF BULK AT MOST 1048576: true; the input reads as it did. -/
def fnExactDirectSumUptoRow : OpenClaim := { program := "ytboanggdehceaaa", sum := "1771b4efa7ffcd50117360439af9d474e872d93842b75d38547f4b6f487a5e05", func := "loop.example/g00870/laws.FnExactDirectSum", spec := "fnExactDirectSum", unfollowed := true, recurses := true, apart := false, narrowed := true }
def FnExactDirectSumUptoSaid : Prop := fnExactDirectSumUptoRow.holds Try.pinned (OpenSpec.upto fnExactDirectSumSpec)

end Rows
end Go.Proofs.Ytboanggdehceaaa
