/-
  No cell of these rows narrows 'for every input' (looked for: loops, veiled, ifaces, maps, wideKeys, modest, calm, conditions, laid).
  DERIVED. THE GIVEN ROWS OF THIS SEAT. 9 by the template 'for every input the law returns true; each argument reads behind the call as it read before'; 0 by the template 'total and deterministic' (their statements: YtopbfjhgpgjnnaaTotals.lean).
  GIVEN WITH THE SEED: the statements are not yours to turn. If you find one false, say at which input.
  Laid BY PROGRAM, IN A SANDBOX (cutbox-rows.mjs): the forced cells as the released guide's own fill.sh prints them over the translation bcdc4750b3c948df… (all of the seat's roots in one cut). By AI agents, Wed Nov 11 2026. No macro, syntax, notation, axiom, sorry.
-/
import Derived.Test.YtopbfjhgpgjnnaaChecked
import GoSem.Claim
import GoSem.ClaimJoined
import GoSem.ClaimMapViews
import Derived.JoinedTies
import Derived.KernelRfl
namespace Go.Proofs.Ytopbfjhgpgjnnaa
/- THE CELL 'sum', in the pinned program and in every row, IS THE sha256 OF THE DUMP (.gsa) THAT YtopbfjhgpgjnnaaProg.lean LOADS. Nothing in Lean hashes anything: it is a label: what it is worth is what the hold of that sum in a sandbox is worth. -/
noncomputable def Try.pinned : Pinned := { name := "ytopbfjhgpgjnnaa", sum := "bcdc4750b3c948df141d34a98f1cf55bfdc218c0cc1d74207dc6e55a70fd1533", checked := Try.checked }
namespace Rows
def none {H : Type} : Left H := { results := [], args := [] }

/-- 'laws.FnExactIsLaurent': WHATEVER THE INPUT: true; the input reads as it did. -/
def fnExactIsLaurentSpec : ChangeSpec := { name := "fnExactIsLaurent", fn := fun _ => fun
  | [d] => { results := [.lit (.bool true)], args := [d] }
  | _ => none }
def fnExactIsLaurentRow : OpenClaim := { program := "ytopbfjhgpgjnnaa", sum := "bcdc4750b3c948df141d34a98f1cf55bfdc218c0cc1d74207dc6e55a70fd1533", func := "loop.example/g00870/laws.FnExactIsLaurent", spec := "fnExactIsLaurent", apart := false }
def FnExactIsLaurentSaid : Prop := fnExactIsLaurentRow.holds Try.pinned (OpenSpec.ofChange fnExactIsLaurentSpec)

/-- ITS FALSE NEIGHBOUR: 'it returns false'. Refute it at one input. -/
def fnExactIsLaurentWrong : ChangeSpec := { name := "fnExactIsLaurent", fn := fun _ => fun
  | [d] => { results := [.lit (.bool false)], args := [d] }
  | _ => none }
def FnExactIsLaurentWrongFalsely : Prop := fnExactIsLaurentRow.holds Try.pinned (OpenSpec.ofChange fnExactIsLaurentWrong)

/-- 'laws.FnExactMonomialOf': WHATEVER THE INPUT: true; the input reads as it did. -/
def fnExactMonomialOfSpec : ChangeSpec := { name := "fnExactMonomialOf", fn := fun _ => fun
  | [d1, d2] => { results := [.lit (.bool true)], args := [d1, d2] }
  | _ => none }
def fnExactMonomialOfRow : OpenClaim := { program := "ytopbfjhgpgjnnaa", sum := "bcdc4750b3c948df141d34a98f1cf55bfdc218c0cc1d74207dc6e55a70fd1533", func := "loop.example/g00870/laws.FnExactMonomialOf", spec := "fnExactMonomialOf", apart := false }
def FnExactMonomialOfSaid : Prop := fnExactMonomialOfRow.holds Try.pinned (OpenSpec.ofChange fnExactMonomialOfSpec)

/-- ITS FALSE NEIGHBOUR: 'it returns false'. Refute it at one input. -/
def fnExactMonomialOfWrong : ChangeSpec := { name := "fnExactMonomialOf", fn := fun _ => fun
  | [d1, d2] => { results := [.lit (.bool false)], args := [d1, d2] }
  | _ => none }
def FnExactMonomialOfWrongFalsely : Prop := fnExactMonomialOfRow.holds Try.pinned (OpenSpec.ofChange fnExactMonomialOfWrong)

/-- 'laws.FnExactAddLaurent': WHATEVER THE INPUT: true; the input reads as it did. -/
def fnExactAddLaurentSpec : ChangeSpec := { name := "fnExactAddLaurent", fn := fun _ => fun
  | [d1, d2] => { results := [.lit (.bool true)], args := [d1, d2] }
  | _ => none }
def fnExactAddLaurentRow : OpenClaim := { program := "ytopbfjhgpgjnnaa", sum := "bcdc4750b3c948df141d34a98f1cf55bfdc218c0cc1d74207dc6e55a70fd1533", func := "loop.example/g00870/laws.FnExactAddLaurent", spec := "fnExactAddLaurent", apart := false }
def FnExactAddLaurentSaid : Prop := fnExactAddLaurentRow.holds Try.pinned (OpenSpec.ofChange fnExactAddLaurentSpec)

/-- ITS FALSE NEIGHBOUR: 'it returns false'. Refute it at one input. -/
def fnExactAddLaurentWrong : ChangeSpec := { name := "fnExactAddLaurent", fn := fun _ => fun
  | [d1, d2] => { results := [.lit (.bool false)], args := [d1, d2] }
  | _ => none }
def FnExactAddLaurentWrongFalsely : Prop := fnExactAddLaurentRow.holds Try.pinned (OpenSpec.ofChange fnExactAddLaurentWrong)

/-- 'laws.FnExactMultiplyLaurent': WHATEVER THE INPUT: true; the input reads as it did. -/
def fnExactMultiplyLaurentSpec : ChangeSpec := { name := "fnExactMultiplyLaurent", fn := fun _ => fun
  | [d1, d2] => { results := [.lit (.bool true)], args := [d1, d2] }
  | _ => none }
def fnExactMultiplyLaurentRow : OpenClaim := { program := "ytopbfjhgpgjnnaa", sum := "bcdc4750b3c948df141d34a98f1cf55bfdc218c0cc1d74207dc6e55a70fd1533", func := "loop.example/g00870/laws.FnExactMultiplyLaurent", spec := "fnExactMultiplyLaurent", apart := false }
def FnExactMultiplyLaurentSaid : Prop := fnExactMultiplyLaurentRow.holds Try.pinned (OpenSpec.ofChange fnExactMultiplyLaurentSpec)

/-- ITS FALSE NEIGHBOUR: 'it returns false'. Refute it at one input. -/
def fnExactMultiplyLaurentWrong : ChangeSpec := { name := "fnExactMultiplyLaurent", fn := fun _ => fun
  | [d1, d2] => { results := [.lit (.bool false)], args := [d1, d2] }
  | _ => none }
def FnExactMultiplyLaurentWrongFalsely : Prop := fnExactMultiplyLaurentRow.holds Try.pinned (OpenSpec.ofChange fnExactMultiplyLaurentWrong)

/-- 'laws.FnExactShiftLaurent': WHATEVER THE INPUT: true; the input reads as it did. -/
def fnExactShiftLaurentSpec : ChangeSpec := { name := "fnExactShiftLaurent", fn := fun _ => fun
  | [d1, d2] => { results := [.lit (.bool true)], args := [d1, d2] }
  | _ => none }
def fnExactShiftLaurentRow : OpenClaim := { program := "ytopbfjhgpgjnnaa", sum := "bcdc4750b3c948df141d34a98f1cf55bfdc218c0cc1d74207dc6e55a70fd1533", func := "loop.example/g00870/laws.FnExactShiftLaurent", spec := "fnExactShiftLaurent", apart := false }
def FnExactShiftLaurentSaid : Prop := fnExactShiftLaurentRow.holds Try.pinned (OpenSpec.ofChange fnExactShiftLaurentSpec)

/-- ITS FALSE NEIGHBOUR: 'it returns false'. Refute it at one input. -/
def fnExactShiftLaurentWrong : ChangeSpec := { name := "fnExactShiftLaurent", fn := fun _ => fun
  | [d1, d2] => { results := [.lit (.bool false)], args := [d1, d2] }
  | _ => none }
def FnExactShiftLaurentWrongFalsely : Prop := fnExactShiftLaurentRow.holds Try.pinned (OpenSpec.ofChange fnExactShiftLaurentWrong)

/-- 'laws.FnExactInvertVariable': WHATEVER THE INPUT: true; the input reads as it did. -/
def fnExactInvertVariableSpec : ChangeSpec := { name := "fnExactInvertVariable", fn := fun _ => fun
  | [d] => { results := [.lit (.bool true)], args := [d] }
  | _ => none }
def fnExactInvertVariableRow : OpenClaim := { program := "ytopbfjhgpgjnnaa", sum := "bcdc4750b3c948df141d34a98f1cf55bfdc218c0cc1d74207dc6e55a70fd1533", func := "loop.example/g00870/laws.FnExactInvertVariable", spec := "fnExactInvertVariable", apart := false }
def FnExactInvertVariableSaid : Prop := fnExactInvertVariableRow.holds Try.pinned (OpenSpec.ofChange fnExactInvertVariableSpec)

/-- ITS FALSE NEIGHBOUR: 'it returns false'. Refute it at one input. -/
def fnExactInvertVariableWrong : ChangeSpec := { name := "fnExactInvertVariable", fn := fun _ => fun
  | [d] => { results := [.lit (.bool false)], args := [d] }
  | _ => none }
def FnExactInvertVariableWrongFalsely : Prop := fnExactInvertVariableRow.holds Try.pinned (OpenSpec.ofChange fnExactInvertVariableWrong)

/-- 'laws.FnExactEvaluateSign': WHATEVER THE INPUT: true; the input reads as it did. -/
def fnExactEvaluateSignSpec : ChangeSpec := { name := "fnExactEvaluateSign", fn := fun _ => fun
  | [d1, d2] => { results := [.lit (.bool true)], args := [d1, d2] }
  | _ => none }
def fnExactEvaluateSignRow : OpenClaim := { program := "ytopbfjhgpgjnnaa", sum := "bcdc4750b3c948df141d34a98f1cf55bfdc218c0cc1d74207dc6e55a70fd1533", func := "loop.example/g00870/laws.FnExactEvaluateSign", spec := "fnExactEvaluateSign", apart := false }
def FnExactEvaluateSignSaid : Prop := fnExactEvaluateSignRow.holds Try.pinned (OpenSpec.ofChange fnExactEvaluateSignSpec)

/-- ITS FALSE NEIGHBOUR: 'it returns false'. Refute it at one input. -/
def fnExactEvaluateSignWrong : ChangeSpec := { name := "fnExactEvaluateSign", fn := fun _ => fun
  | [d1, d2] => { results := [.lit (.bool false)], args := [d1, d2] }
  | _ => none }
def FnExactEvaluateSignWrongFalsely : Prop := fnExactEvaluateSignRow.holds Try.pinned (OpenSpec.ofChange fnExactEvaluateSignWrong)

/-- 'laws.FnExactUnitForm': WHATEVER THE INPUT: true; the input reads as it did. -/
def fnExactUnitFormSpec : ChangeSpec := { name := "fnExactUnitForm", fn := fun _ => fun
  | [d] => { results := [.lit (.bool true)], args := [d] }
  | _ => none }
def fnExactUnitFormRow : OpenClaim := { program := "ytopbfjhgpgjnnaa", sum := "bcdc4750b3c948df141d34a98f1cf55bfdc218c0cc1d74207dc6e55a70fd1533", func := "loop.example/g00870/laws.FnExactUnitForm", spec := "fnExactUnitForm", apart := false }
def FnExactUnitFormSaid : Prop := fnExactUnitFormRow.holds Try.pinned (OpenSpec.ofChange fnExactUnitFormSpec)

/-- ITS FALSE NEIGHBOUR: 'it returns false'. Refute it at one input. -/
def fnExactUnitFormWrong : ChangeSpec := { name := "fnExactUnitForm", fn := fun _ => fun
  | [d] => { results := [.lit (.bool false)], args := [d] }
  | _ => none }
def FnExactUnitFormWrongFalsely : Prop := fnExactUnitFormRow.holds Try.pinned (OpenSpec.ofChange fnExactUnitFormWrong)

/-- 'laws.FnLaurentRing': WHATEVER THE INPUT: true; the input reads as it did. -/
def fnLaurentRingSpec : ChangeSpec := { name := "fnLaurentRing", fn := fun _ => fun
  | [d] => { results := [.lit (.bool true)], args := [d] }
  | _ => none }
def fnLaurentRingRow : OpenClaim := { program := "ytopbfjhgpgjnnaa", sum := "bcdc4750b3c948df141d34a98f1cf55bfdc218c0cc1d74207dc6e55a70fd1533", func := "loop.example/g00870/laws.FnLaurentRing", spec := "fnLaurentRing", apart := false }
def FnLaurentRingSaid : Prop := fnLaurentRingRow.holds Try.pinned (OpenSpec.ofChange fnLaurentRingSpec)

/-- ITS FALSE NEIGHBOUR: 'it returns false'. Refute it at one input. -/
def fnLaurentRingWrong : ChangeSpec := { name := "fnLaurentRing", fn := fun _ => fun
  | [d] => { results := [.lit (.bool false)], args := [d] }
  | _ => none }
def FnLaurentRingWrongFalsely : Prop := fnLaurentRingRow.holds Try.pinned (OpenSpec.ofChange fnLaurentRingWrong)

/- THE SECOND FORM. 'bulk': how many values and letters a reading holds, each counted each time it is reached (what is shared counts as often as it is met; a slice's spare places count too). A statement '..UptoSaid' is the law's where the arguments, and the package variables that the reading takes, are together of bulk at most 1048576: NARROWER than '..Said'. Prove '..Said' where nothing that the law and all that it calls make is longer than what came in: it says more and counts as full. Else prove '..UptoSaid'. A law counts once. -/
mutual
def uptoBulk {H : Type} : DataW H → Nat
  | .lit (.string bytes) => bytes.length + 1
  | .lit _ => 1
  | .nil => 1
  | .ptr d => uptoBulk d + 1
  | .slice elems spare => uptoBulkAll elems + uptoBulkAll spare + 1
  | .agg parts => uptoBulkAll parts + 1
  | .iface _ d => uptoBulk d + 1
  | .map entries => uptoBulkEntries entries + 1
  | .held _ => 1
def uptoBulkAll {H : Type} : List (DataW H) → Nat
  | [] => 0
  | d :: r => uptoBulk d + uptoBulkAll r
def uptoBulkEntries {H : Type} : List (Lit × DataW H) → Nat
  | [] => 0
  | x :: r => uptoBulkEntry x + uptoBulkEntries r
def uptoBulkEntry {H : Type} : Lit × DataW H → Nat
  | (.string bytes, d) => bytes.length + uptoBulk d + 1
  | (_, d) => uptoBulk d + 1
 end
def uptoSmall : (H : Type) → List (DataW H) → Bool := fun _ ds => decide (uptoBulkAll ds ≤ 1048576)
def OpenSpec.upto (s : _root_.Go.ChangeSpec) : _root_.Go.OpenSpec := { _root_.Go.OpenSpec.ofChange s with cond := some uptoSmall }

/-- 'laws.FnExactIsLaurent', WHERE WHAT IT READS IS OF BULK AT MOST 1048576: true; the input reads as it did. -/
def fnExactIsLaurentUptoRow : OpenClaim := { program := "ytopbfjhgpgjnnaa", sum := "bcdc4750b3c948df141d34a98f1cf55bfdc218c0cc1d74207dc6e55a70fd1533", func := "loop.example/g00870/laws.FnExactIsLaurent", spec := "fnExactIsLaurent", apart := false, narrowed := true }
def FnExactIsLaurentUptoSaid : Prop := fnExactIsLaurentUptoRow.holds Try.pinned (OpenSpec.upto fnExactIsLaurentSpec)

/-- 'laws.FnExactMonomialOf', WHERE WHAT IT READS IS OF BULK AT MOST 1048576: true; the input reads as it did. -/
def fnExactMonomialOfUptoRow : OpenClaim := { program := "ytopbfjhgpgjnnaa", sum := "bcdc4750b3c948df141d34a98f1cf55bfdc218c0cc1d74207dc6e55a70fd1533", func := "loop.example/g00870/laws.FnExactMonomialOf", spec := "fnExactMonomialOf", apart := false, narrowed := true }
def FnExactMonomialOfUptoSaid : Prop := fnExactMonomialOfUptoRow.holds Try.pinned (OpenSpec.upto fnExactMonomialOfSpec)

/-- 'laws.FnExactAddLaurent', WHERE WHAT IT READS IS OF BULK AT MOST 1048576: true; the input reads as it did. -/
def fnExactAddLaurentUptoRow : OpenClaim := { program := "ytopbfjhgpgjnnaa", sum := "bcdc4750b3c948df141d34a98f1cf55bfdc218c0cc1d74207dc6e55a70fd1533", func := "loop.example/g00870/laws.FnExactAddLaurent", spec := "fnExactAddLaurent", apart := false, narrowed := true }
def FnExactAddLaurentUptoSaid : Prop := fnExactAddLaurentUptoRow.holds Try.pinned (OpenSpec.upto fnExactAddLaurentSpec)

/-- 'laws.FnExactMultiplyLaurent', WHERE WHAT IT READS IS OF BULK AT MOST 1048576: true; the input reads as it did. -/
def fnExactMultiplyLaurentUptoRow : OpenClaim := { program := "ytopbfjhgpgjnnaa", sum := "bcdc4750b3c948df141d34a98f1cf55bfdc218c0cc1d74207dc6e55a70fd1533", func := "loop.example/g00870/laws.FnExactMultiplyLaurent", spec := "fnExactMultiplyLaurent", apart := false, narrowed := true }
def FnExactMultiplyLaurentUptoSaid : Prop := fnExactMultiplyLaurentUptoRow.holds Try.pinned (OpenSpec.upto fnExactMultiplyLaurentSpec)

/-- 'laws.FnExactShiftLaurent', WHERE WHAT IT READS IS OF BULK AT MOST 1048576: true; the input reads as it did. -/
def fnExactShiftLaurentUptoRow : OpenClaim := { program := "ytopbfjhgpgjnnaa", sum := "bcdc4750b3c948df141d34a98f1cf55bfdc218c0cc1d74207dc6e55a70fd1533", func := "loop.example/g00870/laws.FnExactShiftLaurent", spec := "fnExactShiftLaurent", apart := false, narrowed := true }
def FnExactShiftLaurentUptoSaid : Prop := fnExactShiftLaurentUptoRow.holds Try.pinned (OpenSpec.upto fnExactShiftLaurentSpec)

/-- 'laws.FnExactInvertVariable', WHERE WHAT IT READS IS OF BULK AT MOST 1048576: true; the input reads as it did. -/
def fnExactInvertVariableUptoRow : OpenClaim := { program := "ytopbfjhgpgjnnaa", sum := "bcdc4750b3c948df141d34a98f1cf55bfdc218c0cc1d74207dc6e55a70fd1533", func := "loop.example/g00870/laws.FnExactInvertVariable", spec := "fnExactInvertVariable", apart := false, narrowed := true }
def FnExactInvertVariableUptoSaid : Prop := fnExactInvertVariableUptoRow.holds Try.pinned (OpenSpec.upto fnExactInvertVariableSpec)

/-- 'laws.FnExactEvaluateSign', WHERE WHAT IT READS IS OF BULK AT MOST 1048576: true; the input reads as it did. -/
def fnExactEvaluateSignUptoRow : OpenClaim := { program := "ytopbfjhgpgjnnaa", sum := "bcdc4750b3c948df141d34a98f1cf55bfdc218c0cc1d74207dc6e55a70fd1533", func := "loop.example/g00870/laws.FnExactEvaluateSign", spec := "fnExactEvaluateSign", apart := false, narrowed := true }
def FnExactEvaluateSignUptoSaid : Prop := fnExactEvaluateSignUptoRow.holds Try.pinned (OpenSpec.upto fnExactEvaluateSignSpec)

/-- 'laws.FnExactUnitForm', WHERE WHAT IT READS IS OF BULK AT MOST 1048576: true; the input reads as it did. -/
def fnExactUnitFormUptoRow : OpenClaim := { program := "ytopbfjhgpgjnnaa", sum := "bcdc4750b3c948df141d34a98f1cf55bfdc218c0cc1d74207dc6e55a70fd1533", func := "loop.example/g00870/laws.FnExactUnitForm", spec := "fnExactUnitForm", apart := false, narrowed := true }
def FnExactUnitFormUptoSaid : Prop := fnExactUnitFormUptoRow.holds Try.pinned (OpenSpec.upto fnExactUnitFormSpec)

/-- 'laws.FnLaurentRing', WHERE WHAT IT READS IS OF BULK AT MOST 1048576: true; the input reads as it did. -/
def fnLaurentRingUptoRow : OpenClaim := { program := "ytopbfjhgpgjnnaa", sum := "bcdc4750b3c948df141d34a98f1cf55bfdc218c0cc1d74207dc6e55a70fd1533", func := "loop.example/g00870/laws.FnLaurentRing", spec := "fnLaurentRing", apart := false, narrowed := true }
def FnLaurentRingUptoSaid : Prop := fnLaurentRingUptoRow.holds Try.pinned (OpenSpec.upto fnLaurentRingSpec)

end Rows
end Go.Proofs.Ytopbfjhgpgjnnaa
