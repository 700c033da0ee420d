/-
  NARROWER THAN 'FOR EVERY INPUT', by the rows' own cells (each row's printed sentence says how): FnPermGroup: laid · FnExtend: laid · FnExactPerm4: laid · FnExactIndexOfPerm4: laid · FnExactApplyPerm4: laid · FnExactComposePerm4: laid · FnExactInvertPerm4: laid · FnExactSignPerm4: laid · FnExactOrderPerm4: laid · FnExactExtendPerm4: laid.
  DERIVED. THE GIVEN ROWS OF THIS SEAT. 10 by the template 'for every input the law returns true; each argument reads behind the call as it read before'; 0 by the template 'total and deterministic' (their statements: YtoegfldpadpohaaDoorTotals.lean).
  GIVEN WITH THE SEED: the statements are not yours to turn. If you find one false, say at which input.
  Laid BY PROGRAM, IN A SANDBOX (cutbox-rows.mjs): the forced cells as the released guide's own fill.sh prints them over the translation 08f45ad03e54a879… (all of the seat's roots in one cut). By AI agents, Wed Nov 11 2026. No macro, syntax, notation, axiom, sorry.
-/
import Derived.Test.YtoegfldpadpohaaDoorChecked
import GoSem.Claim
import GoSem.ClaimJoined
import GoSem.ClaimMapViews
import Derived.JoinedTies
import Derived.KernelRfl
namespace Go.Proofs.YtoegfldpadpohaaDoor
/- THE CELL 'sum', in the pinned program and in every row, IS THE sha256 OF THE DUMP (.gsa) THAT YtoegfldpadpohaaDoorProg.lean LOADS. Nothing in Lean hashes anything: it is a label: what it is worth is what the hold of that sum in a sandbox is worth. -/
noncomputable def Tryd.pinned : Pinned := { name := "ytoegfldpadpohaadoor", sum := "08f45ad03e54a879c2978cd414c7067277f9d47d7d333e9c6e1d706c68ce3eb7", checked := Tryd.checked }
namespace Rows
def none {H : Type} : Left H := { results := [], args := [] }

/- WHAT THE LISTED PACKAGE-LEVEL VARIABLES READ AS WHEN THE CALL BEGINS. Each datum BY PROGRAM (the guide's laid-datum.mjs) off the statement by which the dump's own 'gosem.cut.vars' lays the variable. In a bare row this is a premise. The card (YtoegfldpadpohaaDoorCards.lean) ties it to the program's text. -/
def laid_loop_example_g00870_impl_perm4s {H : Type} : DataW H := .agg [.agg [.lit (.int .u8 0), .lit (.int .u8 1), .lit (.int .u8 2), .lit (.int .u8 3)], .agg [.lit (.int .u8 0), .lit (.int .u8 1), .lit (.int .u8 3), .lit (.int .u8 2)], .agg [.lit (.int .u8 0), .lit (.int .u8 2), .lit (.int .u8 1), .lit (.int .u8 3)], .agg [.lit (.int .u8 0), .lit (.int .u8 2), .lit (.int .u8 3), .lit (.int .u8 1)], .agg [.lit (.int .u8 0), .lit (.int .u8 3), .lit (.int .u8 1), .lit (.int .u8 2)], .agg [.lit (.int .u8 0), .lit (.int .u8 3), .lit (.int .u8 2), .lit (.int .u8 1)], .agg [.lit (.int .u8 1), .lit (.int .u8 0), .lit (.int .u8 2), .lit (.int .u8 3)], .agg [.lit (.int .u8 1), .lit (.int .u8 0), .lit (.int .u8 3), .lit (.int .u8 2)], .agg [.lit (.int .u8 1), .lit (.int .u8 2), .lit (.int .u8 0), .lit (.int .u8 3)], .agg [.lit (.int .u8 1), .lit (.int .u8 2), .lit (.int .u8 3), .lit (.int .u8 0)], .agg [.lit (.int .u8 1), .lit (.int .u8 3), .lit (.int .u8 0), .lit (.int .u8 2)], .agg [.lit (.int .u8 1), .lit (.int .u8 3), .lit (.int .u8 2), .lit (.int .u8 0)], .agg [.lit (.int .u8 2), .lit (.int .u8 0), .lit (.int .u8 1), .lit (.int .u8 3)], .agg [.lit (.int .u8 2), .lit (.int .u8 0), .lit (.int .u8 3), .lit (.int .u8 1)], .agg [.lit (.int .u8 2), .lit (.int .u8 1), .lit (.int .u8 0), .lit (.int .u8 3)], .agg [.lit (.int .u8 2), .lit (.int .u8 1), .lit (.int .u8 3), .lit (.int .u8 0)], .agg [.lit (.int .u8 2), .lit (.int .u8 3), .lit (.int .u8 0), .lit (.int .u8 1)], .agg [.lit (.int .u8 2), .lit (.int .u8 3), .lit (.int .u8 1), .lit (.int .u8 0)], .agg [.lit (.int .u8 3), .lit (.int .u8 0), .lit (.int .u8 1), .lit (.int .u8 2)], .agg [.lit (.int .u8 3), .lit (.int .u8 0), .lit (.int .u8 2), .lit (.int .u8 1)], .agg [.lit (.int .u8 3), .lit (.int .u8 1), .lit (.int .u8 0), .lit (.int .u8 2)], .agg [.lit (.int .u8 3), .lit (.int .u8 1), .lit (.int .u8 2), .lit (.int .u8 0)], .agg [.lit (.int .u8 3), .lit (.int .u8 2), .lit (.int .u8 0), .lit (.int .u8 1)], .agg [.lit (.int .u8 3), .lit (.int .u8 2), .lit (.int .u8 1), .lit (.int .u8 0)]]

/-- 'laws.FnPermGroup': WHATEVER THE INPUT: true; the input reads as it did. -/
def fnPermGroupSpec : ChangeSpec := { name := "fnPermGroup", vars := ["loop.example/g00870/impl.perm4s"], fn := fun _ => fun
  | [d, g1] => { results := [.lit (.bool true)], args := [d], vars := [g1] }
  | _ => none }
def fnPermGroupRow : OpenClaim := { program := "ytoegfldpadpohaadoor", sum := "08f45ad03e54a879c2978cd414c7067277f9d47d7d333e9c6e1d706c68ce3eb7", func := "loop.example/g00870/laws.FnPermGroup", spec := "fnPermGroup", named := ["loop.example/g00870/impl.perm4s"], plainKeys := false, apart := false, laid := [("loop.example/g00870/impl.perm4s", laid_loop_example_g00870_impl_perm4s)] }
def FnPermGroupSaid : Prop := fnPermGroupRow.holds Tryd.pinned (OpenSpec.ofChange fnPermGroupSpec)

/-- ITS FALSE NEIGHBOUR: 'it returns false'. Refute it at one input. -/
def fnPermGroupWrong : ChangeSpec := { name := "fnPermGroup", vars := ["loop.example/g00870/impl.perm4s"], fn := fun _ => fun
  | [d, g1] => { results := [.lit (.bool false)], args := [d], vars := [g1] }
  | _ => none }
def FnPermGroupWrongFalsely : Prop := fnPermGroupRow.holds Tryd.pinned (OpenSpec.ofChange fnPermGroupWrong)

/-- 'laws.FnExtend': WHATEVER THE INPUT: true; the input reads as it did. -/
def fnExtendSpec : ChangeSpec := { name := "fnExtend", vars := ["loop.example/g00870/impl.perm4s"], fn := fun _ => fun
  | [d, g1] => { results := [.lit (.bool true)], args := [d], vars := [g1] }
  | _ => none }
def fnExtendRow : OpenClaim := { program := "ytoegfldpadpohaadoor", sum := "08f45ad03e54a879c2978cd414c7067277f9d47d7d333e9c6e1d706c68ce3eb7", func := "loop.example/g00870/laws.FnExtend", spec := "fnExtend", named := ["loop.example/g00870/impl.perm4s"], plainKeys := false, apart := false, laid := [("loop.example/g00870/impl.perm4s", laid_loop_example_g00870_impl_perm4s)] }
def FnExtendSaid : Prop := fnExtendRow.holds Tryd.pinned (OpenSpec.ofChange fnExtendSpec)

/-- ITS FALSE NEIGHBOUR: 'it returns false'. Refute it at one input. -/
def fnExtendWrong : ChangeSpec := { name := "fnExtend", vars := ["loop.example/g00870/impl.perm4s"], fn := fun _ => fun
  | [d, g1] => { results := [.lit (.bool false)], args := [d], vars := [g1] }
  | _ => none }
def FnExtendWrongFalsely : Prop := fnExtendRow.holds Tryd.pinned (OpenSpec.ofChange fnExtendWrong)

/-- 'laws.FnExactPerm4': WHATEVER THE INPUT: true; the input reads as it did. -/
def fnExactPerm4Spec : ChangeSpec := { name := "fnExactPerm4", vars := ["loop.example/g00870/impl.perm4s"], fn := fun _ => fun
  | [d, g1] => { results := [.lit (.bool true)], args := [d], vars := [g1] }
  | _ => none }
def fnExactPerm4Row : OpenClaim := { program := "ytoegfldpadpohaadoor", sum := "08f45ad03e54a879c2978cd414c7067277f9d47d7d333e9c6e1d706c68ce3eb7", func := "loop.example/g00870/laws.FnExactPerm4", spec := "fnExactPerm4", named := ["loop.example/g00870/impl.perm4s"], plainKeys := false, apart := false, laid := [("loop.example/g00870/impl.perm4s", laid_loop_example_g00870_impl_perm4s)] }
def FnExactPerm4Said : Prop := fnExactPerm4Row.holds Tryd.pinned (OpenSpec.ofChange fnExactPerm4Spec)

/-- ITS FALSE NEIGHBOUR: 'it returns false'. Refute it at one input. -/
def fnExactPerm4Wrong : ChangeSpec := { name := "fnExactPerm4", vars := ["loop.example/g00870/impl.perm4s"], fn := fun _ => fun
  | [d, g1] => { results := [.lit (.bool false)], args := [d], vars := [g1] }
  | _ => none }
def FnExactPerm4WrongFalsely : Prop := fnExactPerm4Row.holds Tryd.pinned (OpenSpec.ofChange fnExactPerm4Wrong)

/-- 'laws.FnExactIndexOfPerm4': WHATEVER THE INPUT: true; the input reads as it did. -/
def fnExactIndexOfPerm4Spec : ChangeSpec := { name := "fnExactIndexOfPerm4", vars := ["loop.example/g00870/impl.perm4s"], fn := fun _ => fun
  | [d, g1] => { results := [.lit (.bool true)], args := [d], vars := [g1] }
  | _ => none }
def fnExactIndexOfPerm4Row : OpenClaim := { program := "ytoegfldpadpohaadoor", sum := "08f45ad03e54a879c2978cd414c7067277f9d47d7d333e9c6e1d706c68ce3eb7", func := "loop.example/g00870/laws.FnExactIndexOfPerm4", spec := "fnExactIndexOfPerm4", named := ["loop.example/g00870/impl.perm4s"], plainKeys := false, apart := false, laid := [("loop.example/g00870/impl.perm4s", laid_loop_example_g00870_impl_perm4s)] }
def FnExactIndexOfPerm4Said : Prop := fnExactIndexOfPerm4Row.holds Tryd.pinned (OpenSpec.ofChange fnExactIndexOfPerm4Spec)

/-- ITS FALSE NEIGHBOUR: 'it returns false'. Refute it at one input. -/
def fnExactIndexOfPerm4Wrong : ChangeSpec := { name := "fnExactIndexOfPerm4", vars := ["loop.example/g00870/impl.perm4s"], fn := fun _ => fun
  | [d, g1] => { results := [.lit (.bool false)], args := [d], vars := [g1] }
  | _ => none }
def FnExactIndexOfPerm4WrongFalsely : Prop := fnExactIndexOfPerm4Row.holds Tryd.pinned (OpenSpec.ofChange fnExactIndexOfPerm4Wrong)

/-- 'laws.FnExactApplyPerm4': WHATEVER THE INPUT: true; the input reads as it did. -/
def fnExactApplyPerm4Spec : ChangeSpec := { name := "fnExactApplyPerm4", vars := ["loop.example/g00870/impl.perm4s"], fn := fun _ => fun
  | [d1, d2, g1] => { results := [.lit (.bool true)], args := [d1, d2], vars := [g1] }
  | _ => none }
def fnExactApplyPerm4Row : OpenClaim := { program := "ytoegfldpadpohaadoor", sum := "08f45ad03e54a879c2978cd414c7067277f9d47d7d333e9c6e1d706c68ce3eb7", func := "loop.example/g00870/laws.FnExactApplyPerm4", spec := "fnExactApplyPerm4", named := ["loop.example/g00870/impl.perm4s"], plainKeys := false, apart := false, laid := [("loop.example/g00870/impl.perm4s", laid_loop_example_g00870_impl_perm4s)] }
def FnExactApplyPerm4Said : Prop := fnExactApplyPerm4Row.holds Tryd.pinned (OpenSpec.ofChange fnExactApplyPerm4Spec)

/-- ITS FALSE NEIGHBOUR: 'it returns false'. Refute it at one input. -/
def fnExactApplyPerm4Wrong : ChangeSpec := { name := "fnExactApplyPerm4", vars := ["loop.example/g00870/impl.perm4s"], fn := fun _ => fun
  | [d1, d2, g1] => { results := [.lit (.bool false)], args := [d1, d2], vars := [g1] }
  | _ => none }
def FnExactApplyPerm4WrongFalsely : Prop := fnExactApplyPerm4Row.holds Tryd.pinned (OpenSpec.ofChange fnExactApplyPerm4Wrong)

/-- 'laws.FnExactComposePerm4': WHATEVER THE INPUT: true; the input reads as it did. -/
def fnExactComposePerm4Spec : ChangeSpec := { name := "fnExactComposePerm4", vars := ["loop.example/g00870/impl.perm4s"], fn := fun _ => fun
  | [d1, d2, g1] => { results := [.lit (.bool true)], args := [d1, d2], vars := [g1] }
  | _ => none }
def fnExactComposePerm4Row : OpenClaim := { program := "ytoegfldpadpohaadoor", sum := "08f45ad03e54a879c2978cd414c7067277f9d47d7d333e9c6e1d706c68ce3eb7", func := "loop.example/g00870/laws.FnExactComposePerm4", spec := "fnExactComposePerm4", named := ["loop.example/g00870/impl.perm4s"], plainKeys := false, apart := false, laid := [("loop.example/g00870/impl.perm4s", laid_loop_example_g00870_impl_perm4s)] }
def FnExactComposePerm4Said : Prop := fnExactComposePerm4Row.holds Tryd.pinned (OpenSpec.ofChange fnExactComposePerm4Spec)

/-- ITS FALSE NEIGHBOUR: 'it returns false'. Refute it at one input. -/
def fnExactComposePerm4Wrong : ChangeSpec := { name := "fnExactComposePerm4", vars := ["loop.example/g00870/impl.perm4s"], fn := fun _ => fun
  | [d1, d2, g1] => { results := [.lit (.bool false)], args := [d1, d2], vars := [g1] }
  | _ => none }
def FnExactComposePerm4WrongFalsely : Prop := fnExactComposePerm4Row.holds Tryd.pinned (OpenSpec.ofChange fnExactComposePerm4Wrong)

/-- 'laws.FnExactInvertPerm4': WHATEVER THE INPUT: true; the input reads as it did. -/
def fnExactInvertPerm4Spec : ChangeSpec := { name := "fnExactInvertPerm4", vars := ["loop.example/g00870/impl.perm4s"], fn := fun _ => fun
  | [d, g1] => { results := [.lit (.bool true)], args := [d], vars := [g1] }
  | _ => none }
def fnExactInvertPerm4Row : OpenClaim := { program := "ytoegfldpadpohaadoor", sum := "08f45ad03e54a879c2978cd414c7067277f9d47d7d333e9c6e1d706c68ce3eb7", func := "loop.example/g00870/laws.FnExactInvertPerm4", spec := "fnExactInvertPerm4", named := ["loop.example/g00870/impl.perm4s"], plainKeys := false, apart := false, laid := [("loop.example/g00870/impl.perm4s", laid_loop_example_g00870_impl_perm4s)] }
def FnExactInvertPerm4Said : Prop := fnExactInvertPerm4Row.holds Tryd.pinned (OpenSpec.ofChange fnExactInvertPerm4Spec)

/-- ITS FALSE NEIGHBOUR: 'it returns false'. Refute it at one input. -/
def fnExactInvertPerm4Wrong : ChangeSpec := { name := "fnExactInvertPerm4", vars := ["loop.example/g00870/impl.perm4s"], fn := fun _ => fun
  | [d, g1] => { results := [.lit (.bool false)], args := [d], vars := [g1] }
  | _ => none }
def FnExactInvertPerm4WrongFalsely : Prop := fnExactInvertPerm4Row.holds Tryd.pinned (OpenSpec.ofChange fnExactInvertPerm4Wrong)

/-- 'laws.FnExactSignPerm4': WHATEVER THE INPUT: true; the input reads as it did. -/
def fnExactSignPerm4Spec : ChangeSpec := { name := "fnExactSignPerm4", vars := ["loop.example/g00870/impl.perm4s"], fn := fun _ => fun
  | [d, g1] => { results := [.lit (.bool true)], args := [d], vars := [g1] }
  | _ => none }
def fnExactSignPerm4Row : OpenClaim := { program := "ytoegfldpadpohaadoor", sum := "08f45ad03e54a879c2978cd414c7067277f9d47d7d333e9c6e1d706c68ce3eb7", func := "loop.example/g00870/laws.FnExactSignPerm4", spec := "fnExactSignPerm4", named := ["loop.example/g00870/impl.perm4s"], plainKeys := false, apart := false, laid := [("loop.example/g00870/impl.perm4s", laid_loop_example_g00870_impl_perm4s)] }
def FnExactSignPerm4Said : Prop := fnExactSignPerm4Row.holds Tryd.pinned (OpenSpec.ofChange fnExactSignPerm4Spec)

/-- ITS FALSE NEIGHBOUR: 'it returns false'. Refute it at one input. -/
def fnExactSignPerm4Wrong : ChangeSpec := { name := "fnExactSignPerm4", vars := ["loop.example/g00870/impl.perm4s"], fn := fun _ => fun
  | [d, g1] => { results := [.lit (.bool false)], args := [d], vars := [g1] }
  | _ => none }
def FnExactSignPerm4WrongFalsely : Prop := fnExactSignPerm4Row.holds Tryd.pinned (OpenSpec.ofChange fnExactSignPerm4Wrong)

/-- 'laws.FnExactOrderPerm4': WHATEVER THE INPUT: true; the input reads as it did. -/
def fnExactOrderPerm4Spec : ChangeSpec := { name := "fnExactOrderPerm4", vars := ["loop.example/g00870/impl.perm4s"], fn := fun _ => fun
  | [d, g1] => { results := [.lit (.bool true)], args := [d], vars := [g1] }
  | _ => none }
def fnExactOrderPerm4Row : OpenClaim := { program := "ytoegfldpadpohaadoor", sum := "08f45ad03e54a879c2978cd414c7067277f9d47d7d333e9c6e1d706c68ce3eb7", func := "loop.example/g00870/laws.FnExactOrderPerm4", spec := "fnExactOrderPerm4", named := ["loop.example/g00870/impl.perm4s"], plainKeys := false, apart := false, laid := [("loop.example/g00870/impl.perm4s", laid_loop_example_g00870_impl_perm4s)] }
def FnExactOrderPerm4Said : Prop := fnExactOrderPerm4Row.holds Tryd.pinned (OpenSpec.ofChange fnExactOrderPerm4Spec)

/-- ITS FALSE NEIGHBOUR: 'it returns false'. Refute it at one input. -/
def fnExactOrderPerm4Wrong : ChangeSpec := { name := "fnExactOrderPerm4", vars := ["loop.example/g00870/impl.perm4s"], fn := fun _ => fun
  | [d, g1] => { results := [.lit (.bool false)], args := [d], vars := [g1] }
  | _ => none }
def FnExactOrderPerm4WrongFalsely : Prop := fnExactOrderPerm4Row.holds Tryd.pinned (OpenSpec.ofChange fnExactOrderPerm4Wrong)

/-- 'laws.FnExactExtendPerm4': WHATEVER THE INPUT: true; the input reads as it did. -/
def fnExactExtendPerm4Spec : ChangeSpec := { name := "fnExactExtendPerm4", vars := ["loop.example/g00870/impl.perm4s"], fn := fun _ => fun
  | [d1, d2, g1] => { results := [.lit (.bool true)], args := [d1, d2], vars := [g1] }
  | _ => none }
def fnExactExtendPerm4Row : OpenClaim := { program := "ytoegfldpadpohaadoor", sum := "08f45ad03e54a879c2978cd414c7067277f9d47d7d333e9c6e1d706c68ce3eb7", func := "loop.example/g00870/laws.FnExactExtendPerm4", spec := "fnExactExtendPerm4", named := ["loop.example/g00870/impl.perm4s"], plainKeys := false, apart := false, laid := [("loop.example/g00870/impl.perm4s", laid_loop_example_g00870_impl_perm4s)] }
def FnExactExtendPerm4Said : Prop := fnExactExtendPerm4Row.holds Tryd.pinned (OpenSpec.ofChange fnExactExtendPerm4Spec)

/-- ITS FALSE NEIGHBOUR: 'it returns false'. Refute it at one input. -/
def fnExactExtendPerm4Wrong : ChangeSpec := { name := "fnExactExtendPerm4", vars := ["loop.example/g00870/impl.perm4s"], fn := fun _ => fun
  | [d1, d2, g1] => { results := [.lit (.bool false)], args := [d1, d2], vars := [g1] }
  | _ => none }
def FnExactExtendPerm4WrongFalsely : Prop := fnExactExtendPerm4Row.holds Tryd.pinned (OpenSpec.ofChange fnExactExtendPerm4Wrong)

/- THE SECOND FORM. 'bulk': how many values and letters a reading holds, each counted each time it is reached (what is shared counts as often as it is met; a slice's spare places count too). A statement '..UptoSaid' is the law's where the arguments, and the package variables that the reading takes, are together of bulk at most 1048576: NARROWER than '..Said'. Prove '..Said' where nothing that the law and all that it calls make is longer than what came in: it says more and counts as full. Else prove '..UptoSaid'. A law counts once. -/
mutual
def uptoBulk {H : Type} : DataW H → Nat
  | .lit (.string bytes) => bytes.length + 1
  | .lit _ => 1
  | .nil => 1
  | .ptr d => uptoBulk d + 1
  | .slice elems spare => uptoBulkAll elems + uptoBulkAll spare + 1
  | .agg parts => uptoBulkAll parts + 1
  | .iface _ d => uptoBulk d + 1
  | .map entries => uptoBulkEntries entries + 1
  | .held _ => 1
def uptoBulkAll {H : Type} : List (DataW H) → Nat
  | [] => 0
  | d :: r => uptoBulk d + uptoBulkAll r
def uptoBulkEntries {H : Type} : List (Lit × DataW H) → Nat
  | [] => 0
  | x :: r => uptoBulkEntry x + uptoBulkEntries r
def uptoBulkEntry {H : Type} : Lit × DataW H → Nat
  | (.string bytes, d) => bytes.length + uptoBulk d + 1
  | (_, d) => uptoBulk d + 1
 end
def uptoSmall : (H : Type) → List (DataW H) → Bool := fun _ ds => decide (uptoBulkAll ds ≤ 1048576)
def OpenSpec.upto (s : _root_.Go.ChangeSpec) : _root_.Go.OpenSpec := { _root_.Go.OpenSpec.ofChange s with cond := some uptoSmall }

/-- 'laws.FnPermGroup', WHERE WHAT IT READS IS OF BULK AT MOST 1048576: true; the input reads as it did. -/
def fnPermGroupUptoRow : OpenClaim := { program := "ytoegfldpadpohaadoor", sum := "08f45ad03e54a879c2978cd414c7067277f9d47d7d333e9c6e1d706c68ce3eb7", func := "loop.example/g00870/laws.FnPermGroup", spec := "fnPermGroup", named := ["loop.example/g00870/impl.perm4s"], plainKeys := false, apart := false, laid := [("loop.example/g00870/impl.perm4s", laid_loop_example_g00870_impl_perm4s)], narrowed := true }
def FnPermGroupUptoSaid : Prop := fnPermGroupUptoRow.holds Tryd.pinned (OpenSpec.upto fnPermGroupSpec)

/-- 'laws.FnExtend', WHERE WHAT IT READS IS OF BULK AT MOST 1048576: true; the input reads as it did. -/
def fnExtendUptoRow : OpenClaim := { program := "ytoegfldpadpohaadoor", sum := "08f45ad03e54a879c2978cd414c7067277f9d47d7d333e9c6e1d706c68ce3eb7", func := "loop.example/g00870/laws.FnExtend", spec := "fnExtend", named := ["loop.example/g00870/impl.perm4s"], plainKeys := false, apart := false, laid := [("loop.example/g00870/impl.perm4s", laid_loop_example_g00870_impl_perm4s)], narrowed := true }
def FnExtendUptoSaid : Prop := fnExtendUptoRow.holds Tryd.pinned (OpenSpec.upto fnExtendSpec)

/-- 'laws.FnExactPerm4', WHERE WHAT IT READS IS OF BULK AT MOST 1048576: true; the input reads as it did. -/
def fnExactPerm4UptoRow : OpenClaim := { program := "ytoegfldpadpohaadoor", sum := "08f45ad03e54a879c2978cd414c7067277f9d47d7d333e9c6e1d706c68ce3eb7", func := "loop.example/g00870/laws.FnExactPerm4", spec := "fnExactPerm4", named := ["loop.example/g00870/impl.perm4s"], plainKeys := false, apart := false, laid := [("loop.example/g00870/impl.perm4s", laid_loop_example_g00870_impl_perm4s)], narrowed := true }
def FnExactPerm4UptoSaid : Prop := fnExactPerm4UptoRow.holds Tryd.pinned (OpenSpec.upto fnExactPerm4Spec)

/-- 'laws.FnExactIndexOfPerm4', WHERE WHAT IT READS IS OF BULK AT MOST 1048576: true; the input reads as it did. -/
def fnExactIndexOfPerm4UptoRow : OpenClaim := { program := "ytoegfldpadpohaadoor", sum := "08f45ad03e54a879c2978cd414c7067277f9d47d7d333e9c6e1d706c68ce3eb7", func := "loop.example/g00870/laws.FnExactIndexOfPerm4", spec := "fnExactIndexOfPerm4", named := ["loop.example/g00870/impl.perm4s"], plainKeys := false, apart := false, laid := [("loop.example/g00870/impl.perm4s", laid_loop_example_g00870_impl_perm4s)], narrowed := true }
def FnExactIndexOfPerm4UptoSaid : Prop := fnExactIndexOfPerm4UptoRow.holds Tryd.pinned (OpenSpec.upto fnExactIndexOfPerm4Spec)

/-- 'laws.FnExactApplyPerm4', WHERE WHAT IT READS IS OF BULK AT MOST 1048576: true; the input reads as it did. -/
def fnExactApplyPerm4UptoRow : OpenClaim := { program := "ytoegfldpadpohaadoor", sum := "08f45ad03e54a879c2978cd414c7067277f9d47d7d333e9c6e1d706c68ce3eb7", func := "loop.example/g00870/laws.FnExactApplyPerm4", spec := "fnExactApplyPerm4", named := ["loop.example/g00870/impl.perm4s"], plainKeys := false, apart := false, laid := [("loop.example/g00870/impl.perm4s", laid_loop_example_g00870_impl_perm4s)], narrowed := true }
def FnExactApplyPerm4UptoSaid : Prop := fnExactApplyPerm4UptoRow.holds Tryd.pinned (OpenSpec.upto fnExactApplyPerm4Spec)

/-- 'laws.FnExactComposePerm4', WHERE WHAT IT READS IS OF BULK AT MOST 1048576: true; the input reads as it did. -/
def fnExactComposePerm4UptoRow : OpenClaim := { program := "ytoegfldpadpohaadoor", sum := "08f45ad03e54a879c2978cd414c7067277f9d47d7d333e9c6e1d706c68ce3eb7", func := "loop.example/g00870/laws.FnExactComposePerm4", spec := "fnExactComposePerm4", named := ["loop.example/g00870/impl.perm4s"], plainKeys := false, apart := false, laid := [("loop.example/g00870/impl.perm4s", laid_loop_example_g00870_impl_perm4s)], narrowed := true }
def FnExactComposePerm4UptoSaid : Prop := fnExactComposePerm4UptoRow.holds Tryd.pinned (OpenSpec.upto fnExactComposePerm4Spec)

/-- 'laws.FnExactInvertPerm4', WHERE WHAT IT READS IS OF BULK AT MOST 1048576: true; the input reads as it did. -/
def fnExactInvertPerm4UptoRow : OpenClaim := { program := "ytoegfldpadpohaadoor", sum := "08f45ad03e54a879c2978cd414c7067277f9d47d7d333e9c6e1d706c68ce3eb7", func := "loop.example/g00870/laws.FnExactInvertPerm4", spec := "fnExactInvertPerm4", named := ["loop.example/g00870/impl.perm4s"], plainKeys := false, apart := false, laid := [("loop.example/g00870/impl.perm4s", laid_loop_example_g00870_impl_perm4s)], narrowed := true }
def FnExactInvertPerm4UptoSaid : Prop := fnExactInvertPerm4UptoRow.holds Tryd.pinned (OpenSpec.upto fnExactInvertPerm4Spec)

/-- 'laws.FnExactSignPerm4', WHERE WHAT IT READS IS OF BULK AT MOST 1048576: true; the input reads as it did. -/
def fnExactSignPerm4UptoRow : OpenClaim := { program := "ytoegfldpadpohaadoor", sum := "08f45ad03e54a879c2978cd414c7067277f9d47d7d333e9c6e1d706c68ce3eb7", func := "loop.example/g00870/laws.FnExactSignPerm4", spec := "fnExactSignPerm4", named := ["loop.example/g00870/impl.perm4s"], plainKeys := false, apart := false, laid := [("loop.example/g00870/impl.perm4s", laid_loop_example_g00870_impl_perm4s)], narrowed := true }
def FnExactSignPerm4UptoSaid : Prop := fnExactSignPerm4UptoRow.holds Tryd.pinned (OpenSpec.upto fnExactSignPerm4Spec)

/-- 'laws.FnExactOrderPerm4', WHERE WHAT IT READS IS OF BULK AT MOST 1048576: true; the input reads as it did. -/
def fnExactOrderPerm4UptoRow : OpenClaim := { program := "ytoegfldpadpohaadoor", sum := "08f45ad03e54a879c2978cd414c7067277f9d47d7d333e9c6e1d706c68ce3eb7", func := "loop.example/g00870/laws.FnExactOrderPerm4", spec := "fnExactOrderPerm4", named := ["loop.example/g00870/impl.perm4s"], plainKeys := false, apart := false, laid := [("loop.example/g00870/impl.perm4s", laid_loop_example_g00870_impl_perm4s)], narrowed := true }
def FnExactOrderPerm4UptoSaid : Prop := fnExactOrderPerm4UptoRow.holds Tryd.pinned (OpenSpec.upto fnExactOrderPerm4Spec)

/-- 'laws.FnExactExtendPerm4', WHERE WHAT IT READS IS OF BULK AT MOST 1048576: true; the input reads as it did. -/
def fnExactExtendPerm4UptoRow : OpenClaim := { program := "ytoegfldpadpohaadoor", sum := "08f45ad03e54a879c2978cd414c7067277f9d47d7d333e9c6e1d706c68ce3eb7", func := "loop.example/g00870/laws.FnExactExtendPerm4", spec := "fnExactExtendPerm4", named := ["loop.example/g00870/impl.perm4s"], plainKeys := false, apart := false, laid := [("loop.example/g00870/impl.perm4s", laid_loop_example_g00870_impl_perm4s)], narrowed := true }
def FnExactExtendPerm4UptoSaid : Prop := fnExactExtendPerm4UptoRow.holds Tryd.pinned (OpenSpec.upto fnExactExtendPerm4Spec)

end Rows
end Go.Proofs.YtoegfldpadpohaaDoor
