/-
  No cell of these rows narrows 'for every input' (looked for: loops, veiled, ifaces, maps, wideKeys, modest, calm, conditions, laid).
  DERIVED. THE GIVEN ROWS OF THIS SEAT. 10 by the template 'for every input the law returns true; each argument reads behind the call as it read before'; 0 by the template 'total and deterministic' (their statements: YtakokhfnllpahaaTotals.lean).
  GIVEN WITH THE SEED: the statements are not yours to turn. If you find one false, say at which input.
  Laid BY PROGRAM, IN A SANDBOX (cutbox-rows.mjs): the forced cells as the released guide's own fill.sh prints them over the translation 7cf1e2565f85d614… (all of the seat's roots in one cut). By AI agents, Wed Nov 11 2026. No macro, syntax, notation, axiom, sorry.
-/
import Derived.Test.YtakokhfnllpahaaChecked
import GoSem.Claim
import GoSem.ClaimJoined
import GoSem.ClaimMapViews
import Derived.JoinedTies
import Derived.KernelRfl
namespace Go.Proofs.Ytakokhfnllpahaa
/- THE CELL 'sum', in the pinned program and in every row, IS THE sha256 OF THE DUMP (.gsa) THAT YtakokhfnllpahaaProg.lean LOADS. Nothing in Lean hashes anything: it is a label: what it is worth is what the hold of that sum in a sandbox is worth. -/
noncomputable def Try.pinned : Pinned := { name := "ytakokhfnllpahaa", sum := "7cf1e2565f85d614419dff6c97285408fd7e85e1f3f73a944ae7cb85284bfd1e", checked := Try.checked }
namespace Rows
def none {H : Type} : Left H := { results := [], args := [] }

/-- 'laws.FnRepresentations': WHATEVER THE INPUT: true; the input reads as it did. -/
def fnRepresentationsSpec : ChangeSpec := { name := "fnRepresentations", fn := fun _ => fun
  | [d] => { results := [.lit (.bool true)], args := [d] }
  | _ => none }
def fnRepresentationsRow : OpenClaim := { program := "ytakokhfnllpahaa", sum := "7cf1e2565f85d614419dff6c97285408fd7e85e1f3f73a944ae7cb85284bfd1e", func := "loop.example/g00870/laws.FnRepresentations", spec := "fnRepresentations", unfollowed := true, recurses := true, apart := false }
def FnRepresentationsSaid : Prop := fnRepresentationsRow.holds Try.pinned (OpenSpec.ofChange fnRepresentationsSpec)

/-- ITS FALSE NEIGHBOUR: 'it returns false'. Refute it at one input. -/
def fnRepresentationsWrong : ChangeSpec := { name := "fnRepresentations", fn := fun _ => fun
  | [d] => { results := [.lit (.bool false)], args := [d] }
  | _ => none }
def FnRepresentationsWrongFalsely : Prop := fnRepresentationsRow.holds Try.pinned (OpenSpec.ofChange fnRepresentationsWrong)

/-- 'laws.FnSubgroups': WHATEVER THE INPUT: true; the input reads as it did. -/
def fnSubgroupsSpec : ChangeSpec := { name := "fnSubgroups", fn := fun _ => fun
  | [d] => { results := [.lit (.bool true)], args := [d] }
  | _ => none }
def fnSubgroupsRow : OpenClaim := { program := "ytakokhfnllpahaa", sum := "7cf1e2565f85d614419dff6c97285408fd7e85e1f3f73a944ae7cb85284bfd1e", func := "loop.example/g00870/laws.FnSubgroups", spec := "fnSubgroups", unfollowed := true, recurses := true, apart := false }
def FnSubgroupsSaid : Prop := fnSubgroupsRow.holds Try.pinned (OpenSpec.ofChange fnSubgroupsSpec)

/-- ITS FALSE NEIGHBOUR: 'it returns false'. Refute it at one input. -/
def fnSubgroupsWrong : ChangeSpec := { name := "fnSubgroups", fn := fun _ => fun
  | [d] => { results := [.lit (.bool false)], args := [d] }
  | _ => none }
def FnSubgroupsWrongFalsely : Prop := fnSubgroupsRow.holds Try.pinned (OpenSpec.ofChange fnSubgroupsWrong)

/-- 'laws.FnExactIsRepresentation': WHATEVER THE INPUT: true; the input reads as it did. -/
def fnExactIsRepresentationSpec : ChangeSpec := { name := "fnExactIsRepresentation", fn := fun _ => fun
  | [d1, d2, d3] => { results := [.lit (.bool true)], args := [d1, d2, d3] }
  | _ => none }
def fnExactIsRepresentationRow : OpenClaim := { program := "ytakokhfnllpahaa", sum := "7cf1e2565f85d614419dff6c97285408fd7e85e1f3f73a944ae7cb85284bfd1e", func := "loop.example/g00870/laws.FnExactIsRepresentation", spec := "fnExactIsRepresentation", apart := false }
def FnExactIsRepresentationSaid : Prop := fnExactIsRepresentationRow.holds Try.pinned (OpenSpec.ofChange fnExactIsRepresentationSpec)

/-- ITS FALSE NEIGHBOUR: 'it returns false'. Refute it at one input. -/
def fnExactIsRepresentationWrong : ChangeSpec := { name := "fnExactIsRepresentation", fn := fun _ => fun
  | [d1, d2, d3] => { results := [.lit (.bool false)], args := [d1, d2, d3] }
  | _ => none }
def FnExactIsRepresentationWrongFalsely : Prop := fnExactIsRepresentationRow.holds Try.pinned (OpenSpec.ofChange fnExactIsRepresentationWrong)

/-- 'laws.FnExactWordAction': WHATEVER THE INPUT: true; the input reads as it did. -/
def fnExactWordActionSpec : ChangeSpec := { name := "fnExactWordAction", fn := fun _ => fun
  | [d1, d2, d3] => { results := [.lit (.bool true)], args := [d1, d2, d3] }
  | _ => none }
def fnExactWordActionRow : OpenClaim := { program := "ytakokhfnllpahaa", sum := "7cf1e2565f85d614419dff6c97285408fd7e85e1f3f73a944ae7cb85284bfd1e", func := "loop.example/g00870/laws.FnExactWordAction", spec := "fnExactWordAction", apart := false }
def FnExactWordActionSaid : Prop := fnExactWordActionRow.holds Try.pinned (OpenSpec.ofChange fnExactWordActionSpec)

/-- ITS FALSE NEIGHBOUR: 'it returns false'. Refute it at one input. -/
def fnExactWordActionWrong : ChangeSpec := { name := "fnExactWordAction", fn := fun _ => fun
  | [d1, d2, d3] => { results := [.lit (.bool false)], args := [d1, d2, d3] }
  | _ => none }
def FnExactWordActionWrongFalsely : Prop := fnExactWordActionRow.holds Try.pinned (OpenSpec.ofChange fnExactWordActionWrong)

/-- 'laws.FnExactRepresentationCount': WHATEVER THE INPUT: true; the input reads as it did. -/
def fnExactRepresentationCountSpec : ChangeSpec := { name := "fnExactRepresentationCount", fn := fun _ => fun
  | [d1, d2] => { results := [.lit (.bool true)], args := [d1, d2] }
  | _ => none }
def fnExactRepresentationCountRow : OpenClaim := { program := "ytakokhfnllpahaa", sum := "7cf1e2565f85d614419dff6c97285408fd7e85e1f3f73a944ae7cb85284bfd1e", func := "loop.example/g00870/laws.FnExactRepresentationCount", spec := "fnExactRepresentationCount", unfollowed := true, recurses := true, apart := false }
def FnExactRepresentationCountSaid : Prop := fnExactRepresentationCountRow.holds Try.pinned (OpenSpec.ofChange fnExactRepresentationCountSpec)

/-- ITS FALSE NEIGHBOUR: 'it returns false'. Refute it at one input. -/
def fnExactRepresentationCountWrong : ChangeSpec := { name := "fnExactRepresentationCount", fn := fun _ => fun
  | [d1, d2] => { results := [.lit (.bool false)], args := [d1, d2] }
  | _ => none }
def FnExactRepresentationCountWrongFalsely : Prop := fnExactRepresentationCountRow.holds Try.pinned (OpenSpec.ofChange fnExactRepresentationCountWrong)

/-- 'laws.FnExactRepresentationAt': WHATEVER THE INPUT: true; the input reads as it did. -/
def fnExactRepresentationAtSpec : ChangeSpec := { name := "fnExactRepresentationAt", fn := fun _ => fun
  | [d1, d2, d3] => { results := [.lit (.bool true)], args := [d1, d2, d3] }
  | _ => none }
def fnExactRepresentationAtRow : OpenClaim := { program := "ytakokhfnllpahaa", sum := "7cf1e2565f85d614419dff6c97285408fd7e85e1f3f73a944ae7cb85284bfd1e", func := "loop.example/g00870/laws.FnExactRepresentationAt", spec := "fnExactRepresentationAt", unfollowed := true, recurses := true, apart := false }
def FnExactRepresentationAtSaid : Prop := fnExactRepresentationAtRow.holds Try.pinned (OpenSpec.ofChange fnExactRepresentationAtSpec)

/-- ITS FALSE NEIGHBOUR: 'it returns false'. Refute it at one input. -/
def fnExactRepresentationAtWrong : ChangeSpec := { name := "fnExactRepresentationAt", fn := fun _ => fun
  | [d1, d2, d3] => { results := [.lit (.bool false)], args := [d1, d2, d3] }
  | _ => none }
def FnExactRepresentationAtWrongFalsely : Prop := fnExactRepresentationAtRow.holds Try.pinned (OpenSpec.ofChange fnExactRepresentationAtWrong)

/-- 'laws.FnExactOrbitsOf': WHATEVER THE INPUT: true; the input reads as it did. -/
def fnExactOrbitsOfSpec : ChangeSpec := { name := "fnExactOrbitsOf", fn := fun _ => fun
  | [d1, d2] => { results := [.lit (.bool true)], args := [d1, d2] }
  | _ => none }
def fnExactOrbitsOfRow : OpenClaim := { program := "ytakokhfnllpahaa", sum := "7cf1e2565f85d614419dff6c97285408fd7e85e1f3f73a944ae7cb85284bfd1e", func := "loop.example/g00870/laws.FnExactOrbitsOf", spec := "fnExactOrbitsOf", recurses := true, apart := false }
def FnExactOrbitsOfSaid : Prop := fnExactOrbitsOfRow.holds Try.pinned (OpenSpec.ofChange fnExactOrbitsOfSpec)

/-- ITS FALSE NEIGHBOUR: 'it returns false'. Refute it at one input. -/
def fnExactOrbitsOfWrong : ChangeSpec := { name := "fnExactOrbitsOf", fn := fun _ => fun
  | [d1, d2] => { results := [.lit (.bool false)], args := [d1, d2] }
  | _ => none }
def FnExactOrbitsOfWrongFalsely : Prop := fnExactOrbitsOfRow.holds Try.pinned (OpenSpec.ofChange fnExactOrbitsOfWrong)

/-- 'laws.FnExactTransitiveCount': WHATEVER THE INPUT: true; the input reads as it did. -/
def fnExactTransitiveCountSpec : ChangeSpec := { name := "fnExactTransitiveCount", fn := fun _ => fun
  | [d1, d2] => { results := [.lit (.bool true)], args := [d1, d2] }
  | _ => none }
def fnExactTransitiveCountRow : OpenClaim := { program := "ytakokhfnllpahaa", sum := "7cf1e2565f85d614419dff6c97285408fd7e85e1f3f73a944ae7cb85284bfd1e", func := "loop.example/g00870/laws.FnExactTransitiveCount", spec := "fnExactTransitiveCount", unfollowed := true, recurses := true, apart := false }
def FnExactTransitiveCountSaid : Prop := fnExactTransitiveCountRow.holds Try.pinned (OpenSpec.ofChange fnExactTransitiveCountSpec)

/-- ITS FALSE NEIGHBOUR: 'it returns false'. Refute it at one input. -/
def fnExactTransitiveCountWrong : ChangeSpec := { name := "fnExactTransitiveCount", fn := fun _ => fun
  | [d1, d2] => { results := [.lit (.bool false)], args := [d1, d2] }
  | _ => none }
def FnExactTransitiveCountWrongFalsely : Prop := fnExactTransitiveCountRow.holds Try.pinned (OpenSpec.ofChange fnExactTransitiveCountWrong)

/-- 'laws.FnExactSubgroupCount': WHATEVER THE INPUT: true; the input reads as it did. -/
def fnExactSubgroupCountSpec : ChangeSpec := { name := "fnExactSubgroupCount", fn := fun _ => fun
  | [d1, d2] => { results := [.lit (.bool true)], args := [d1, d2] }
  | _ => none }
def fnExactSubgroupCountRow : OpenClaim := { program := "ytakokhfnllpahaa", sum := "7cf1e2565f85d614419dff6c97285408fd7e85e1f3f73a944ae7cb85284bfd1e", func := "loop.example/g00870/laws.FnExactSubgroupCount", spec := "fnExactSubgroupCount", unfollowed := true, recurses := true, apart := false }
def FnExactSubgroupCountSaid : Prop := fnExactSubgroupCountRow.holds Try.pinned (OpenSpec.ofChange fnExactSubgroupCountSpec)

/-- ITS FALSE NEIGHBOUR: 'it returns false'. Refute it at one input. -/
def fnExactSubgroupCountWrong : ChangeSpec := { name := "fnExactSubgroupCount", fn := fun _ => fun
  | [d1, d2] => { results := [.lit (.bool false)], args := [d1, d2] }
  | _ => none }
def FnExactSubgroupCountWrongFalsely : Prop := fnExactSubgroupCountRow.holds Try.pinned (OpenSpec.ofChange fnExactSubgroupCountWrong)

/-- 'laws.FnExactStabilizerPresentation': WHATEVER THE INPUT: true; the input reads as it did. -/
def fnExactStabilizerPresentationSpec : ChangeSpec := { name := "fnExactStabilizerPresentation", fn := fun _ => fun
  | [d1, d2, d3] => { results := [.lit (.bool true)], args := [d1, d2, d3] }
  | _ => none }
def fnExactStabilizerPresentationRow : OpenClaim := { program := "ytakokhfnllpahaa", sum := "7cf1e2565f85d614419dff6c97285408fd7e85e1f3f73a944ae7cb85284bfd1e", func := "loop.example/g00870/laws.FnExactStabilizerPresentation", spec := "fnExactStabilizerPresentation", apart := false }
def FnExactStabilizerPresentationSaid : Prop := fnExactStabilizerPresentationRow.holds Try.pinned (OpenSpec.ofChange fnExactStabilizerPresentationSpec)

/-- ITS FALSE NEIGHBOUR: 'it returns false'. Refute it at one input. -/
def fnExactStabilizerPresentationWrong : ChangeSpec := { name := "fnExactStabilizerPresentation", fn := fun _ => fun
  | [d1, d2, d3] => { results := [.lit (.bool false)], args := [d1, d2, d3] }
  | _ => none }
def FnExactStabilizerPresentationWrongFalsely : Prop := fnExactStabilizerPresentationRow.holds Try.pinned (OpenSpec.ofChange fnExactStabilizerPresentationWrong)

/- THE SECOND FORM. 'bulk': how many values and letters a reading holds, each counted each time it is reached (what is shared counts as often as it is met; a slice's spare places count too). A statement '..UptoSaid' is the law's where the arguments, and the package variables that the reading takes, are together of bulk at most 1048576: NARROWER than '..Said'. Prove '..Said' where nothing that the law and all that it calls make is longer than what came in: it says more and counts as full. Else prove '..UptoSaid'. A law counts once. -/
mutual
def uptoBulk {H : Type} : DataW H → Nat
  | .lit (.string bytes) => bytes.length + 1
  | .lit _ => 1
  | .nil => 1
  | .ptr d => uptoBulk d + 1
  | .slice elems spare => uptoBulkAll elems + uptoBulkAll spare + 1
  | .agg parts => uptoBulkAll parts + 1
  | .iface _ d => uptoBulk d + 1
  | .map entries => uptoBulkEntries entries + 1
  | .held _ => 1
def uptoBulkAll {H : Type} : List (DataW H) → Nat
  | [] => 0
  | d :: r => uptoBulk d + uptoBulkAll r
def uptoBulkEntries {H : Type} : List (Lit × DataW H) → Nat
  | [] => 0
  | x :: r => uptoBulkEntry x + uptoBulkEntries r
def uptoBulkEntry {H : Type} : Lit × DataW H → Nat
  | (.string bytes, d) => bytes.length + uptoBulk d + 1
  | (_, d) => uptoBulk d + 1
 end
def uptoSmall : (H : Type) → List (DataW H) → Bool := fun _ ds => decide (uptoBulkAll ds ≤ 1048576)
def OpenSpec.upto (s : _root_.Go.ChangeSpec) : _root_.Go.OpenSpec := { _root_.Go.OpenSpec.ofChange s with cond := some uptoSmall }

/-- 'laws.FnRepresentations', WHERE WHAT IT READS IS OF BULK AT MOST 1048576: true; the input reads as it did. -/
def fnRepresentationsUptoRow : OpenClaim := { program := "ytakokhfnllpahaa", sum := "7cf1e2565f85d614419dff6c97285408fd7e85e1f3f73a944ae7cb85284bfd1e", func := "loop.example/g00870/laws.FnRepresentations", spec := "fnRepresentations", unfollowed := true, recurses := true, apart := false, narrowed := true }
def FnRepresentationsUptoSaid : Prop := fnRepresentationsUptoRow.holds Try.pinned (OpenSpec.upto fnRepresentationsSpec)

/-- 'laws.FnSubgroups', WHERE WHAT IT READS IS OF BULK AT MOST 1048576: true; the input reads as it did. -/
def fnSubgroupsUptoRow : OpenClaim := { program := "ytakokhfnllpahaa", sum := "7cf1e2565f85d614419dff6c97285408fd7e85e1f3f73a944ae7cb85284bfd1e", func := "loop.example/g00870/laws.FnSubgroups", spec := "fnSubgroups", unfollowed := true, recurses := true, apart := false, narrowed := true }
def FnSubgroupsUptoSaid : Prop := fnSubgroupsUptoRow.holds Try.pinned (OpenSpec.upto fnSubgroupsSpec)

/-- 'laws.FnExactIsRepresentation', WHERE WHAT IT READS IS OF BULK AT MOST 1048576: true; the input reads as it did. -/
def fnExactIsRepresentationUptoRow : OpenClaim := { program := "ytakokhfnllpahaa", sum := "7cf1e2565f85d614419dff6c97285408fd7e85e1f3f73a944ae7cb85284bfd1e", func := "loop.example/g00870/laws.FnExactIsRepresentation", spec := "fnExactIsRepresentation", apart := false, narrowed := true }
def FnExactIsRepresentationUptoSaid : Prop := fnExactIsRepresentationUptoRow.holds Try.pinned (OpenSpec.upto fnExactIsRepresentationSpec)

/-- 'laws.FnExactWordAction', WHERE WHAT IT READS IS OF BULK AT MOST 1048576: true; the input reads as it did. -/
def fnExactWordActionUptoRow : OpenClaim := { program := "ytakokhfnllpahaa", sum := "7cf1e2565f85d614419dff6c97285408fd7e85e1f3f73a944ae7cb85284bfd1e", func := "loop.example/g00870/laws.FnExactWordAction", spec := "fnExactWordAction", apart := false, narrowed := true }
def FnExactWordActionUptoSaid : Prop := fnExactWordActionUptoRow.holds Try.pinned (OpenSpec.upto fnExactWordActionSpec)

/-- 'laws.FnExactRepresentationCount', WHERE WHAT IT READS IS OF BULK AT MOST 1048576: true; the input reads as it did. -/
def fnExactRepresentationCountUptoRow : OpenClaim := { program := "ytakokhfnllpahaa", sum := "7cf1e2565f85d614419dff6c97285408fd7e85e1f3f73a944ae7cb85284bfd1e", func := "loop.example/g00870/laws.FnExactRepresentationCount", spec := "fnExactRepresentationCount", unfollowed := true, recurses := true, apart := false, narrowed := true }
def FnExactRepresentationCountUptoSaid : Prop := fnExactRepresentationCountUptoRow.holds Try.pinned (OpenSpec.upto fnExactRepresentationCountSpec)

/-- 'laws.FnExactRepresentationAt', WHERE WHAT IT READS IS OF BULK AT MOST 1048576: true; the input reads as it did. -/
def fnExactRepresentationAtUptoRow : OpenClaim := { program := "ytakokhfnllpahaa", sum := "7cf1e2565f85d614419dff6c97285408fd7e85e1f3f73a944ae7cb85284bfd1e", func := "loop.example/g00870/laws.FnExactRepresentationAt", spec := "fnExactRepresentationAt", unfollowed := true, recurses := true, apart := false, narrowed := true }
def FnExactRepresentationAtUptoSaid : Prop := fnExactRepresentationAtUptoRow.holds Try.pinned (OpenSpec.upto fnExactRepresentationAtSpec)

/-- 'laws.FnExactOrbitsOf', WHERE WHAT IT READS IS OF BULK AT MOST 1048576: true; the input reads as it did. -/
def fnExactOrbitsOfUptoRow : OpenClaim := { program := "ytakokhfnllpahaa", sum := "7cf1e2565f85d614419dff6c97285408fd7e85e1f3f73a944ae7cb85284bfd1e", func := "loop.example/g00870/laws.FnExactOrbitsOf", spec := "fnExactOrbitsOf", recurses := true, apart := false, narrowed := true }
def FnExactOrbitsOfUptoSaid : Prop := fnExactOrbitsOfUptoRow.holds Try.pinned (OpenSpec.upto fnExactOrbitsOfSpec)

/-- 'laws.FnExactTransitiveCount', WHERE WHAT IT READS IS OF BULK AT MOST 1048576: true; the input reads as it did. -/
def fnExactTransitiveCountUptoRow : OpenClaim := { program := "ytakokhfnllpahaa", sum := "7cf1e2565f85d614419dff6c97285408fd7e85e1f3f73a944ae7cb85284bfd1e", func := "loop.example/g00870/laws.FnExactTransitiveCount", spec := "fnExactTransitiveCount", unfollowed := true, recurses := true, apart := false, narrowed := true }
def FnExactTransitiveCountUptoSaid : Prop := fnExactTransitiveCountUptoRow.holds Try.pinned (OpenSpec.upto fnExactTransitiveCountSpec)

/-- 'laws.FnExactSubgroupCount', WHERE WHAT IT READS IS OF BULK AT MOST 1048576: true; the input reads as it did. -/
def fnExactSubgroupCountUptoRow : OpenClaim := { program := "ytakokhfnllpahaa", sum := "7cf1e2565f85d614419dff6c97285408fd7e85e1f3f73a944ae7cb85284bfd1e", func := "loop.example/g00870/laws.FnExactSubgroupCount", spec := "fnExactSubgroupCount", unfollowed := true, recurses := true, apart := false, narrowed := true }
def FnExactSubgroupCountUptoSaid : Prop := fnExactSubgroupCountUptoRow.holds Try.pinned (OpenSpec.upto fnExactSubgroupCountSpec)

/-- 'laws.FnExactStabilizerPresentation', WHERE WHAT IT READS IS OF BULK AT MOST 1048576: true; the input reads as it did. -/
def fnExactStabilizerPresentationUptoRow : OpenClaim := { program := "ytakokhfnllpahaa", sum := "7cf1e2565f85d614419dff6c97285408fd7e85e1f3f73a944ae7cb85284bfd1e", func := "loop.example/g00870/laws.FnExactStabilizerPresentation", spec := "fnExactStabilizerPresentation", apart := false, narrowed := true }
def FnExactStabilizerPresentationUptoSaid : Prop := fnExactStabilizerPresentationUptoRow.holds Try.pinned (OpenSpec.upto fnExactStabilizerPresentationSpec)

end Rows
end Go.Proofs.Ytakokhfnllpahaa
