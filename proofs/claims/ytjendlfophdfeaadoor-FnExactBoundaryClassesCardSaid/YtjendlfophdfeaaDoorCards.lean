/-
  DERIVED. GIVEN WITH THE SEED: THE CARDS: each row of YtjendlfophdfeaaDoorRows.lean that lists a variable, with what it lists TIED to the program's text (the seventh form; the later family's looks); each row that meets fmt, with fmt's text TOLD by the authors' own Lean function (tested against real Go, not proved from fmt's source: count such statements apart). THE CARD IS WHAT COUNTS. Prove the row's statement (the work); the ties are given (YtjendlfophdfeaaDoorTie.lean); close each card by the builder's one call (the guide's Derived/Test/ToyasCard.lean, 'card_holds'). Laid BY PROGRAM, IN A SANDBOX (cutbox-door.mjs). By AI agents, Wed Nov 11 2026. No macro, syntax, notation, axiom, sorry.
-/
import Derived.Test.YtjendlfophdfeaaDoorRows
import GoSem.ClaimSeven
namespace Go.Proofs.YtjendlfophdfeaaDoor
namespace Rows

/-- THE TIED CARD OF 'laws.FnExactTriangulationText'. -/
def fnExactTriangulationTextCard : Claim7 := { stood := { row := fnExactTriangulationTextRow, standIns := [], harness := (true, "5da7cfe6b80502215dd31fe767ee36478d530035caf75b0ee99356460853feb8"), looks := true }, kinds := [], alts := [], laidByText := true, laidKinds := [.data, .data, .data, .wider, .data], laidTests := true, laidLooks := .later }
def FnExactTriangulationTextCardSaid : Prop := Claim7.holds Tryd.pinned (.plain (OpenSpec.ofChange fnExactTriangulationTextSpec)) fnExactTriangulationTextCard

/-- THE TIED CARD OF 'laws.FnExactReadTriangulation'. -/
def fnExactReadTriangulationCard : Claim7 := { stood := { row := fnExactReadTriangulationRow, standIns := [], harness := (true, "5da7cfe6b80502215dd31fe767ee36478d530035caf75b0ee99356460853feb8"), looks := true }, kinds := [], alts := [], laidByText := true, laidKinds := [.data, .data, .data, .data, .sentinel, .sentinel, .wider, .data, .pinned], laidTests := true, laidLooks := .later }
def FnExactReadTriangulationCardSaid : Prop := Claim7.holds Tryd.pinned (.plain (OpenSpec.ofChange fnExactReadTriangulationSpec)) fnExactReadTriangulationCard

/-- THE TIED CARD OF 'laws.FnGlue'. -/
def fnGlueCard : Claim7 := { stood := { row := fnGlueRow, standIns := [], harness := (true, "5da7cfe6b80502215dd31fe767ee36478d530035caf75b0ee99356460853feb8"), looks := true }, kinds := [], alts := [], laidByText := true, laidKinds := [.wider, .data], laidTests := true, laidLooks := .later }
def FnGlueCardSaid : Prop := Claim7.holds Tryd.pinned (.plain (OpenSpec.ofChange fnGlueSpec)) fnGlueCard

/-- THE TIED CARD OF 'laws.FnRelabel'. -/
def fnRelabelCard : Claim7 := { stood := { row := fnRelabelRow, standIns := [], harness := (true, "5da7cfe6b80502215dd31fe767ee36478d530035caf75b0ee99356460853feb8"), looks := true }, kinds := [], alts := [], laidByText := true, laidKinds := [.wider, .data], laidTests := true, laidLooks := .later }
def FnRelabelCardSaid : Prop := Claim7.holds Tryd.pinned (.plain (OpenSpec.ofChange fnRelabelSpec)) fnRelabelCard

/-- THE TIED CARD OF 'laws.FnExactSkeletonOf'. -/
def fnExactSkeletonOfCard : Claim7 := { stood := { row := fnExactSkeletonOfRow, standIns := [], harness := (true, "5da7cfe6b80502215dd31fe767ee36478d530035caf75b0ee99356460853feb8"), looks := true }, kinds := [], alts := [], laidByText := true, laidKinds := [.wider, .data, .data, .data], laidTests := true, laidLooks := .later }
def FnExactSkeletonOfCardSaid : Prop := Claim7.holds Tryd.pinned (.plain (OpenSpec.ofChange fnExactSkeletonOfSpec)) fnExactSkeletonOfCard

/-- THE TIED CARD OF 'laws.FnExactClassCounts'. -/
def fnExactClassCountsCard : Claim7 := { stood := { row := fnExactClassCountsRow, standIns := [], harness := (true, "5da7cfe6b80502215dd31fe767ee36478d530035caf75b0ee99356460853feb8"), looks := true }, kinds := [], alts := [], laidByText := true, laidKinds := [.wider, .data, .data, .data], laidTests := true, laidLooks := .later }
def FnExactClassCountsCardSaid : Prop := Claim7.holds Tryd.pinned (.plain (OpenSpec.ofChange fnExactClassCountsSpec)) fnExactClassCountsCard

/-- THE TIED CARD OF 'laws.FnExactEulerOf'. -/
def fnExactEulerOfCard : Claim7 := { stood := { row := fnExactEulerOfRow, standIns := [], harness := (true, "5da7cfe6b80502215dd31fe767ee36478d530035caf75b0ee99356460853feb8"), looks := true }, kinds := [], alts := [], laidByText := true, laidKinds := [.wider, .data, .data, .data], laidTests := true, laidLooks := .later }
def FnExactEulerOfCardSaid : Prop := Claim7.holds Tryd.pinned (.plain (OpenSpec.ofChange fnExactEulerOfSpec)) fnExactEulerOfCard

/-- THE TIED CARD OF 'laws.FnExactEdgeSigns'. -/
def fnExactEdgeSignsCard : Claim7 := { stood := { row := fnExactEdgeSignsRow, standIns := [], harness := (true, "5da7cfe6b80502215dd31fe767ee36478d530035caf75b0ee99356460853feb8"), looks := true }, kinds := [], alts := [], laidByText := true, laidKinds := [.wider, .data, .data, .data], laidTests := true, laidLooks := .later }
def FnExactEdgeSignsCardSaid : Prop := Claim7.holds Tryd.pinned (.plain (OpenSpec.ofChange fnExactEdgeSignsSpec)) fnExactEdgeSignsCard

/-- THE TIED CARD OF 'laws.FnExactIsReversedEdge'. -/
def fnExactIsReversedEdgeCard : Claim7 := { stood := { row := fnExactIsReversedEdgeRow, standIns := [], harness := (true, "5da7cfe6b80502215dd31fe767ee36478d530035caf75b0ee99356460853feb8"), looks := true }, kinds := [], alts := [], laidByText := true, laidKinds := [.wider, .data, .data, .data], laidTests := true, laidLooks := .later }
def FnExactIsReversedEdgeCardSaid : Prop := Claim7.holds Tryd.pinned (.plain (OpenSpec.ofChange fnExactIsReversedEdgeSpec)) fnExactIsReversedEdgeCard

/-- THE TIED CARD OF 'laws.FnExactEdgeRing'. -/
def fnExactEdgeRingCard : Claim7 := { stood := { row := fnExactEdgeRingRow, standIns := [], harness := (true, "5da7cfe6b80502215dd31fe767ee36478d530035caf75b0ee99356460853feb8"), looks := true }, kinds := [], alts := [], laidByText := true, laidKinds := [.wider, .data, .data, .data], laidTests := true, laidLooks := .later }
def FnExactEdgeRingCardSaid : Prop := Claim7.holds Tryd.pinned (.plain (OpenSpec.ofChange fnExactEdgeRingSpec)) fnExactEdgeRingCard

/-- THE TIED CARD OF 'laws.FnExactBoundaryClasses'. -/
def fnExactBoundaryClassesCard : Claim7 := { stood := { row := fnExactBoundaryClassesRow, standIns := [], harness := (true, "5da7cfe6b80502215dd31fe767ee36478d530035caf75b0ee99356460853feb8"), looks := true }, kinds := [], alts := [], laidByText := true, laidKinds := [.wider, .data, .data, .data], laidTests := true, laidLooks := .later }
def FnExactBoundaryClassesCardSaid : Prop := Claim7.holds Tryd.pinned (.plain (OpenSpec.ofChange fnExactBoundaryClassesSpec)) fnExactBoundaryClassesCard

/-- THE SECOND FORM's CARD OF 'laws.FnExactTriangulationText'. -/
def fnExactTriangulationTextUptoCard : Claim7 := { stood := { row := fnExactTriangulationTextUptoRow, standIns := [], harness := (true, "5da7cfe6b80502215dd31fe767ee36478d530035caf75b0ee99356460853feb8"), looks := true }, kinds := [], alts := [], laidByText := true, laidKinds := [.data, .data, .data, .wider, .data], laidTests := true, laidLooks := .later }
def FnExactTriangulationTextUptoCardSaid : Prop := Claim7.holds Tryd.pinned (.plain (OpenSpec.upto fnExactTriangulationTextSpec)) fnExactTriangulationTextUptoCard

/-- THE SECOND FORM's CARD OF 'laws.FnExactReadTriangulation'. -/
def fnExactReadTriangulationUptoCard : Claim7 := { stood := { row := fnExactReadTriangulationUptoRow, standIns := [], harness := (true, "5da7cfe6b80502215dd31fe767ee36478d530035caf75b0ee99356460853feb8"), looks := true }, kinds := [], alts := [], laidByText := true, laidKinds := [.data, .data, .data, .data, .sentinel, .sentinel, .wider, .data, .pinned], laidTests := true, laidLooks := .later }
def FnExactReadTriangulationUptoCardSaid : Prop := Claim7.holds Tryd.pinned (.plain (OpenSpec.upto fnExactReadTriangulationSpec)) fnExactReadTriangulationUptoCard

/-- THE SECOND FORM's CARD OF 'laws.FnGlue'. -/
def fnGlueUptoCard : Claim7 := { stood := { row := fnGlueUptoRow, standIns := [], harness := (true, "5da7cfe6b80502215dd31fe767ee36478d530035caf75b0ee99356460853feb8"), looks := true }, kinds := [], alts := [], laidByText := true, laidKinds := [.wider, .data], laidTests := true, laidLooks := .later }
def FnGlueUptoCardSaid : Prop := Claim7.holds Tryd.pinned (.plain (OpenSpec.upto fnGlueSpec)) fnGlueUptoCard

/-- THE SECOND FORM's CARD OF 'laws.FnRelabel'. -/
def fnRelabelUptoCard : Claim7 := { stood := { row := fnRelabelUptoRow, standIns := [], harness := (true, "5da7cfe6b80502215dd31fe767ee36478d530035caf75b0ee99356460853feb8"), looks := true }, kinds := [], alts := [], laidByText := true, laidKinds := [.wider, .data], laidTests := true, laidLooks := .later }
def FnRelabelUptoCardSaid : Prop := Claim7.holds Tryd.pinned (.plain (OpenSpec.upto fnRelabelSpec)) fnRelabelUptoCard

/-- THE SECOND FORM's CARD OF 'laws.FnExactSkeletonOf'. -/
def fnExactSkeletonOfUptoCard : Claim7 := { stood := { row := fnExactSkeletonOfUptoRow, standIns := [], harness := (true, "5da7cfe6b80502215dd31fe767ee36478d530035caf75b0ee99356460853feb8"), looks := true }, kinds := [], alts := [], laidByText := true, laidKinds := [.wider, .data, .data, .data], laidTests := true, laidLooks := .later }
def FnExactSkeletonOfUptoCardSaid : Prop := Claim7.holds Tryd.pinned (.plain (OpenSpec.upto fnExactSkeletonOfSpec)) fnExactSkeletonOfUptoCard

/-- THE SECOND FORM's CARD OF 'laws.FnExactClassCounts'. -/
def fnExactClassCountsUptoCard : Claim7 := { stood := { row := fnExactClassCountsUptoRow, standIns := [], harness := (true, "5da7cfe6b80502215dd31fe767ee36478d530035caf75b0ee99356460853feb8"), looks := true }, kinds := [], alts := [], laidByText := true, laidKinds := [.wider, .data, .data, .data], laidTests := true, laidLooks := .later }
def FnExactClassCountsUptoCardSaid : Prop := Claim7.holds Tryd.pinned (.plain (OpenSpec.upto fnExactClassCountsSpec)) fnExactClassCountsUptoCard

/-- THE SECOND FORM's CARD OF 'laws.FnExactEulerOf'. -/
def fnExactEulerOfUptoCard : Claim7 := { stood := { row := fnExactEulerOfUptoRow, standIns := [], harness := (true, "5da7cfe6b80502215dd31fe767ee36478d530035caf75b0ee99356460853feb8"), looks := true }, kinds := [], alts := [], laidByText := true, laidKinds := [.wider, .data, .data, .data], laidTests := true, laidLooks := .later }
def FnExactEulerOfUptoCardSaid : Prop := Claim7.holds Tryd.pinned (.plain (OpenSpec.upto fnExactEulerOfSpec)) fnExactEulerOfUptoCard

/-- THE SECOND FORM's CARD OF 'laws.FnExactEdgeSigns'. -/
def fnExactEdgeSignsUptoCard : Claim7 := { stood := { row := fnExactEdgeSignsUptoRow, standIns := [], harness := (true, "5da7cfe6b80502215dd31fe767ee36478d530035caf75b0ee99356460853feb8"), looks := true }, kinds := [], alts := [], laidByText := true, laidKinds := [.wider, .data, .data, .data], laidTests := true, laidLooks := .later }
def FnExactEdgeSignsUptoCardSaid : Prop := Claim7.holds Tryd.pinned (.plain (OpenSpec.upto fnExactEdgeSignsSpec)) fnExactEdgeSignsUptoCard

/-- THE SECOND FORM's CARD OF 'laws.FnExactIsReversedEdge'. -/
def fnExactIsReversedEdgeUptoCard : Claim7 := { stood := { row := fnExactIsReversedEdgeUptoRow, standIns := [], harness := (true, "5da7cfe6b80502215dd31fe767ee36478d530035caf75b0ee99356460853feb8"), looks := true }, kinds := [], alts := [], laidByText := true, laidKinds := [.wider, .data, .data, .data], laidTests := true, laidLooks := .later }
def FnExactIsReversedEdgeUptoCardSaid : Prop := Claim7.holds Tryd.pinned (.plain (OpenSpec.upto fnExactIsReversedEdgeSpec)) fnExactIsReversedEdgeUptoCard

/-- THE SECOND FORM's CARD OF 'laws.FnExactEdgeRing'. -/
def fnExactEdgeRingUptoCard : Claim7 := { stood := { row := fnExactEdgeRingUptoRow, standIns := [], harness := (true, "5da7cfe6b80502215dd31fe767ee36478d530035caf75b0ee99356460853feb8"), looks := true }, kinds := [], alts := [], laidByText := true, laidKinds := [.wider, .data, .data, .data], laidTests := true, laidLooks := .later }
def FnExactEdgeRingUptoCardSaid : Prop := Claim7.holds Tryd.pinned (.plain (OpenSpec.upto fnExactEdgeRingSpec)) fnExactEdgeRingUptoCard

/-- THE SECOND FORM's CARD OF 'laws.FnExactBoundaryClasses'. -/
def fnExactBoundaryClassesUptoCard : Claim7 := { stood := { row := fnExactBoundaryClassesUptoRow, standIns := [], harness := (true, "5da7cfe6b80502215dd31fe767ee36478d530035caf75b0ee99356460853feb8"), looks := true }, kinds := [], alts := [], laidByText := true, laidKinds := [.wider, .data, .data, .data], laidTests := true, laidLooks := .later }
def FnExactBoundaryClassesUptoCardSaid : Prop := Claim7.holds Tryd.pinned (.plain (OpenSpec.upto fnExactBoundaryClassesSpec)) fnExactBoundaryClassesUptoCard
end Rows
end Go.Proofs.YtjendlfophdfeaaDoor
