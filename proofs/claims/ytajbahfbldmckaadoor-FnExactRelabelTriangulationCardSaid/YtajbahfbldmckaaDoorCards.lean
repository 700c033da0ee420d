/-
  DERIVED. GIVEN WITH THE SEED: THE CARDS: each row of YtajbahfbldmckaaDoorRows.lean that lists a variable, with what it lists TIED to the program's text (the seventh form; the later family's looks); each row that meets fmt, with fmt's text TOLD by the authors' own Lean function (tested against real Go, not proved from fmt's source: count such statements apart). THE CARD IS WHAT COUNTS. Prove the row's statement (the work); the ties are given (YtajbahfbldmckaaDoorTie.lean); close each card by the builder's one call (the guide's Derived/Test/ToyasCard.lean, 'card_holds'). Laid BY PROGRAM, IN A SANDBOX (cutbox-door.mjs). By AI agents, Wed Nov 11 2026. No macro, syntax, notation, axiom, sorry.
-/
import Derived.Test.YtajbahfbldmckaaDoorRows
import GoSem.ClaimSeven
namespace Go.Proofs.YtajbahfbldmckaaDoor
namespace Rows

/-- THE TIED CARD OF 'laws.FnExactAddTetrahedron'. -/
def fnExactAddTetrahedronCard : Claim7 := { stood := { row := fnExactAddTetrahedronRow, standIns := [], harness := (true, "52f165239fc1f1d9d8763a9a0d20312291f667ccd969349548baad24ae0cf941"), looks := true }, kinds := [], alts := [], laidByText := true, laidKinds := [.wider, .data], laidTests := true, laidLooks := .later }
def FnExactAddTetrahedronCardSaid : Prop := Claim7.holds Tryd.pinned (.plain (OpenSpec.ofChange fnExactAddTetrahedronSpec)) fnExactAddTetrahedronCard

/-- THE TIED CARD OF 'laws.FnExactGlueFaces'. -/
def fnExactGlueFacesCard : Claim7 := { stood := { row := fnExactGlueFacesRow, standIns := [], harness := (true, "52f165239fc1f1d9d8763a9a0d20312291f667ccd969349548baad24ae0cf941"), looks := true }, kinds := [], alts := [], laidByText := true, laidKinds := [.wider, .data], laidTests := true, laidLooks := .later }
def FnExactGlueFacesCardSaid : Prop := Claim7.holds Tryd.pinned (.plain (OpenSpec.ofChange fnExactGlueFacesSpec)) fnExactGlueFacesCard

/-- THE TIED CARD OF 'laws.FnExactUnglueFace'. -/
def fnExactUnglueFaceCard : Claim7 := { stood := { row := fnExactUnglueFaceRow, standIns := [], harness := (true, "52f165239fc1f1d9d8763a9a0d20312291f667ccd969349548baad24ae0cf941"), looks := true }, kinds := [], alts := [], laidByText := true, laidKinds := [.wider, .data], laidTests := true, laidLooks := .later }
def FnExactUnglueFaceCardSaid : Prop := Claim7.holds Tryd.pinned (.plain (OpenSpec.ofChange fnExactUnglueFaceSpec)) fnExactUnglueFaceCard

/-- THE TIED CARD OF 'laws.FnExactTetComponents'. -/
def fnExactTetComponentsCard : Claim7 := { stood := { row := fnExactTetComponentsRow, standIns := [], harness := (true, "52f165239fc1f1d9d8763a9a0d20312291f667ccd969349548baad24ae0cf941"), looks := true }, kinds := [], alts := [], laidByText := true, laidKinds := [.wider, .data], laidTests := true, laidLooks := .later }
def FnExactTetComponentsCardSaid : Prop := Claim7.holds Tryd.pinned (.plain (OpenSpec.ofChange fnExactTetComponentsSpec)) fnExactTetComponentsCard

/-- THE TIED CARD OF 'laws.FnExactUnionTriangulations'. -/
def fnExactUnionTriangulationsCard : Claim7 := { stood := { row := fnExactUnionTriangulationsRow, standIns := [], harness := (true, "52f165239fc1f1d9d8763a9a0d20312291f667ccd969349548baad24ae0cf941"), looks := true }, kinds := [], alts := [], laidByText := true, laidKinds := [.wider, .data], laidTests := true, laidLooks := .later }
def FnExactUnionTriangulationsCardSaid : Prop := Claim7.holds Tryd.pinned (.plain (OpenSpec.ofChange fnExactUnionTriangulationsSpec)) fnExactUnionTriangulationsCard

/-- THE TIED CARD OF 'laws.FnExactRelabelTriangulation'. -/
def fnExactRelabelTriangulationCard : Claim7 := { stood := { row := fnExactRelabelTriangulationRow, standIns := [], harness := (true, "52f165239fc1f1d9d8763a9a0d20312291f667ccd969349548baad24ae0cf941"), looks := true }, kinds := [], alts := [], laidByText := true, laidKinds := [.wider, .data], laidTests := true, laidLooks := .later }
def FnExactRelabelTriangulationCardSaid : Prop := Claim7.holds Tryd.pinned (.plain (OpenSpec.ofChange fnExactRelabelTriangulationSpec)) fnExactRelabelTriangulationCard

/-- THE TIED CARD OF 'laws.FnExactTriangulationText'. -/
def fnExactTriangulationTextCard : Claim7 := { stood := { row := fnExactTriangulationTextRow, standIns := [], harness := (true, "52f165239fc1f1d9d8763a9a0d20312291f667ccd969349548baad24ae0cf941"), looks := true }, kinds := [], alts := [], laidByText := true, laidKinds := [.data, .data, .data, .wider, .data], laidTests := true, laidLooks := .later }
def FnExactTriangulationTextCardSaid : Prop := Claim7.holds Tryd.pinned (.plain (OpenSpec.ofChange fnExactTriangulationTextSpec)) fnExactTriangulationTextCard

/-- THE TIED CARD OF 'laws.FnExactReadTriangulation'. -/
def fnExactReadTriangulationCard : Claim7 := { stood := { row := fnExactReadTriangulationRow, standIns := [], harness := (true, "52f165239fc1f1d9d8763a9a0d20312291f667ccd969349548baad24ae0cf941"), looks := true }, kinds := [], alts := [], laidByText := true, laidKinds := [.data, .data, .data, .data, .sentinel, .sentinel, .wider, .data, .pinned], laidTests := true, laidLooks := .later }
def FnExactReadTriangulationCardSaid : Prop := Claim7.holds Tryd.pinned (.plain (OpenSpec.ofChange fnExactReadTriangulationSpec)) fnExactReadTriangulationCard

/-- THE TIED CARD OF 'laws.FnExactEdgeEnds'. -/
def fnExactEdgeEndsCard : Claim7 := { stood := { row := fnExactEdgeEndsRow, standIns := [], harness := (true, "52f165239fc1f1d9d8763a9a0d20312291f667ccd969349548baad24ae0cf941"), looks := true }, kinds := [], alts := [], laidByText := true, laidKinds := [.data], laidTests := true, laidLooks := .later }
def FnExactEdgeEndsCardSaid : Prop := Claim7.holds Tryd.pinned (.plain (OpenSpec.ofChange fnExactEdgeEndsSpec)) fnExactEdgeEndsCard

/-- THE TIED CARD OF 'laws.FnExactEdgeBetween'. -/
def fnExactEdgeBetweenCard : Claim7 := { stood := { row := fnExactEdgeBetweenRow, standIns := [], harness := (true, "52f165239fc1f1d9d8763a9a0d20312291f667ccd969349548baad24ae0cf941"), looks := true }, kinds := [], alts := [], laidByText := true, laidKinds := [.data], laidTests := true, laidLooks := .later }
def FnExactEdgeBetweenCardSaid : Prop := Claim7.holds Tryd.pinned (.plain (OpenSpec.ofChange fnExactEdgeBetweenSpec)) fnExactEdgeBetweenCard

/-- THE SECOND FORM's CARD OF 'laws.FnExactAddTetrahedron'. -/
def fnExactAddTetrahedronUptoCard : Claim7 := { stood := { row := fnExactAddTetrahedronUptoRow, standIns := [], harness := (true, "52f165239fc1f1d9d8763a9a0d20312291f667ccd969349548baad24ae0cf941"), looks := true }, kinds := [], alts := [], laidByText := true, laidKinds := [.wider, .data], laidTests := true, laidLooks := .later }
def FnExactAddTetrahedronUptoCardSaid : Prop := Claim7.holds Tryd.pinned (.plain (OpenSpec.upto fnExactAddTetrahedronSpec)) fnExactAddTetrahedronUptoCard

/-- THE SECOND FORM's CARD OF 'laws.FnExactGlueFaces'. -/
def fnExactGlueFacesUptoCard : Claim7 := { stood := { row := fnExactGlueFacesUptoRow, standIns := [], harness := (true, "52f165239fc1f1d9d8763a9a0d20312291f667ccd969349548baad24ae0cf941"), looks := true }, kinds := [], alts := [], laidByText := true, laidKinds := [.wider, .data], laidTests := true, laidLooks := .later }
def FnExactGlueFacesUptoCardSaid : Prop := Claim7.holds Tryd.pinned (.plain (OpenSpec.upto fnExactGlueFacesSpec)) fnExactGlueFacesUptoCard

/-- THE SECOND FORM's CARD OF 'laws.FnExactUnglueFace'. -/
def fnExactUnglueFaceUptoCard : Claim7 := { stood := { row := fnExactUnglueFaceUptoRow, standIns := [], harness := (true, "52f165239fc1f1d9d8763a9a0d20312291f667ccd969349548baad24ae0cf941"), looks := true }, kinds := [], alts := [], laidByText := true, laidKinds := [.wider, .data], laidTests := true, laidLooks := .later }
def FnExactUnglueFaceUptoCardSaid : Prop := Claim7.holds Tryd.pinned (.plain (OpenSpec.upto fnExactUnglueFaceSpec)) fnExactUnglueFaceUptoCard

/-- THE SECOND FORM's CARD OF 'laws.FnExactTetComponents'. -/
def fnExactTetComponentsUptoCard : Claim7 := { stood := { row := fnExactTetComponentsUptoRow, standIns := [], harness := (true, "52f165239fc1f1d9d8763a9a0d20312291f667ccd969349548baad24ae0cf941"), looks := true }, kinds := [], alts := [], laidByText := true, laidKinds := [.wider, .data], laidTests := true, laidLooks := .later }
def FnExactTetComponentsUptoCardSaid : Prop := Claim7.holds Tryd.pinned (.plain (OpenSpec.upto fnExactTetComponentsSpec)) fnExactTetComponentsUptoCard

/-- THE SECOND FORM's CARD OF 'laws.FnExactUnionTriangulations'. -/
def fnExactUnionTriangulationsUptoCard : Claim7 := { stood := { row := fnExactUnionTriangulationsUptoRow, standIns := [], harness := (true, "52f165239fc1f1d9d8763a9a0d20312291f667ccd969349548baad24ae0cf941"), looks := true }, kinds := [], alts := [], laidByText := true, laidKinds := [.wider, .data], laidTests := true, laidLooks := .later }
def FnExactUnionTriangulationsUptoCardSaid : Prop := Claim7.holds Tryd.pinned (.plain (OpenSpec.upto fnExactUnionTriangulationsSpec)) fnExactUnionTriangulationsUptoCard

/-- THE SECOND FORM's CARD OF 'laws.FnExactRelabelTriangulation'. -/
def fnExactRelabelTriangulationUptoCard : Claim7 := { stood := { row := fnExactRelabelTriangulationUptoRow, standIns := [], harness := (true, "52f165239fc1f1d9d8763a9a0d20312291f667ccd969349548baad24ae0cf941"), looks := true }, kinds := [], alts := [], laidByText := true, laidKinds := [.wider, .data], laidTests := true, laidLooks := .later }
def FnExactRelabelTriangulationUptoCardSaid : Prop := Claim7.holds Tryd.pinned (.plain (OpenSpec.upto fnExactRelabelTriangulationSpec)) fnExactRelabelTriangulationUptoCard

/-- THE SECOND FORM's CARD OF 'laws.FnExactTriangulationText'. -/
def fnExactTriangulationTextUptoCard : Claim7 := { stood := { row := fnExactTriangulationTextUptoRow, standIns := [], harness := (true, "52f165239fc1f1d9d8763a9a0d20312291f667ccd969349548baad24ae0cf941"), looks := true }, kinds := [], alts := [], laidByText := true, laidKinds := [.data, .data, .data, .wider, .data], laidTests := true, laidLooks := .later }
def FnExactTriangulationTextUptoCardSaid : Prop := Claim7.holds Tryd.pinned (.plain (OpenSpec.upto fnExactTriangulationTextSpec)) fnExactTriangulationTextUptoCard

/-- THE SECOND FORM's CARD OF 'laws.FnExactReadTriangulation'. -/
def fnExactReadTriangulationUptoCard : Claim7 := { stood := { row := fnExactReadTriangulationUptoRow, standIns := [], harness := (true, "52f165239fc1f1d9d8763a9a0d20312291f667ccd969349548baad24ae0cf941"), looks := true }, kinds := [], alts := [], laidByText := true, laidKinds := [.data, .data, .data, .data, .sentinel, .sentinel, .wider, .data, .pinned], laidTests := true, laidLooks := .later }
def FnExactReadTriangulationUptoCardSaid : Prop := Claim7.holds Tryd.pinned (.plain (OpenSpec.upto fnExactReadTriangulationSpec)) fnExactReadTriangulationUptoCard

/-- THE SECOND FORM's CARD OF 'laws.FnExactEdgeEnds'. -/
def fnExactEdgeEndsUptoCard : Claim7 := { stood := { row := fnExactEdgeEndsUptoRow, standIns := [], harness := (true, "52f165239fc1f1d9d8763a9a0d20312291f667ccd969349548baad24ae0cf941"), looks := true }, kinds := [], alts := [], laidByText := true, laidKinds := [.data], laidTests := true, laidLooks := .later }
def FnExactEdgeEndsUptoCardSaid : Prop := Claim7.holds Tryd.pinned (.plain (OpenSpec.upto fnExactEdgeEndsSpec)) fnExactEdgeEndsUptoCard

/-- THE SECOND FORM's CARD OF 'laws.FnExactEdgeBetween'. -/
def fnExactEdgeBetweenUptoCard : Claim7 := { stood := { row := fnExactEdgeBetweenUptoRow, standIns := [], harness := (true, "52f165239fc1f1d9d8763a9a0d20312291f667ccd969349548baad24ae0cf941"), looks := true }, kinds := [], alts := [], laidByText := true, laidKinds := [.data], laidTests := true, laidLooks := .later }
def FnExactEdgeBetweenUptoCardSaid : Prop := Claim7.holds Tryd.pinned (.plain (OpenSpec.upto fnExactEdgeBetweenSpec)) fnExactEdgeBetweenUptoCard
end Rows
end Go.Proofs.YtajbahfbldmckaaDoor
