/-
  DERIVED. GIVEN WITH THE SEED: THE CARDS: each row of YtboanggdehceaaaDoorRows.lean that lists a variable, with what it lists TIED to the program's text (the seventh form; the later family's looks); each row that meets fmt, with fmt's text TOLD by the authors' own Lean function (tested against real Go, not proved from fmt's source: count such statements apart). THE CARD IS WHAT COUNTS. Prove the row's statement (the work); the ties are given (YtboanggdehceaaaDoorTie.lean); close each card by the builder's one call (the guide's Derived/Test/ToyasCard.lean, 'card_holds'). Laid BY PROGRAM, IN A SANDBOX (cutbox-door.mjs). By AI agents, Wed Nov 11 2026. No macro, syntax, notation, axiom, sorry.
-/
import Derived.Test.YtboanggdehceaaaDoorRows
import GoSem.ClaimSeven
namespace Go.Proofs.YtboanggdehceaaaDoor
namespace Rows

/-- THE TIED CARD OF 'laws.FnMatrixText'. -/
def fnMatrixTextCard : Claim7 := { stood := { row := fnMatrixTextRow, standIns := [], harness := (true, "894700b8838a488dc3068eba7c4b5662220db85ff501257dbdf01f37c9bdaf23"), looks := false }, kinds := [], alts := [], laidByText := true, laidKinds := [.data, .data, .data], laidTests := true, laidLooks := .later }
def FnMatrixTextCardSaid : Prop := Claim7.holds Tryd.pinned (.plain (OpenSpec.ofChange fnMatrixTextSpec)) fnMatrixTextCard

/-- THE TIED CARD OF 'laws.FnExactFormatGroup'. -/
def fnExactFormatGroupCard : Claim7 := { stood := { row := fnExactFormatGroupRow, standIns := [], harness := (true, "894700b8838a488dc3068eba7c4b5662220db85ff501257dbdf01f37c9bdaf23"), looks := false }, kinds := [], alts := [], laidByText := true, laidKinds := [.data, .data, .data], laidTests := true, laidLooks := .later }
def FnExactFormatGroupCardSaid : Prop := Claim7.holds Tryd.pinned (.plain (OpenSpec.ofChange fnExactFormatGroupSpec)) fnExactFormatGroupCard

/-- THE SECOND FORM's CARD OF 'laws.FnMatrixText'. -/
def fnMatrixTextUptoCard : Claim7 := { stood := { row := fnMatrixTextUptoRow, standIns := [], harness := (true, "894700b8838a488dc3068eba7c4b5662220db85ff501257dbdf01f37c9bdaf23"), looks := false }, kinds := [], alts := [], laidByText := true, laidKinds := [.data, .data, .data], laidTests := true, laidLooks := .later }
def FnMatrixTextUptoCardSaid : Prop := Claim7.holds Tryd.pinned (.plain (OpenSpec.upto fnMatrixTextSpec)) fnMatrixTextUptoCard

/-- THE SECOND FORM's CARD OF 'laws.FnExactFormatGroup'. -/
def fnExactFormatGroupUptoCard : Claim7 := { stood := { row := fnExactFormatGroupUptoRow, standIns := [], harness := (true, "894700b8838a488dc3068eba7c4b5662220db85ff501257dbdf01f37c9bdaf23"), looks := false }, kinds := [], alts := [], laidByText := true, laidKinds := [.data, .data, .data], laidTests := true, laidLooks := .later }
def FnExactFormatGroupUptoCardSaid : Prop := Claim7.holds Tryd.pinned (.plain (OpenSpec.upto fnExactFormatGroupSpec)) fnExactFormatGroupUptoCard
end Rows
end Go.Proofs.YtboanggdehceaaaDoor
