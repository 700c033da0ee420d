/-
  DERIVED. GIVEN WITH THE SEED: THE CARDS: each row of YtgmkcmdnbfolhaaDoorRows.lean that lists a variable, with what it lists TIED to the program's text (the seventh form; the later family's looks); each row that meets fmt, with fmt's text TOLD by the authors' own Lean function (tested against real Go, not proved from fmt's source: count such statements apart). THE CARD IS WHAT COUNTS. Prove the row's statement (the work); the ties are given (YtgmkcmdnbfolhaaDoorTie.lean); close each card by the builder's one call (the guide's Derived/Test/ToyasCard.lean, 'card_holds'). Laid BY PROGRAM, IN A SANDBOX (cutbox-door.mjs). By AI agents, Wed Nov 11 2026. No macro, syntax, notation, axiom, sorry.
-/
import Derived.Test.YtgmkcmdnbfolhaaDoorRows
import GoSem.ClaimSeven
namespace Go.Proofs.YtgmkcmdnbfolhaaDoor
namespace Rows

/-- THE TIED CARD OF 'laws.FnExactFormatGroup'. -/
def fnExactFormatGroupCard : Claim7 := { stood := { row := fnExactFormatGroupRow, standIns := [], harness := (true, "87f15f8e5ae91908c64c4a4413f74400686d8bbf8e6099aa7f2371f02fec440c"), looks := false }, kinds := [], alts := [], laidByText := true, laidKinds := [.data, .data, .data], laidTests := true, laidLooks := .later }
def FnExactFormatGroupCardSaid : Prop := Claim7.holds Tryd.pinned (.plain (OpenSpec.ofChange fnExactFormatGroupSpec)) fnExactFormatGroupCard

/-- THE TIED CARD OF 'laws.FnMatrixText'. -/
def fnMatrixTextCard : Claim7 := { stood := { row := fnMatrixTextRow, standIns := [], harness := (true, "87f15f8e5ae91908c64c4a4413f74400686d8bbf8e6099aa7f2371f02fec440c"), looks := false }, kinds := [], alts := [], laidByText := true, laidKinds := [.data, .data, .data], laidTests := true, laidLooks := .later }
def FnMatrixTextCardSaid : Prop := Claim7.holds Tryd.pinned (.plain (OpenSpec.ofChange fnMatrixTextSpec)) fnMatrixTextCard

/-- THE SECOND FORM's CARD OF 'laws.FnExactFormatGroup'. -/
def fnExactFormatGroupUptoCard : Claim7 := { stood := { row := fnExactFormatGroupUptoRow, standIns := [], harness := (true, "87f15f8e5ae91908c64c4a4413f74400686d8bbf8e6099aa7f2371f02fec440c"), looks := false }, kinds := [], alts := [], laidByText := true, laidKinds := [.data, .data, .data], laidTests := true, laidLooks := .later }
def FnExactFormatGroupUptoCardSaid : Prop := Claim7.holds Tryd.pinned (.plain (OpenSpec.upto fnExactFormatGroupSpec)) fnExactFormatGroupUptoCard

/-- THE SECOND FORM's CARD OF 'laws.FnMatrixText'. -/
def fnMatrixTextUptoCard : Claim7 := { stood := { row := fnMatrixTextUptoRow, standIns := [], harness := (true, "87f15f8e5ae91908c64c4a4413f74400686d8bbf8e6099aa7f2371f02fec440c"), looks := false }, kinds := [], alts := [], laidByText := true, laidKinds := [.data, .data, .data], laidTests := true, laidLooks := .later }
def FnMatrixTextUptoCardSaid : Prop := Claim7.holds Tryd.pinned (.plain (OpenSpec.upto fnMatrixTextSpec)) fnMatrixTextUptoCard
end Rows
end Go.Proofs.YtgmkcmdnbfolhaaDoor
