/-
  DERIVED. GIVEN WITH THE SEED: THE CARDS: each row of YtopbfjhgpgjnnaaDoorRows.lean that lists a variable, with what it lists TIED to the program's text (the seventh form; the later family's looks); each row that meets fmt, with fmt's text TOLD by the authors' own Lean function (tested against real Go, not proved from fmt's source: count such statements apart). THE CARD IS WHAT COUNTS. Prove the row's statement (the work); the ties are given (YtopbfjhgpgjnnaaDoorTie.lean); close each card by the builder's one call (the guide's Derived/Test/ToyasCard.lean, 'card_holds'). Laid BY PROGRAM, IN A SANDBOX (cutbox-door.mjs). By AI agents, Wed Nov 11 2026. No macro, syntax, notation, axiom, sorry.
-/
import Derived.Test.YtopbfjhgpgjnnaaDoorRows
import GoSem.ClaimSeven
namespace Go.Proofs.YtopbfjhgpgjnnaaDoor
namespace Rows

/-- THE TIED CARD OF 'laws.FnExactFormatLaurent'. -/
def fnExactFormatLaurentCard : Claim7 := { stood := { row := fnExactFormatLaurentRow, standIns := [], harness := (true, "bceea8c9f3e7ed30f07c9583f8017fd5b895131030a5baed9efbfca4c2f4c8b6"), looks := false }, kinds := [], alts := [], laidByText := true, laidKinds := [.data, .data, .data], laidTests := true, laidLooks := .later }
def FnExactFormatLaurentCardSaid : Prop := Claim7.holds Tryd.pinned (.plain (OpenSpec.ofChange fnExactFormatLaurentSpec)) fnExactFormatLaurentCard

/-- THE SECOND FORM's CARD OF 'laws.FnExactFormatLaurent'. -/
def fnExactFormatLaurentUptoCard : Claim7 := { stood := { row := fnExactFormatLaurentUptoRow, standIns := [], harness := (true, "bceea8c9f3e7ed30f07c9583f8017fd5b895131030a5baed9efbfca4c2f4c8b6"), looks := false }, kinds := [], alts := [], laidByText := true, laidKinds := [.data, .data, .data], laidTests := true, laidLooks := .later }
def FnExactFormatLaurentUptoCardSaid : Prop := Claim7.holds Tryd.pinned (.plain (OpenSpec.upto fnExactFormatLaurentSpec)) fnExactFormatLaurentUptoCard
end Rows
end Go.Proofs.YtopbfjhgpgjnnaaDoor
