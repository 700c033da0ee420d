/-
  DERIVED. GIVEN WITH THE SEED: THE CARDS: each row of YtoegfldpadpohaaDoorRows.lean that lists a variable, with what it lists TIED to the program's text (the seventh form; the later family's looks); each row that meets fmt, with fmt's text TOLD by the authors' own Lean function (tested against real Go, not proved from fmt's source: count such statements apart). THE CARD IS WHAT COUNTS. Prove the row's statement (the work); the ties are given (YtoegfldpadpohaaDoorTie.lean); close each card by the builder's one call (the guide's Derived/Test/ToyasCard.lean, 'card_holds'). Laid BY PROGRAM, IN A SANDBOX (cutbox-door.mjs). By AI agents, Wed Nov 11 2026. No macro, syntax, notation, axiom, sorry.
-/
import Derived.Test.YtoegfldpadpohaaDoorRows
import GoSem.ClaimSeven
namespace Go.Proofs.YtoegfldpadpohaaDoor
namespace Rows

/-- THE TIED CARD OF 'laws.FnPermGroup'. -/
def fnPermGroupCard : Claim7 := { stood := { row := fnPermGroupRow, standIns := [], harness := (true, "efebfb24d2c96d481ce700fe06635514c61a036ffb931c32664ec3c0e107665d"), looks := false }, kinds := [], alts := [], laidByText := true, laidKinds := [.wider], laidTests := true, laidLooks := .later }
def FnPermGroupCardSaid : Prop := Claim7.holds Tryd.pinned (.plain (OpenSpec.ofChange fnPermGroupSpec)) fnPermGroupCard

/-- THE TIED CARD OF 'laws.FnExtend'. -/
def fnExtendCard : Claim7 := { stood := { row := fnExtendRow, standIns := [], harness := (true, "efebfb24d2c96d481ce700fe06635514c61a036ffb931c32664ec3c0e107665d"), looks := false }, kinds := [], alts := [], laidByText := true, laidKinds := [.wider], laidTests := true, laidLooks := .later }
def FnExtendCardSaid : Prop := Claim7.holds Tryd.pinned (.plain (OpenSpec.ofChange fnExtendSpec)) fnExtendCard

/-- THE TIED CARD OF 'laws.FnExactPerm4'. -/
def fnExactPerm4Card : Claim7 := { stood := { row := fnExactPerm4Row, standIns := [], harness := (true, "efebfb24d2c96d481ce700fe06635514c61a036ffb931c32664ec3c0e107665d"), looks := false }, kinds := [], alts := [], laidByText := true, laidKinds := [.wider], laidTests := true, laidLooks := .later }
def FnExactPerm4CardSaid : Prop := Claim7.holds Tryd.pinned (.plain (OpenSpec.ofChange fnExactPerm4Spec)) fnExactPerm4Card

/-- THE TIED CARD OF 'laws.FnExactIndexOfPerm4'. -/
def fnExactIndexOfPerm4Card : Claim7 := { stood := { row := fnExactIndexOfPerm4Row, standIns := [], harness := (true, "efebfb24d2c96d481ce700fe06635514c61a036ffb931c32664ec3c0e107665d"), looks := false }, kinds := [], alts := [], laidByText := true, laidKinds := [.wider], laidTests := true, laidLooks := .later }
def FnExactIndexOfPerm4CardSaid : Prop := Claim7.holds Tryd.pinned (.plain (OpenSpec.ofChange fnExactIndexOfPerm4Spec)) fnExactIndexOfPerm4Card

/-- THE TIED CARD OF 'laws.FnExactApplyPerm4'. -/
def fnExactApplyPerm4Card : Claim7 := { stood := { row := fnExactApplyPerm4Row, standIns := [], harness := (true, "efebfb24d2c96d481ce700fe06635514c61a036ffb931c32664ec3c0e107665d"), looks := false }, kinds := [], alts := [], laidByText := true, laidKinds := [.wider], laidTests := true, laidLooks := .later }
def FnExactApplyPerm4CardSaid : Prop := Claim7.holds Tryd.pinned (.plain (OpenSpec.ofChange fnExactApplyPerm4Spec)) fnExactApplyPerm4Card

/-- THE TIED CARD OF 'laws.FnExactComposePerm4'. -/
def fnExactComposePerm4Card : Claim7 := { stood := { row := fnExactComposePerm4Row, standIns := [], harness := (true, "efebfb24d2c96d481ce700fe06635514c61a036ffb931c32664ec3c0e107665d"), looks := false }, kinds := [], alts := [], laidByText := true, laidKinds := [.wider], laidTests := true, laidLooks := .later }
def FnExactComposePerm4CardSaid : Prop := Claim7.holds Tryd.pinned (.plain (OpenSpec.ofChange fnExactComposePerm4Spec)) fnExactComposePerm4Card

/-- THE TIED CARD OF 'laws.FnExactInvertPerm4'. -/
def fnExactInvertPerm4Card : Claim7 := { stood := { row := fnExactInvertPerm4Row, standIns := [], harness := (true, "efebfb24d2c96d481ce700fe06635514c61a036ffb931c32664ec3c0e107665d"), looks := false }, kinds := [], alts := [], laidByText := true, laidKinds := [.wider], laidTests := true, laidLooks := .later }
def FnExactInvertPerm4CardSaid : Prop := Claim7.holds Tryd.pinned (.plain (OpenSpec.ofChange fnExactInvertPerm4Spec)) fnExactInvertPerm4Card

/-- THE TIED CARD OF 'laws.FnExactSignPerm4'. -/
def fnExactSignPerm4Card : Claim7 := { stood := { row := fnExactSignPerm4Row, standIns := [], harness := (true, "efebfb24d2c96d481ce700fe06635514c61a036ffb931c32664ec3c0e107665d"), looks := false }, kinds := [], alts := [], laidByText := true, laidKinds := [.wider], laidTests := true, laidLooks := .later }
def FnExactSignPerm4CardSaid : Prop := Claim7.holds Tryd.pinned (.plain (OpenSpec.ofChange fnExactSignPerm4Spec)) fnExactSignPerm4Card

/-- THE TIED CARD OF 'laws.FnExactOrderPerm4'. -/
def fnExactOrderPerm4Card : Claim7 := { stood := { row := fnExactOrderPerm4Row, standIns := [], harness := (true, "efebfb24d2c96d481ce700fe06635514c61a036ffb931c32664ec3c0e107665d"), looks := false }, kinds := [], alts := [], laidByText := true, laidKinds := [.wider], laidTests := true, laidLooks := .later }
def FnExactOrderPerm4CardSaid : Prop := Claim7.holds Tryd.pinned (.plain (OpenSpec.ofChange fnExactOrderPerm4Spec)) fnExactOrderPerm4Card

/-- THE TIED CARD OF 'laws.FnExactExtendPerm4'. -/
def fnExactExtendPerm4Card : Claim7 := { stood := { row := fnExactExtendPerm4Row, standIns := [], harness := (true, "efebfb24d2c96d481ce700fe06635514c61a036ffb931c32664ec3c0e107665d"), looks := false }, kinds := [], alts := [], laidByText := true, laidKinds := [.wider], laidTests := true, laidLooks := .later }
def FnExactExtendPerm4CardSaid : Prop := Claim7.holds Tryd.pinned (.plain (OpenSpec.ofChange fnExactExtendPerm4Spec)) fnExactExtendPerm4Card

/-- THE SECOND FORM's CARD OF 'laws.FnPermGroup'. -/
def fnPermGroupUptoCard : Claim7 := { stood := { row := fnPermGroupUptoRow, standIns := [], harness := (true, "efebfb24d2c96d481ce700fe06635514c61a036ffb931c32664ec3c0e107665d"), looks := false }, kinds := [], alts := [], laidByText := true, laidKinds := [.wider], laidTests := true, laidLooks := .later }
def FnPermGroupUptoCardSaid : Prop := Claim7.holds Tryd.pinned (.plain (OpenSpec.upto fnPermGroupSpec)) fnPermGroupUptoCard

/-- THE SECOND FORM's CARD OF 'laws.FnExtend'. -/
def fnExtendUptoCard : Claim7 := { stood := { row := fnExtendUptoRow, standIns := [], harness := (true, "efebfb24d2c96d481ce700fe06635514c61a036ffb931c32664ec3c0e107665d"), looks := false }, kinds := [], alts := [], laidByText := true, laidKinds := [.wider], laidTests := true, laidLooks := .later }
def FnExtendUptoCardSaid : Prop := Claim7.holds Tryd.pinned (.plain (OpenSpec.upto fnExtendSpec)) fnExtendUptoCard

/-- THE SECOND FORM's CARD OF 'laws.FnExactPerm4'. -/
def fnExactPerm4UptoCard : Claim7 := { stood := { row := fnExactPerm4UptoRow, standIns := [], harness := (true, "efebfb24d2c96d481ce700fe06635514c61a036ffb931c32664ec3c0e107665d"), looks := false }, kinds := [], alts := [], laidByText := true, laidKinds := [.wider], laidTests := true, laidLooks := .later }
def FnExactPerm4UptoCardSaid : Prop := Claim7.holds Tryd.pinned (.plain (OpenSpec.upto fnExactPerm4Spec)) fnExactPerm4UptoCard

/-- THE SECOND FORM's CARD OF 'laws.FnExactIndexOfPerm4'. -/
def fnExactIndexOfPerm4UptoCard : Claim7 := { stood := { row := fnExactIndexOfPerm4UptoRow, standIns := [], harness := (true, "efebfb24d2c96d481ce700fe06635514c61a036ffb931c32664ec3c0e107665d"), looks := false }, kinds := [], alts := [], laidByText := true, laidKinds := [.wider], laidTests := true, laidLooks := .later }
def FnExactIndexOfPerm4UptoCardSaid : Prop := Claim7.holds Tryd.pinned (.plain (OpenSpec.upto fnExactIndexOfPerm4Spec)) fnExactIndexOfPerm4UptoCard

/-- THE SECOND FORM's CARD OF 'laws.FnExactApplyPerm4'. -/
def fnExactApplyPerm4UptoCard : Claim7 := { stood := { row := fnExactApplyPerm4UptoRow, standIns := [], harness := (true, "efebfb24d2c96d481ce700fe06635514c61a036ffb931c32664ec3c0e107665d"), looks := false }, kinds := [], alts := [], laidByText := true, laidKinds := [.wider], laidTests := true, laidLooks := .later }
def FnExactApplyPerm4UptoCardSaid : Prop := Claim7.holds Tryd.pinned (.plain (OpenSpec.upto fnExactApplyPerm4Spec)) fnExactApplyPerm4UptoCard

/-- THE SECOND FORM's CARD OF 'laws.FnExactComposePerm4'. -/
def fnExactComposePerm4UptoCard : Claim7 := { stood := { row := fnExactComposePerm4UptoRow, standIns := [], harness := (true, "efebfb24d2c96d481ce700fe06635514c61a036ffb931c32664ec3c0e107665d"), looks := false }, kinds := [], alts := [], laidByText := true, laidKinds := [.wider], laidTests := true, laidLooks := .later }
def FnExactComposePerm4UptoCardSaid : Prop := Claim7.holds Tryd.pinned (.plain (OpenSpec.upto fnExactComposePerm4Spec)) fnExactComposePerm4UptoCard

/-- THE SECOND FORM's CARD OF 'laws.FnExactInvertPerm4'. -/
def fnExactInvertPerm4UptoCard : Claim7 := { stood := { row := fnExactInvertPerm4UptoRow, standIns := [], harness := (true, "efebfb24d2c96d481ce700fe06635514c61a036ffb931c32664ec3c0e107665d"), looks := false }, kinds := [], alts := [], laidByText := true, laidKinds := [.wider], laidTests := true, laidLooks := .later }
def FnExactInvertPerm4UptoCardSaid : Prop := Claim7.holds Tryd.pinned (.plain (OpenSpec.upto fnExactInvertPerm4Spec)) fnExactInvertPerm4UptoCard

/-- THE SECOND FORM's CARD OF 'laws.FnExactSignPerm4'. -/
def fnExactSignPerm4UptoCard : Claim7 := { stood := { row := fnExactSignPerm4UptoRow, standIns := [], harness := (true, "efebfb24d2c96d481ce700fe06635514c61a036ffb931c32664ec3c0e107665d"), looks := false }, kinds := [], alts := [], laidByText := true, laidKinds := [.wider], laidTests := true, laidLooks := .later }
def FnExactSignPerm4UptoCardSaid : Prop := Claim7.holds Tryd.pinned (.plain (OpenSpec.upto fnExactSignPerm4Spec)) fnExactSignPerm4UptoCard

/-- THE SECOND FORM's CARD OF 'laws.FnExactOrderPerm4'. -/
def fnExactOrderPerm4UptoCard : Claim7 := { stood := { row := fnExactOrderPerm4UptoRow, standIns := [], harness := (true, "efebfb24d2c96d481ce700fe06635514c61a036ffb931c32664ec3c0e107665d"), looks := false }, kinds := [], alts := [], laidByText := true, laidKinds := [.wider], laidTests := true, laidLooks := .later }
def FnExactOrderPerm4UptoCardSaid : Prop := Claim7.holds Tryd.pinned (.plain (OpenSpec.upto fnExactOrderPerm4Spec)) fnExactOrderPerm4UptoCard

/-- THE SECOND FORM's CARD OF 'laws.FnExactExtendPerm4'. -/
def fnExactExtendPerm4UptoCard : Claim7 := { stood := { row := fnExactExtendPerm4UptoRow, standIns := [], harness := (true, "efebfb24d2c96d481ce700fe06635514c61a036ffb931c32664ec3c0e107665d"), looks := false }, kinds := [], alts := [], laidByText := true, laidKinds := [.wider], laidTests := true, laidLooks := .later }
def FnExactExtendPerm4UptoCardSaid : Prop := Claim7.holds Tryd.pinned (.plain (OpenSpec.upto fnExactExtendPerm4Spec)) fnExactExtendPerm4UptoCard
end Rows
end Go.Proofs.YtoegfldpadpohaaDoor
