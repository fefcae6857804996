/-
  DERIVED. GIVEN WITH THE SEED: THE CARDS: each row of YteopplldbcgjjaaGreatDoorRows.lean that lists a variable, with what it lists TIED to the program's text (the seventh form; the later family's looks); each row that meets fmt, with fmt's text TOLD by the authors' own Lean function (tested against real Go, not proved from fmt's source: count such statements apart). THE CARD IS WHAT COUNTS. Prove the row's statement (the work); the ties are given (YteopplldbcgjjaaGreatDoorTie.lean); close each card by the builder's one call (the guide's Derived/Test/ToyasCard.lean, 'card_holds'). Laid BY PROGRAM, IN A SANDBOX (cutbox-door.mjs). By AI agents, Wed Nov 11 2026. No macro, syntax, notation, axiom, sorry.
-/
import Derived.Test.YteopplldbcgjjaaGreatDoorRows
import GoSem.ClaimSeven
namespace Go.Proofs.YteopplldbcgjjaaGreatDoor
namespace Rows

/-- THE TIED CARD OF 'laws.FnTouched'. -/
def fnTouchedCard : Claim7 := { stood := { row := fnTouchedRow, standIns := [], harness := (true, "97393dac2ec23c84b8bb3f7fae1a48bf7f9f981fb5e226f00832f8cad736549f"), looks := true }, kinds := [], alts := [], laidByText := true, laidKinds := [.handle, .sentinel, .sentinel, .sentinel, .sentinel], laidTests := true, laidLooks := .later }
def FnTouchedCardSaid : Prop := Claim7.holds Tryz.pinned (.plain (OpenSpec.ofChange fnTouchedSpec)) fnTouchedCard

/-- THE TIED CARD OF 'laws.FnScans'. -/
def fnScansCard : Claim7 := { stood := { row := fnScansRow, standIns := [], harness := (true, "97393dac2ec23c84b8bb3f7fae1a48bf7f9f981fb5e226f00832f8cad736549f"), looks := true }, kinds := [], alts := [], laidByText := true, laidKinds := [.handle, .sentinel, .sentinel, .sentinel, .sentinel], laidTests := true, laidLooks := .later }
def FnScansCardSaid : Prop := Claim7.holds Tryz.pinned (.plain (OpenSpec.ofChange fnScansSpec)) fnScansCard

/-- THE TIED CARD OF 'laws.FnExactTouched'. -/
def fnExactTouchedCard : Claim7 := { stood := { row := fnExactTouchedRow, standIns := [], harness := (true, "97393dac2ec23c84b8bb3f7fae1a48bf7f9f981fb5e226f00832f8cad736549f"), looks := true }, kinds := [], alts := [], laidByText := true, laidKinds := [.handle, .sentinel, .sentinel, .sentinel, .sentinel], laidTests := true, laidLooks := .later }
def FnExactTouchedCardSaid : Prop := Claim7.holds Tryz.pinned (.plain (OpenSpec.ofChange fnExactTouchedSpec)) fnExactTouchedCard

/-- THE TIED CARD OF 'laws.FnExactScanned'. -/
def fnExactScannedCard : Claim7 := { stood := { row := fnExactScannedRow, standIns := [], harness := (true, "97393dac2ec23c84b8bb3f7fae1a48bf7f9f981fb5e226f00832f8cad736549f"), looks := true }, kinds := [], alts := [], laidByText := true, laidKinds := [.handle, .sentinel, .sentinel, .sentinel, .sentinel], laidTests := true, laidLooks := .later }
def FnExactScannedCardSaid : Prop := Claim7.holds Tryz.pinned (.plain (OpenSpec.ofChange fnExactScannedSpec)) fnExactScannedCard

/-- THE SECOND FORM's CARD OF 'laws.FnTouched'. -/
def fnTouchedUptoCard : Claim7 := { stood := { row := fnTouchedUptoRow, standIns := [], harness := (true, "97393dac2ec23c84b8bb3f7fae1a48bf7f9f981fb5e226f00832f8cad736549f"), looks := true }, kinds := [], alts := [], laidByText := true, laidKinds := [.handle, .sentinel, .sentinel, .sentinel, .sentinel], laidTests := true, laidLooks := .later }
def FnTouchedUptoCardSaid : Prop := Claim7.holds Tryz.pinned (.plain (OpenSpec.upto fnTouchedSpec)) fnTouchedUptoCard

/-- THE SECOND FORM's CARD OF 'laws.FnScans'. -/
def fnScansUptoCard : Claim7 := { stood := { row := fnScansUptoRow, standIns := [], harness := (true, "97393dac2ec23c84b8bb3f7fae1a48bf7f9f981fb5e226f00832f8cad736549f"), looks := true }, kinds := [], alts := [], laidByText := true, laidKinds := [.handle, .sentinel, .sentinel, .sentinel, .sentinel], laidTests := true, laidLooks := .later }
def FnScansUptoCardSaid : Prop := Claim7.holds Tryz.pinned (.plain (OpenSpec.upto fnScansSpec)) fnScansUptoCard

/-- THE SECOND FORM's CARD OF 'laws.FnExactTouched'. -/
def fnExactTouchedUptoCard : Claim7 := { stood := { row := fnExactTouchedUptoRow, standIns := [], harness := (true, "97393dac2ec23c84b8bb3f7fae1a48bf7f9f981fb5e226f00832f8cad736549f"), looks := true }, kinds := [], alts := [], laidByText := true, laidKinds := [.handle, .sentinel, .sentinel, .sentinel, .sentinel], laidTests := true, laidLooks := .later }
def FnExactTouchedUptoCardSaid : Prop := Claim7.holds Tryz.pinned (.plain (OpenSpec.upto fnExactTouchedSpec)) fnExactTouchedUptoCard

/-- THE SECOND FORM's CARD OF 'laws.FnExactScanned'. -/
def fnExactScannedUptoCard : Claim7 := { stood := { row := fnExactScannedUptoRow, standIns := [], harness := (true, "97393dac2ec23c84b8bb3f7fae1a48bf7f9f981fb5e226f00832f8cad736549f"), looks := true }, kinds := [], alts := [], laidByText := true, laidKinds := [.handle, .sentinel, .sentinel, .sentinel, .sentinel], laidTests := true, laidLooks := .later }
def FnExactScannedUptoCardSaid : Prop := Claim7.holds Tryz.pinned (.plain (OpenSpec.upto fnExactScannedSpec)) fnExactScannedUptoCard
end Rows
end Go.Proofs.YteopplldbcgjjaaGreatDoor
