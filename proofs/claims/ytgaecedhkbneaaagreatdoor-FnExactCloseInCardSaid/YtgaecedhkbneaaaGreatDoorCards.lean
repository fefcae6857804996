/-
  DERIVED. GIVEN WITH THE SEED: THE CARDS: each row of YtgaecedhkbneaaaGreatDoorRows.lean that lists a variable, with what it lists TIED to the program's text (the seventh form; the later family's looks); each row that meets fmt, with fmt's text TOLD by the authors' own Lean function (tested against real Go, not proved from fmt's source: count such statements apart). THE CARD IS WHAT COUNTS. Prove the row's statement (the work); the ties are given (YtgaecedhkbneaaaGreatDoorTie.lean); close each card by the builder's one call (the guide's Derived/Test/ToyasCard.lean, 'card_holds'). Laid BY PROGRAM, IN A SANDBOX (cutbox-door.mjs). By AI agents, Wed Nov 11 2026. No macro, syntax, notation, axiom, sorry.
-/
import Derived.Test.YtgaecedhkbneaaaGreatDoorRows
import GoSem.ClaimSeven
namespace Go.Proofs.YtgaecedhkbneaaaGreatDoor
namespace Rows

/-- THE TIED CARD OF 'laws.FnVolumes'. -/
def fnVolumesCard : Claim7 := { stood := { row := fnVolumesRow, standIns := [], harness := (true, "36231dbe7ade94cf8f8db2ffd2ea77a810a9b7dcbcb8a9850cad9a49f7f0de46"), looks := true }, kinds := [], alts := [], laidByText := true, laidKinds := [.handle, .sentinel, .sentinel, .sentinel, .sentinel], laidTests := true, laidLooks := .later }
def FnVolumesCardSaid : Prop := Claim7.holds Tryz.pinned (.plain (OpenSpec.ofChange fnVolumesSpec)) fnVolumesCard

/-- THE TIED CARD OF 'laws.FnExactReadIn'. -/
def fnExactReadInCard : Claim7 := { stood := { row := fnExactReadInRow, standIns := [], harness := (true, "36231dbe7ade94cf8f8db2ffd2ea77a810a9b7dcbcb8a9850cad9a49f7f0de46"), looks := true }, kinds := [], alts := [], laidByText := true, laidKinds := [.handle, .sentinel, .sentinel, .sentinel, .sentinel], laidTests := true, laidLooks := .later }
def FnExactReadInCardSaid : Prop := Claim7.holds Tryz.pinned (.plain (OpenSpec.ofChange fnExactReadInSpec)) fnExactReadInCard

/-- THE TIED CARD OF 'laws.FnExactWriteIn'. -/
def fnExactWriteInCard : Claim7 := { stood := { row := fnExactWriteInRow, standIns := [], harness := (true, "36231dbe7ade94cf8f8db2ffd2ea77a810a9b7dcbcb8a9850cad9a49f7f0de46"), looks := true }, kinds := [], alts := [], laidByText := true, laidKinds := [.handle, .sentinel, .sentinel, .sentinel, .sentinel], laidTests := true, laidLooks := .later }
def FnExactWriteInCardSaid : Prop := Claim7.holds Tryz.pinned (.plain (OpenSpec.ofChange fnExactWriteInSpec)) fnExactWriteInCard

/-- THE TIED CARD OF 'laws.FnExactStepIn'. -/
def fnExactStepInCard : Claim7 := { stood := { row := fnExactStepInRow, standIns := [], harness := (true, "36231dbe7ade94cf8f8db2ffd2ea77a810a9b7dcbcb8a9850cad9a49f7f0de46"), looks := true }, kinds := [], alts := [], laidByText := true, laidKinds := [.handle, .sentinel, .sentinel, .sentinel, .sentinel], laidTests := true, laidLooks := .later }
def FnExactStepInCardSaid : Prop := Claim7.holds Tryz.pinned (.plain (OpenSpec.ofChange fnExactStepInSpec)) fnExactStepInCard

/-- THE TIED CARD OF 'laws.FnExactCloseIn'. -/
def fnExactCloseInCard : Claim7 := { stood := { row := fnExactCloseInRow, standIns := [], harness := (true, "36231dbe7ade94cf8f8db2ffd2ea77a810a9b7dcbcb8a9850cad9a49f7f0de46"), looks := true }, kinds := [], alts := [], laidByText := true, laidKinds := [.handle, .sentinel, .sentinel, .sentinel, .sentinel], laidTests := true, laidLooks := .later }
def FnExactCloseInCardSaid : Prop := Claim7.holds Tryz.pinned (.plain (OpenSpec.ofChange fnExactCloseInSpec)) fnExactCloseInCard

/-- THE SECOND FORM's CARD OF 'laws.FnVolumes'. -/
def fnVolumesUptoCard : Claim7 := { stood := { row := fnVolumesUptoRow, standIns := [], harness := (true, "36231dbe7ade94cf8f8db2ffd2ea77a810a9b7dcbcb8a9850cad9a49f7f0de46"), looks := true }, kinds := [], alts := [], laidByText := true, laidKinds := [.handle, .sentinel, .sentinel, .sentinel, .sentinel], laidTests := true, laidLooks := .later }
def FnVolumesUptoCardSaid : Prop := Claim7.holds Tryz.pinned (.plain (OpenSpec.upto fnVolumesSpec)) fnVolumesUptoCard

/-- THE SECOND FORM's CARD OF 'laws.FnExactReadIn'. -/
def fnExactReadInUptoCard : Claim7 := { stood := { row := fnExactReadInUptoRow, standIns := [], harness := (true, "36231dbe7ade94cf8f8db2ffd2ea77a810a9b7dcbcb8a9850cad9a49f7f0de46"), looks := true }, kinds := [], alts := [], laidByText := true, laidKinds := [.handle, .sentinel, .sentinel, .sentinel, .sentinel], laidTests := true, laidLooks := .later }
def FnExactReadInUptoCardSaid : Prop := Claim7.holds Tryz.pinned (.plain (OpenSpec.upto fnExactReadInSpec)) fnExactReadInUptoCard

/-- THE SECOND FORM's CARD OF 'laws.FnExactWriteIn'. -/
def fnExactWriteInUptoCard : Claim7 := { stood := { row := fnExactWriteInUptoRow, standIns := [], harness := (true, "36231dbe7ade94cf8f8db2ffd2ea77a810a9b7dcbcb8a9850cad9a49f7f0de46"), looks := true }, kinds := [], alts := [], laidByText := true, laidKinds := [.handle, .sentinel, .sentinel, .sentinel, .sentinel], laidTests := true, laidLooks := .later }
def FnExactWriteInUptoCardSaid : Prop := Claim7.holds Tryz.pinned (.plain (OpenSpec.upto fnExactWriteInSpec)) fnExactWriteInUptoCard

/-- THE SECOND FORM's CARD OF 'laws.FnExactStepIn'. -/
def fnExactStepInUptoCard : Claim7 := { stood := { row := fnExactStepInUptoRow, standIns := [], harness := (true, "36231dbe7ade94cf8f8db2ffd2ea77a810a9b7dcbcb8a9850cad9a49f7f0de46"), looks := true }, kinds := [], alts := [], laidByText := true, laidKinds := [.handle, .sentinel, .sentinel, .sentinel, .sentinel], laidTests := true, laidLooks := .later }
def FnExactStepInUptoCardSaid : Prop := Claim7.holds Tryz.pinned (.plain (OpenSpec.upto fnExactStepInSpec)) fnExactStepInUptoCard

/-- THE SECOND FORM's CARD OF 'laws.FnExactCloseIn'. -/
def fnExactCloseInUptoCard : Claim7 := { stood := { row := fnExactCloseInUptoRow, standIns := [], harness := (true, "36231dbe7ade94cf8f8db2ffd2ea77a810a9b7dcbcb8a9850cad9a49f7f0de46"), looks := true }, kinds := [], alts := [], laidByText := true, laidKinds := [.handle, .sentinel, .sentinel, .sentinel, .sentinel], laidTests := true, laidLooks := .later }
def FnExactCloseInUptoCardSaid : Prop := Claim7.holds Tryz.pinned (.plain (OpenSpec.upto fnExactCloseInSpec)) fnExactCloseInUptoCard
end Rows
end Go.Proofs.YtgaecedhkbneaaaGreatDoor
