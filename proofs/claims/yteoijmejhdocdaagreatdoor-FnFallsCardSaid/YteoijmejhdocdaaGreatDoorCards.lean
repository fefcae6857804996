/-
  DERIVED. GIVEN WITH THE SEED: THE CARDS: each row of YteoijmejhdocdaaGreatDoorRows.lean that lists a variable, with what it lists TIED to the program's text (the seventh form; the later family's looks); each row that meets fmt, with fmt's text TOLD by the authors' own Lean function (tested against real Go, not proved from fmt's source: count such statements apart). THE CARD IS WHAT COUNTS. Prove the row's statement (the work); the ties are given (YteoijmejhdocdaaGreatDoorTie.lean); close each card by the builder's one call (the guide's Derived/Test/ToyasCard.lean, 'card_holds'). Laid BY PROGRAM, IN A SANDBOX (cutbox-door.mjs). By AI agents, Wed Nov 11 2026. No macro, syntax, notation, axiom, sorry.
-/
import Derived.Test.YteoijmejhdocdaaGreatDoorRows
import GoSem.ClaimSeven
namespace Go.Proofs.YteoijmejhdocdaaGreatDoor
namespace Rows

/-- THE TIED CARD OF 'laws.FnVolumes'. -/
def fnVolumesCard : Claim7 := { stood := { row := fnVolumesRow, standIns := [], harness := (true, "b1b0be842b10664774bbeb9c76d3ca796181b98abda70ce0fb57f1a72cd79374"), looks := true }, kinds := [], alts := [], laidByText := true, laidKinds := [.handle, .sentinel, .sentinel, .sentinel, .sentinel], laidTests := true, laidLooks := .later }
def FnVolumesCardSaid : Prop := Claim7.holds Tryz.pinned (.plain (OpenSpec.ofChange fnVolumesSpec)) fnVolumesCard

/-- THE TIED CARD OF 'laws.FnFalls'. -/
def fnFallsCard : Claim7 := { stood := { row := fnFallsRow, standIns := [], harness := (true, "b1b0be842b10664774bbeb9c76d3ca796181b98abda70ce0fb57f1a72cd79374"), looks := true }, kinds := [], alts := [], laidByText := true, laidKinds := [.sentinel], laidTests := true, laidLooks := .later }
def FnFallsCardSaid : Prop := Claim7.holds Tryz.pinned (.plain (OpenSpec.ofChange fnFallsSpec)) fnFallsCard

/-- THE TIED CARD OF 'laws.FnExactSavedTo'. -/
def fnExactSavedToCard : Claim7 := { stood := { row := fnExactSavedToRow, standIns := [], harness := (true, "b1b0be842b10664774bbeb9c76d3ca796181b98abda70ce0fb57f1a72cd79374"), looks := true }, kinds := [], alts := [], laidByText := true, laidKinds := [.sentinel], laidTests := true, laidLooks := .later }
def FnExactSavedToCardSaid : Prop := Claim7.holds Tryz.pinned (.plain (OpenSpec.ofChange fnExactSavedToSpec)) fnExactSavedToCard

/-- THE TIED CARD OF 'laws.FnExactFallen'. -/
def fnExactFallenCard : Claim7 := { stood := { row := fnExactFallenRow, standIns := [], harness := (true, "b1b0be842b10664774bbeb9c76d3ca796181b98abda70ce0fb57f1a72cd79374"), looks := true }, kinds := [], alts := [], laidByText := true, laidKinds := [.sentinel], laidTests := true, laidLooks := .later }
def FnExactFallenCardSaid : Prop := Claim7.holds Tryz.pinned (.plain (OpenSpec.ofChange fnExactFallenSpec)) fnExactFallenCard

/-- THE TIED CARD OF 'laws.FnExactSpoilt'. -/
def fnExactSpoiltCard : Claim7 := { stood := { row := fnExactSpoiltRow, standIns := [], harness := (true, "b1b0be842b10664774bbeb9c76d3ca796181b98abda70ce0fb57f1a72cd79374"), looks := true }, kinds := [], alts := [], laidByText := true, laidKinds := [.sentinel], laidTests := true, laidLooks := .later }
def FnExactSpoiltCardSaid : Prop := Claim7.holds Tryz.pinned (.plain (OpenSpec.ofChange fnExactSpoiltSpec)) fnExactSpoiltCard

/-- THE SECOND FORM's CARD OF 'laws.FnVolumes'. -/
def fnVolumesUptoCard : Claim7 := { stood := { row := fnVolumesUptoRow, standIns := [], harness := (true, "b1b0be842b10664774bbeb9c76d3ca796181b98abda70ce0fb57f1a72cd79374"), looks := true }, kinds := [], alts := [], laidByText := true, laidKinds := [.handle, .sentinel, .sentinel, .sentinel, .sentinel], laidTests := true, laidLooks := .later }
def FnVolumesUptoCardSaid : Prop := Claim7.holds Tryz.pinned (.plain (OpenSpec.upto fnVolumesSpec)) fnVolumesUptoCard

/-- THE SECOND FORM's CARD OF 'laws.FnFalls'. -/
def fnFallsUptoCard : Claim7 := { stood := { row := fnFallsUptoRow, standIns := [], harness := (true, "b1b0be842b10664774bbeb9c76d3ca796181b98abda70ce0fb57f1a72cd79374"), looks := true }, kinds := [], alts := [], laidByText := true, laidKinds := [.sentinel], laidTests := true, laidLooks := .later }
def FnFallsUptoCardSaid : Prop := Claim7.holds Tryz.pinned (.plain (OpenSpec.upto fnFallsSpec)) fnFallsUptoCard

/-- THE SECOND FORM's CARD OF 'laws.FnExactSavedTo'. -/
def fnExactSavedToUptoCard : Claim7 := { stood := { row := fnExactSavedToUptoRow, standIns := [], harness := (true, "b1b0be842b10664774bbeb9c76d3ca796181b98abda70ce0fb57f1a72cd79374"), looks := true }, kinds := [], alts := [], laidByText := true, laidKinds := [.sentinel], laidTests := true, laidLooks := .later }
def FnExactSavedToUptoCardSaid : Prop := Claim7.holds Tryz.pinned (.plain (OpenSpec.upto fnExactSavedToSpec)) fnExactSavedToUptoCard

/-- THE SECOND FORM's CARD OF 'laws.FnExactFallen'. -/
def fnExactFallenUptoCard : Claim7 := { stood := { row := fnExactFallenUptoRow, standIns := [], harness := (true, "b1b0be842b10664774bbeb9c76d3ca796181b98abda70ce0fb57f1a72cd79374"), looks := true }, kinds := [], alts := [], laidByText := true, laidKinds := [.sentinel], laidTests := true, laidLooks := .later }
def FnExactFallenUptoCardSaid : Prop := Claim7.holds Tryz.pinned (.plain (OpenSpec.upto fnExactFallenSpec)) fnExactFallenUptoCard

/-- THE SECOND FORM's CARD OF 'laws.FnExactSpoilt'. -/
def fnExactSpoiltUptoCard : Claim7 := { stood := { row := fnExactSpoiltUptoRow, standIns := [], harness := (true, "b1b0be842b10664774bbeb9c76d3ca796181b98abda70ce0fb57f1a72cd79374"), looks := true }, kinds := [], alts := [], laidByText := true, laidKinds := [.sentinel], laidTests := true, laidLooks := .later }
def FnExactSpoiltUptoCardSaid : Prop := Claim7.holds Tryz.pinned (.plain (OpenSpec.upto fnExactSpoiltSpec)) fnExactSpoiltUptoCard
end Rows
end Go.Proofs.YteoijmejhdocdaaGreatDoor
