/-
  DERIVED. GIVEN WITH THE SEED: THE CARDS: each row of YtalehoghenmbfaaGreatDoorRows.lean that lists a variable, with what it lists TIED to the program's text (the seventh form; the later family's looks); each row that meets fmt, with fmt's text TOLD by the authors' own Lean function (tested against real Go, not proved from fmt's source: count such statements apart). THE CARD IS WHAT COUNTS. Prove the row's statement (the work); the ties are given (YtalehoghenmbfaaGreatDoorTie.lean); close each card by the builder's one call (the guide's Derived/Test/ToyasCard.lean, 'card_holds'). Laid BY PROGRAM, IN A SANDBOX (cutbox-door.mjs). By AI agents, Wed Nov 11 2026. No macro, syntax, notation, axiom, sorry.
-/
import Derived.Test.YtalehoghenmbfaaGreatDoorRows
import GoSem.ClaimSeven
namespace Go.Proofs.YtalehoghenmbfaaGreatDoor
namespace Rows

/-- THE TIED CARD OF 'besomlaw02.SheetPlaces'. -/
def sheetPlacesCard : Claim7 := { stood := { row := sheetPlacesRow, standIns := [], harness := (true, "4ec5b07e9935c2b640a043c1d79d657fcd15c7eba10f99caf68379591d3c2b82"), looks := true }, kinds := [], alts := [], laidByText := true, laidKinds := [.data, .data, .data, .data, .sentinel, .sentinel, .pinned], laidTests := true, laidLooks := .later }
def SheetPlacesCardSaid : Prop := Claim7.holds Tryz.pinned (.plain (OpenSpec.ofChange sheetPlacesSpec)) sheetPlacesCard

/-- THE TIED CARD OF 'besomlaw02.SheetContacts'. -/
def sheetContactsCard : Claim7 := { stood := { row := sheetContactsRow, standIns := [], harness := (true, "4ec5b07e9935c2b640a043c1d79d657fcd15c7eba10f99caf68379591d3c2b82"), looks := true }, kinds := [], alts := [], laidByText := true, laidKinds := [.data, .data, .data, .data, .sentinel, .sentinel, .pinned], laidTests := true, laidLooks := .later }
def SheetContactsCardSaid : Prop := Claim7.holds Tryz.pinned (.plain (OpenSpec.ofChange sheetContactsSpec)) sheetContactsCard

/-- THE SECOND FORM's CARD OF 'besomlaw02.SheetPlaces'. -/
def sheetPlacesUptoCard : Claim7 := { stood := { row := sheetPlacesUptoRow, standIns := [], harness := (true, "4ec5b07e9935c2b640a043c1d79d657fcd15c7eba10f99caf68379591d3c2b82"), looks := true }, kinds := [], alts := [], laidByText := true, laidKinds := [.data, .data, .data, .data, .sentinel, .sentinel, .pinned], laidTests := true, laidLooks := .later }
def SheetPlacesUptoCardSaid : Prop := Claim7.holds Tryz.pinned (.plain (OpenSpec.upto sheetPlacesSpec)) sheetPlacesUptoCard

/-- THE SECOND FORM's CARD OF 'besomlaw02.SheetContacts'. -/
def sheetContactsUptoCard : Claim7 := { stood := { row := sheetContactsUptoRow, standIns := [], harness := (true, "4ec5b07e9935c2b640a043c1d79d657fcd15c7eba10f99caf68379591d3c2b82"), looks := true }, kinds := [], alts := [], laidByText := true, laidKinds := [.data, .data, .data, .data, .sentinel, .sentinel, .pinned], laidTests := true, laidLooks := .later }
def SheetContactsUptoCardSaid : Prop := Claim7.holds Tryz.pinned (.plain (OpenSpec.upto sheetContactsSpec)) sheetContactsUptoCard
end Rows
end Go.Proofs.YtalehoghenmbfaaGreatDoor
