/-
  DERIVED. GIVEN WITH THE SEED: THE CARDS: each row of YtfdhgimpdmhdeaaGreatDoorRows.lean that lists a variable, with what it lists TIED to the program's text (the seventh form; the later family's looks); each row that meets fmt, with fmt's text TOLD by the authors' own Lean function (tested against real Go, not proved from fmt's source: count such statements apart). THE CARD IS WHAT COUNTS. Prove the row's statement (the work); the ties are given (YtfdhgimpdmhdeaaGreatDoorTie.lean); close each card by the builder's one call (the guide's Derived/Test/ToyasCard.lean, 'card_holds'). Laid BY PROGRAM, IN A SANDBOX (cutbox-door.mjs). By AI agents, Wed Nov 11 2026. No macro, syntax, notation, axiom, sorry.
-/
import Derived.Test.YtfdhgimpdmhdeaaGreatDoorRows
import GoSem.ClaimSeven
namespace Go.Proofs.YtfdhgimpdmhdeaaGreatDoor
namespace Rows

/-- THE TIED CARD OF 'besomlaw02.SheetCounts'. -/
def sheetCountsCard : Claim7 := { stood := { row := sheetCountsRow, standIns := [], harness := (true, "4feba087a2a3682077124f1fb6c9e28d05ab9da792dca8c0fe1bbcc1c3d7957b"), looks := true }, kinds := [], alts := [], laidByText := true, laidKinds := [.data, .data, .data, .data, .sentinel, .sentinel, .pinned], laidTests := true, laidLooks := .later }
def SheetCountsCardSaid : Prop := Claim7.holds Tryz.pinned (.plain (OpenSpec.ofChange sheetCountsSpec)) sheetCountsCard

/-- THE TIED CARD OF 'besomlaw02.SheetOwns'. -/
def sheetOwnsCard : Claim7 := { stood := { row := sheetOwnsRow, standIns := [], harness := (true, "4feba087a2a3682077124f1fb6c9e28d05ab9da792dca8c0fe1bbcc1c3d7957b"), looks := true }, kinds := [], alts := [], laidByText := true, laidKinds := [.data, .data, .data, .data, .sentinel, .sentinel, .pinned], laidTests := true, laidLooks := .later }
def SheetOwnsCardSaid : Prop := Claim7.holds Tryz.pinned (.plain (OpenSpec.ofChange sheetOwnsSpec)) sheetOwnsCard

/-- THE SECOND FORM's CARD OF 'besomlaw02.SheetCounts'. -/
def sheetCountsUptoCard : Claim7 := { stood := { row := sheetCountsUptoRow, standIns := [], harness := (true, "4feba087a2a3682077124f1fb6c9e28d05ab9da792dca8c0fe1bbcc1c3d7957b"), looks := true }, kinds := [], alts := [], laidByText := true, laidKinds := [.data, .data, .data, .data, .sentinel, .sentinel, .pinned], laidTests := true, laidLooks := .later }
def SheetCountsUptoCardSaid : Prop := Claim7.holds Tryz.pinned (.plain (OpenSpec.upto sheetCountsSpec)) sheetCountsUptoCard

/-- THE SECOND FORM's CARD OF 'besomlaw02.SheetOwns'. -/
def sheetOwnsUptoCard : Claim7 := { stood := { row := sheetOwnsUptoRow, standIns := [], harness := (true, "4feba087a2a3682077124f1fb6c9e28d05ab9da792dca8c0fe1bbcc1c3d7957b"), looks := true }, kinds := [], alts := [], laidByText := true, laidKinds := [.data, .data, .data, .data, .sentinel, .sentinel, .pinned], laidTests := true, laidLooks := .later }
def SheetOwnsUptoCardSaid : Prop := Claim7.holds Tryz.pinned (.plain (OpenSpec.upto sheetOwnsSpec)) sheetOwnsUptoCard
end Rows
end Go.Proofs.YtfdhgimpdmhdeaaGreatDoor
