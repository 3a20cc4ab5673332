/-
  DERIVED. GIVEN WITH THE SEED: THE CARDS: each row of YtebfhjndgfcijaaGreatDoorRows.lean that lists a variable, with what it lists TIED to the program's text (the seventh form; the later family's looks); each row that meets fmt, with fmt's text TOLD by the authors' own Lean function (tested against real Go, not proved from fmt's source: count such statements apart). THE CARD IS WHAT COUNTS. Prove the row's statement (the work); the ties are given (YtebfhjndgfcijaaGreatDoorTie.lean); close each card by the builder's one call (the guide's Derived/Test/ToyasCard.lean, 'card_holds'). Laid BY PROGRAM, IN A SANDBOX (cutbox-door.mjs). By AI agents, Wed Nov 11 2026. No macro, syntax, notation, axiom, sorry.
-/
import Derived.Test.YtebfhjndgfcijaaGreatDoorRows
import GoSem.ClaimSeven
namespace Go.Proofs.YtebfhjndgfcijaaGreatDoor
namespace Rows

/-- THE TIED CARD OF 'besomlaw01.FixedTexts'. -/
def fixedTextsCard : Claim7 := { stood := { row := fixedTextsRow, standIns := [], harness := (true, "105a57f944471ff468026c5fa63e251f014b0515e75468aa62d0474ec7fc3b22"), looks := true }, kinds := [], alts := [], laidByText := true, laidKinds := [.data, .data, .data, .data, .pinned], laidTests := true, laidLooks := .later }
def FixedTextsCardSaid : Prop := Claim7.holds Tryz.pinned (.plain (OpenSpec.ofChange fixedTextsSpec)) fixedTextsCard

/-- THE TIED CARD OF 'besomlaw01.FixedSpots'. -/
def fixedSpotsCard : Claim7 := { stood := { row := fixedSpotsRow, standIns := [], harness := (true, "105a57f944471ff468026c5fa63e251f014b0515e75468aa62d0474ec7fc3b22"), looks := true }, kinds := [], alts := [], laidByText := true, laidKinds := [.data, .pinned], laidTests := true, laidLooks := .later }
def FixedSpotsCardSaid : Prop := Claim7.holds Tryz.pinned (.plain (OpenSpec.ofChange fixedSpotsSpec)) fixedSpotsCard

/-- THE TIED CARD OF 'besomlaw01.FixedLengths'. -/
def fixedLengthsCard : Claim7 := { stood := { row := fixedLengthsRow, standIns := [], harness := (true, "105a57f944471ff468026c5fa63e251f014b0515e75468aa62d0474ec7fc3b22"), looks := true }, kinds := [], alts := [], laidByText := true, laidKinds := [.data, .pinned], laidTests := true, laidLooks := .later }
def FixedLengthsCardSaid : Prop := Claim7.holds Tryz.pinned (.plain (OpenSpec.ofChange fixedLengthsSpec)) fixedLengthsCard

/-- THE SECOND FORM's CARD OF 'besomlaw01.FixedTexts'. -/
def fixedTextsUptoCard : Claim7 := { stood := { row := fixedTextsUptoRow, standIns := [], harness := (true, "105a57f944471ff468026c5fa63e251f014b0515e75468aa62d0474ec7fc3b22"), looks := true }, kinds := [], alts := [], laidByText := true, laidKinds := [.data, .data, .data, .data, .pinned], laidTests := true, laidLooks := .later }
def FixedTextsUptoCardSaid : Prop := Claim7.holds Tryz.pinned (.plain (OpenSpec.upto fixedTextsSpec)) fixedTextsUptoCard

/-- THE SECOND FORM's CARD OF 'besomlaw01.FixedSpots'. -/
def fixedSpotsUptoCard : Claim7 := { stood := { row := fixedSpotsUptoRow, standIns := [], harness := (true, "105a57f944471ff468026c5fa63e251f014b0515e75468aa62d0474ec7fc3b22"), looks := true }, kinds := [], alts := [], laidByText := true, laidKinds := [.data, .pinned], laidTests := true, laidLooks := .later }
def FixedSpotsUptoCardSaid : Prop := Claim7.holds Tryz.pinned (.plain (OpenSpec.upto fixedSpotsSpec)) fixedSpotsUptoCard

/-- THE SECOND FORM's CARD OF 'besomlaw01.FixedLengths'. -/
def fixedLengthsUptoCard : Claim7 := { stood := { row := fixedLengthsUptoRow, standIns := [], harness := (true, "105a57f944471ff468026c5fa63e251f014b0515e75468aa62d0474ec7fc3b22"), looks := true }, kinds := [], alts := [], laidByText := true, laidKinds := [.data, .pinned], laidTests := true, laidLooks := .later }
def FixedLengthsUptoCardSaid : Prop := Claim7.holds Tryz.pinned (.plain (OpenSpec.upto fixedLengthsSpec)) fixedLengthsUptoCard
end Rows
end Go.Proofs.YtebfhjndgfcijaaGreatDoor
