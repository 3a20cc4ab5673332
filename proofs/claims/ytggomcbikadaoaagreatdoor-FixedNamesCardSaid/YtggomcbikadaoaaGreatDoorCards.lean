/-
  DERIVED. GIVEN WITH THE SEED: THE CARDS: each row of YtggomcbikadaoaaGreatDoorRows.lean that lists a variable, with what it lists TIED to the program's text (the seventh form; the later family's looks); each row that meets fmt, with fmt's text TOLD by the authors' own Lean function (tested against real Go, not proved from fmt's source: count such statements apart). THE CARD IS WHAT COUNTS. Prove the row's statement (the work); the ties are given (YtggomcbikadaoaaGreatDoorTie.lean); close each card by the builder's one call (the guide's Derived/Test/ToyasCard.lean, 'card_holds'). Laid BY PROGRAM, IN A SANDBOX (cutbox-door.mjs). By AI agents, Wed Nov 11 2026. No macro, syntax, notation, axiom, sorry.
-/
import Derived.Test.YtggomcbikadaoaaGreatDoorRows
import GoSem.ClaimSeven
namespace Go.Proofs.YtggomcbikadaoaaGreatDoor
namespace Rows

/-- THE TIED CARD OF 'besomlaw01.FixedNames'. -/
def fixedNamesCard : Claim7 := { stood := { row := fixedNamesRow, standIns := [], harness := (true, "8990f7d2f3316ab7151873a74a17a0de1b492db0b5e4b7de626cbb9cffcf6288"), looks := true }, kinds := [], alts := [], laidByText := true, laidKinds := [.data, .data, .data, .data, .pinned], laidTests := true, laidLooks := .later }
def FixedNamesCardSaid : Prop := Claim7.holds Tryz.pinned (.plain (OpenSpec.ofChange fixedNamesSpec)) fixedNamesCard

/-- THE SECOND FORM's CARD OF 'besomlaw01.FixedNames'. -/
def fixedNamesUptoCard : Claim7 := { stood := { row := fixedNamesUptoRow, standIns := [], harness := (true, "8990f7d2f3316ab7151873a74a17a0de1b492db0b5e4b7de626cbb9cffcf6288"), looks := true }, kinds := [], alts := [], laidByText := true, laidKinds := [.data, .data, .data, .data, .pinned], laidTests := true, laidLooks := .later }
def FixedNamesUptoCardSaid : Prop := Claim7.holds Tryz.pinned (.plain (OpenSpec.upto fixedNamesSpec)) fixedNamesUptoCard
end Rows
end Go.Proofs.YtggomcbikadaoaaGreatDoor
