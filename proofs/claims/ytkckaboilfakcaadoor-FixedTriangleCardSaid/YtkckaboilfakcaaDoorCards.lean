/-
  DERIVED. GIVEN WITH THE SEED: THE CARDS: each row of YtkckaboilfakcaaDoorRows.lean that lists a variable, with what it lists TIED to the program's text (the seventh form; the later family's looks); each row that meets fmt, with fmt's text TOLD by the authors' own Lean function (tested against real Go, not proved from fmt's source: count such statements apart). THE CARD IS WHAT COUNTS. Prove the row's statement (the work); the ties are given (YtkckaboilfakcaaDoorTie.lean); close each card by the builder's one call (the guide's Derived/Test/ToyasCard.lean, 'card_holds'). Laid BY PROGRAM, IN A SANDBOX (cutbox-door.mjs). By AI agents, Wed Nov 11 2026. No macro, syntax, notation, axiom, sorry.
-/
import Derived.Test.YtkckaboilfakcaaDoorRows
import GoSem.ClaimSeven
namespace Go.Proofs.YtkckaboilfakcaaDoor
namespace Rows

/-- THE TIED CARD OF 'besomlaw01.FixedRounds'. -/
def fixedRoundsCard : Claim7 := { stood := { row := fixedRoundsRow, standIns := [], harness := (true, "72a076bb96e9b54c04d8533c9abeba1a465d764d598948b87eab4bc9aeabf9b3"), looks := true }, kinds := [], alts := [], laidByText := true, laidKinds := [.data, .pinned], laidTests := true, laidLooks := .later }
def FixedRoundsCardSaid : Prop := Claim7.holds Tryd.pinned (.plain (OpenSpec.ofChange fixedRoundsSpec)) fixedRoundsCard

/-- THE TIED CARD OF 'besomlaw01.FixedExact'. -/
def fixedExactCard : Claim7 := { stood := { row := fixedExactRow, standIns := [], harness := (true, "72a076bb96e9b54c04d8533c9abeba1a465d764d598948b87eab4bc9aeabf9b3"), looks := true }, kinds := [], alts := [], laidByText := true, laidKinds := [.data, .pinned], laidTests := true, laidLooks := .later }
def FixedExactCardSaid : Prop := Claim7.holds Tryd.pinned (.plain (OpenSpec.ofChange fixedExactSpec)) fixedExactCard

/-- THE TIED CARD OF 'besomlaw01.FixedRootBack'. -/
def fixedRootBackCard : Claim7 := { stood := { row := fixedRootBackRow, standIns := [], harness := (true, "72a076bb96e9b54c04d8533c9abeba1a465d764d598948b87eab4bc9aeabf9b3"), looks := true }, kinds := [], alts := [], laidByText := true, laidKinds := [.data, .pinned], laidTests := true, laidLooks := .later }
def FixedRootBackCardSaid : Prop := Claim7.holds Tryd.pinned (.plain (OpenSpec.ofChange fixedRootBackSpec)) fixedRootBackCard

/-- THE TIED CARD OF 'besomlaw01.FixedBack'. -/
def fixedBackCard : Claim7 := { stood := { row := fixedBackRow, standIns := [], harness := (true, "72a076bb96e9b54c04d8533c9abeba1a465d764d598948b87eab4bc9aeabf9b3"), looks := true }, kinds := [], alts := [], laidByText := true, laidKinds := [.data, .data, .data, .data, .pinned], laidTests := true, laidLooks := .later }
def FixedBackCardSaid : Prop := Claim7.holds Tryd.pinned (.plain (OpenSpec.ofChange fixedBackSpec)) fixedBackCard

/-- THE TIED CARD OF 'besomlaw01.FixedTriangle'. -/
def fixedTriangleCard : Claim7 := { stood := { row := fixedTriangleRow, standIns := [], harness := (true, "72a076bb96e9b54c04d8533c9abeba1a465d764d598948b87eab4bc9aeabf9b3"), looks := true }, kinds := [], alts := [], laidByText := true, laidKinds := [.data, .pinned], laidTests := true, laidLooks := .later }
def FixedTriangleCardSaid : Prop := Claim7.holds Tryd.pinned (.plain (OpenSpec.ofChange fixedTriangleSpec)) fixedTriangleCard

/-- THE TIED CARD OF 'besomlaw01.FixedUnits'. -/
def fixedUnitsCard : Claim7 := { stood := { row := fixedUnitsRow, standIns := [], harness := (true, "72a076bb96e9b54c04d8533c9abeba1a465d764d598948b87eab4bc9aeabf9b3"), looks := true }, kinds := [], alts := [], laidByText := true, laidKinds := [.data, .pinned], laidTests := true, laidLooks := .later }
def FixedUnitsCardSaid : Prop := Claim7.holds Tryd.pinned (.plain (OpenSpec.ofChange fixedUnitsSpec)) fixedUnitsCard

/-- THE SECOND FORM's CARD OF 'besomlaw01.FixedRounds'. -/
def fixedRoundsUptoCard : Claim7 := { stood := { row := fixedRoundsUptoRow, standIns := [], harness := (true, "72a076bb96e9b54c04d8533c9abeba1a465d764d598948b87eab4bc9aeabf9b3"), looks := true }, kinds := [], alts := [], laidByText := true, laidKinds := [.data, .pinned], laidTests := true, laidLooks := .later }
def FixedRoundsUptoCardSaid : Prop := Claim7.holds Tryd.pinned (.plain (OpenSpec.upto fixedRoundsSpec)) fixedRoundsUptoCard

/-- THE SECOND FORM's CARD OF 'besomlaw01.FixedExact'. -/
def fixedExactUptoCard : Claim7 := { stood := { row := fixedExactUptoRow, standIns := [], harness := (true, "72a076bb96e9b54c04d8533c9abeba1a465d764d598948b87eab4bc9aeabf9b3"), looks := true }, kinds := [], alts := [], laidByText := true, laidKinds := [.data, .pinned], laidTests := true, laidLooks := .later }
def FixedExactUptoCardSaid : Prop := Claim7.holds Tryd.pinned (.plain (OpenSpec.upto fixedExactSpec)) fixedExactUptoCard

/-- THE SECOND FORM's CARD OF 'besomlaw01.FixedRootBack'. -/
def fixedRootBackUptoCard : Claim7 := { stood := { row := fixedRootBackUptoRow, standIns := [], harness := (true, "72a076bb96e9b54c04d8533c9abeba1a465d764d598948b87eab4bc9aeabf9b3"), looks := true }, kinds := [], alts := [], laidByText := true, laidKinds := [.data, .pinned], laidTests := true, laidLooks := .later }
def FixedRootBackUptoCardSaid : Prop := Claim7.holds Tryd.pinned (.plain (OpenSpec.upto fixedRootBackSpec)) fixedRootBackUptoCard

/-- THE SECOND FORM's CARD OF 'besomlaw01.FixedBack'. -/
def fixedBackUptoCard : Claim7 := { stood := { row := fixedBackUptoRow, standIns := [], harness := (true, "72a076bb96e9b54c04d8533c9abeba1a465d764d598948b87eab4bc9aeabf9b3"), looks := true }, kinds := [], alts := [], laidByText := true, laidKinds := [.data, .data, .data, .data, .pinned], laidTests := true, laidLooks := .later }
def FixedBackUptoCardSaid : Prop := Claim7.holds Tryd.pinned (.plain (OpenSpec.upto fixedBackSpec)) fixedBackUptoCard

/-- THE SECOND FORM's CARD OF 'besomlaw01.FixedTriangle'. -/
def fixedTriangleUptoCard : Claim7 := { stood := { row := fixedTriangleUptoRow, standIns := [], harness := (true, "72a076bb96e9b54c04d8533c9abeba1a465d764d598948b87eab4bc9aeabf9b3"), looks := true }, kinds := [], alts := [], laidByText := true, laidKinds := [.data, .pinned], laidTests := true, laidLooks := .later }
def FixedTriangleUptoCardSaid : Prop := Claim7.holds Tryd.pinned (.plain (OpenSpec.upto fixedTriangleSpec)) fixedTriangleUptoCard

/-- THE SECOND FORM's CARD OF 'besomlaw01.FixedUnits'. -/
def fixedUnitsUptoCard : Claim7 := { stood := { row := fixedUnitsUptoRow, standIns := [], harness := (true, "72a076bb96e9b54c04d8533c9abeba1a465d764d598948b87eab4bc9aeabf9b3"), looks := true }, kinds := [], alts := [], laidByText := true, laidKinds := [.data, .pinned], laidTests := true, laidLooks := .later }
def FixedUnitsUptoCardSaid : Prop := Claim7.holds Tryd.pinned (.plain (OpenSpec.upto fixedUnitsSpec)) fixedUnitsUptoCard
end Rows
end Go.Proofs.YtkckaboilfakcaaDoor
