/- Where a stone is: package sheet's Find, and the document's. -/
import Derived.Test.YtfdhgimpdmhdeaaGreatDoorCount
import Derived.Test.YtfdhgimpdmhdeaaGreatDoorRefOverlap
namespace Go.Proofs.YtfdhgimpdmhdeaaGreatDoor
open Go Go.RowKit Go.Sort

/-- Is it that stone? -/
def isS (t n : Int) (s : St) : Bool := decide (s.t = t) && decide (s.n = n)
/-- The first stone that is so. -/
def FirstS (F : St → Bool) (L : List St) (r : Int) : Prop := (∃ k : Nat, (k < L.length ∧ r = (k : Int)) ∧ F (el L k) = true ∧ ∀ j, j < k → F (el L j) = false) ∨ (r = -1 ∧ ∀ j, j < L.length → F (el L j) = false)
theorem firstS_uniq {F : St → Bool} {L : List St} {r r' : Int} (h : FirstS F L r) (h' : FirstS F L r') : r = r' := by
  rcases h with ⟨k, ⟨h1, rfl⟩, h2, h3⟩ | ⟨rfl, h3⟩ <;> rcases h' with ⟨k', ⟨g1, rfl⟩, g2, g3⟩ | ⟨rfl, g3⟩
  · have a : ¬ k < k' := fun h => by have := g3 k h; rw [h2] at this; cases this
    have b : ¬ k' < k := fun h => by have := h3 k' h; rw [g2] at this; cases this
    omega
  · have := g3 k h1; rw [h2] at this; cases this
  · have := h3 k' g1; rw [g2] at this; cases this
  · rfl

/-- What Find says of an index. -/
def findS (r : Int) : Int × Int := if r < 0 then (0, 7) else (r, 0)

end Go.Proofs.YtfdhgimpdmhdeaaGreatDoor
