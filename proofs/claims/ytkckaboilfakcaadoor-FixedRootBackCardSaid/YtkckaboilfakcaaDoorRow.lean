/- What every row's proof of this seat needs: a memory in which the listed variables hold what their initialisers lay; arguments opened and shut. -/
import Derived.Test.YtkckaboilfakcaaDoorCards
import Derived.Test.YtkckaboilfakcaaDoorTie
import Derived.WalkKit
import Derived.ProofKit
import Derived.OpenShut
import Derived.Deep.DeepHandedRow
namespace Go.Proofs.YtkckaboilfakcaaDoor
open Go.ChangeShapes Go.WideShapes Go.ChangeAt Go.RowKit

theorem own : ownKnob Tryd.prog.godebug = none := by kernel_rfl

/-- A table's cells, out of its datum. -/
def cellsOne {H : Type} : DataW H → List Value
  | .lit (.int k n) => [.int k n]
  | _ => []
def cellsRow {H : Type} : DataW H → List Value
  | .agg xs => xs.flatMap cellsOne
  | d => cellsOne d
def cellsAll {H : Type} : DataW H → Array Value
  | .agg xs => (xs.flatMap cellsRow).toArray
  | _ => #[]

/-- A block's cells, put in. -/
def putCells (cs : Array Value) : Obj → Obj
  | .cells _ t frozen => .cells cs t frozen
  | o => o

/-- A world for the witness: the settled one, the tables holding what their initialisers lay. -/
noncomputable def laidWorld (os : Os) : World :=
  { World.holding Tryd.prog os ⟨#[], #[], []⟩ with heap := (((((World.holding Tryd.prog os ⟨#[], #[], []⟩).heap.modify 4 (putCells (cellsAll Rows.laid_unicode_utf8_first))).modify 5 (putCells (cellsAll (H := Unit) Rows.laid_unicode_utf8_acceptRanges))).modify 2 (putCells (cellsAll (H := Unit) Rows.laid_internal_strconv_uint64pow10))).modify 6 (putCells (cellsAll (H := Unit) Rows.laid_math_bits_deBruijn32tab))).modify 7 (putCells (cellsAll (H := Unit) Rows.laid_math_bits_deBruijn64tab)) }

theorem wf_i32 {n : Int} (h : (Lit.int .i32 n).wf = true) : -2147483648 ≤ n ∧ n ≤ 2147483647 := by
  simp only [Lit.wf, Bool.and_eq_true, decide_eq_true_eq] at h
  exact ⟨Int.le_trans (by decide) h.1, Int.le_trans h.2 (by decide)⟩
theorem wf_i64 {n : Int} (h : (Lit.int .i64 n).wf = true) : -9223372036854775808 ≤ n ∧ n ≤ 9223372036854775807 := by
  simp only [Lit.wf, Bool.and_eq_true, decide_eq_true_eq] at h
  exact ⟨Int.le_trans (by decide) h.1, Int.le_trans h.2 (by decide)⟩

end Go.Proofs.YtkckaboilfakcaaDoor
