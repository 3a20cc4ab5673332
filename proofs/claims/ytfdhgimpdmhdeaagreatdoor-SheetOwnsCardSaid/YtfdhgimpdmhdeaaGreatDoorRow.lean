/- What every row's proof of this seat needs: a memory in which the listed variables hold what their initialisers lay; arguments opened and shut. -/
import Derived.Test.YtfdhgimpdmhdeaaGreatDoorCards
import Derived.Test.YtfdhgimpdmhdeaaGreatDoorTie
import Derived.WalkKit
import Derived.ProofKit
import Derived.OpenShut
import Derived.Deep.DeepHandedRow
import Derived.Lib.SmallJoins
namespace Go.Proofs.YtfdhgimpdmhdeaaGreatDoor
open Go.ChangeShapes Go.WideShapes Go.ChangeAt Go.RowKit

theorem own : ownKnob Tryz.prog.godebug = none := by kernel_rfl

/-- A table's cells, out of its datum. -/
def cellsOne {H : Type} : DataW H → List Value
  | .lit (.int k n) => [.int k n]
  | _ => []
def cellsRow {H : Type} : DataW H → List Value
  | .agg xs => xs.flatMap cellsOne
  | d => cellsOne d
def cellsAll {H : Type} : DataW H → Array Value
  | .agg xs => (xs.flatMap cellsRow).toArray
  | _ => #[]

/-- A block's cells, put in. -/
def putCells (cs : Array Value) : Obj → Obj
  | .cells _ t frozen => .cells cs t frozen
  | o => o

/-- A world for the witness: the settled one, the tables holding what their initialisers lay. -/
noncomputable def lowN : Nat := (World.holding Tryz.prog default ⟨#[], #[], []⟩).heap.size
noncomputable def laidWorld (os : Os) : World :=
  let b0 : Array Obj := #[]
  let b0 : Array Obj := #[.cells #[.string ⟨#[105, 110, 118, 97, 108, 105, 100, 32, 115, 121, 110, 116, 97, 120]⟩] 147, .cells #[.string ⟨#[118, 97, 108, 117, 101, 32, 111, 117, 116, 32, 111, 102, 32, 114, 97, 110, 103, 101]⟩] 147]
  let h0 := ((World.holding Tryz.prog os ⟨b0, #[], []⟩).heap.modify 2 (putCells (cellsAll Rows.laid_unicode_utf8_first))).modify 3 (putCells (cellsAll (H := Unit) Rows.laid_unicode_utf8_acceptRanges))
  let h0 := h0.modify 0 (putCells (cellsAll (H := Unit) Rows.laid_internal_strconv_uint64pow10))
  let h0 := h0.modify 6 (putCells (cellsAll (H := Unit) Rows.laid_math_bits_deBruijn32tab))
  let h0 := h0.modify 7 (putCells (cellsAll (H := Unit) Rows.laid_math_bits_deBruijn64tab))
  let h0 := (h0.modify 4 (putCells #[.iface 145 (.pointer (some ⟨lowN, 0, none⟩))])).modify 5 (putCells #[.iface 145 (.pointer (some ⟨lowN + 1, 0, none⟩))])
  { World.holding Tryz.prog os ⟨b0, #[], []⟩ with heap := h0 }

theorem wf_i32 {n : Int} (h : (Lit.int .i32 n).wf = true) : -2147483648 ≤ n ∧ n ≤ 2147483647 := by
  simp only [Lit.wf, Bool.and_eq_true, decide_eq_true_eq] at h
  exact ⟨Int.le_trans (by decide) h.1, Int.le_trans h.2 (by decide)⟩
theorem wf_i64 {n : Int} (h : (Lit.int .i64 n).wf = true) : -9223372036854775808 ≤ n ∧ n ≤ 9223372036854775807 := by
  simp only [Lit.wf, Bool.and_eq_true, decide_eq_true_eq] at h
  exact ⟨Int.le_trans (by decide) h.1, Int.le_trans h.2 (by decide)⟩

theorem wf_u8 {n : Int} (h : (Lit.int .u8 n).wf = true) : 0 ≤ n ∧ n ≤ 255 := by
  simp only [Lit.wf, Bool.and_eq_true, decide_eq_true_eq] at h
  exact ⟨Int.le_trans (by decide) h.1, Int.le_trans h.2 (by decide)⟩

theorem spotCells : Tryz.prog.cellsOf 37 = 2 := by kernel_rfl

set_option maxRecDepth 100000

/-- A spot by value, opened and shut. -/
theorem open_spot {H : Type} {enc : TypeId × Value → H} {W : World} {base : Nat} {spare : Nat → Bool} {held : Bool} {r : Reach} {b0 : Nat} {v : Value} {d : DataW H} {p : List MemPlace}
    (hv : Value.okWide Tryz.prog W r b0 37 v) (h : DataW.Trod enc Tryz.prog W base spare held 37 v d p) :
    ∃ x y, v = .agg #[.int .i64 x, .int .i64 y] ∧ d = .agg [.lit (.int .i64 x), .lit (.int .i64 y)] ∧ p = [] ∧ (Lit.int .i64 x).wf = true ∧ (Lit.int .i64 y).wf = true := by
  obtain ⟨c0, c1, y0, y1, m, rfl, rfl, rfl, hy0, hy1⟩ := Go.Joins.open_agg2 Tryz.underlying37 (by kernel_rfl) spotCells hv h
  obtain ⟨a, e0, rfl, wa⟩ := DataW.trod_int Tryz.underlying35 hy0
  obtain ⟨b, e1, rfl, wb⟩ := DataW.trod_int Tryz.underlying35 hy1
  simp at e0 e1
  subst e0 e1
  exact ⟨a, b, rfl, rfl, rfl, wa, wb⟩
theorem shut_spot {H : Type} {enc : TypeId × Value → H} {W : World} {base : Nat} {spare : Nat → Bool} {held : Bool} {x y : Int} (h : (Lit.int .i64 x).wf = true ∧ (Lit.int .i64 y).wf = true) :
    DataW.Trod enc Tryz.prog W base spare held 37 (.agg #[.int .i64 x, .int .i64 y]) (.agg [.lit (.int .i64 x), .lit (.int .i64 y)]) [] :=
  Go.Joins.shut_agg2 (y0 := (.lit (.int .i64 x), [])) (y1 := (.lit (.int .i64 y), [])) Tryz.underlying37 (by kernel_rfl) spotCells ⟨1, by simp [DataW.trod, Tryz.underlying35, h.1]⟩ ⟨1, by simp [DataW.trod, Tryz.underlying35, h.2]⟩

/-- A string, opened and shut. -/
theorem open_str {H : Type} {enc : TypeId × Value → H} {W : World} {base : Nat} {spare : Nat → Bool} {held : Bool} {r : Reach} {b0 : Nat} {v : Value} {d : DataW H} {p : List MemPlace}
    (hv : Value.okWide Tryz.prog W r b0 9 v) (h : DataW.Trod enc Tryz.prog W base spare held 9 v d p) :
    ∃ l : List UInt8, v = .string ⟨l.toArray⟩ ∧ d = .lit (.string l) ∧ p = [] ∧ (⟨l.toArray⟩ : ByteArray).size ≤ maxLen := by
  obtain ⟨s, rfl⟩ := Go.WideShapes.okWide_string Tryz.underlying9 hv
  obtain ⟨fuel, hf⟩ := h
  cases fuel with
  | zero => simp [DataW.trod] at hf
  | succ n =>
    simp [DataW.trod, Value.cells, Tryz.underlying9] at hf
    obtain ⟨h1, h2, h3⟩ := hf
    exact ⟨s.data.toList, by simp, h2.symm, h3, by simpa using h1⟩
theorem shut_str {H : Type} {enc : TypeId × Value → H} {W : World} {base : Nat} {spare : Nat → Bool} {held : Bool} {l : List UInt8} (h : (⟨l.toArray⟩ : ByteArray).size ≤ maxLen) :
    DataW.Trod enc Tryz.prog W base spare held 9 (.string ⟨l.toArray⟩) (.lit (.string l)) [] :=
  ⟨1, by simp [DataW.trod, Value.cells, Tryz.underlying9, h]⟩

end Go.Proofs.YtfdhgimpdmhdeaaGreatDoor
