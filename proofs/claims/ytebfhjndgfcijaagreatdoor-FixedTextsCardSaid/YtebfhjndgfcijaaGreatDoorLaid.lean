/- The table that strconv reads, out of a row's list of variables. -/
import Derived.Test.YtebfhjndgfcijaaGreatDoorText
import Derived.Test.YtebfhjndgfcijaaGreatDoorRow
import Derived.Lib.LaidTab
namespace Go.Proofs.YtebfhjndgfcijaaGreatDoor
open Go Go.RowKit

theorem pow10_type : (Tryz.prog.globals[2]?).map (·.type) = some 167 := by kernel_rfl
theorem pow10_under : Tryz.prog.underlying 167 = some (.array 20 66) := by kernel_rfl
theorem pow10_cells : Tryz.prog.cellsOf 66 = 1 ∧ Tryz.prog.cellsOf 167 = 20 := ⟨by kernel_rfl, by kernel_rfl⟩
theorem pow10_named : Tryz.prog.globalNamed "internal/strconv.uint64pow10" = some 2 := by kernel_rfl

theorem tab_of_vars {W : World} {rest : List (String × DataW Unit)} {ps : List MemPlace} (h : DataW.LaidVars Tryz.prog W (("internal/strconv.uint64pow10", Lib.tabData .u64 Lib.pow10Tab) :: rest) ps) : TabHere W := by
  obtain ⟨g', t', cs, fuel, p, q, hg', ht', hvar, hd, _, _⟩ := h
  obtain rfl := Option.some.inj (pow10_named.symm.trans hg')
  obtain rfl := Option.some.inj (pow10_type.symm.trans ht')
  show World.var? _ _ _ = _
  rw [hvar, ← Lib.cells_of_tab pow10_under Tryz.underlying66 pow10_cells.1 pow10_cells.2 hd]

theorem pow10_datum : (Rows.laid_internal_strconv_uint64pow10 : DataW Unit) = Lib.tabData .u64 Lib.pow10Tab := by kernel_rfl

end Go.Proofs.YtebfhjndgfcijaaGreatDoor
