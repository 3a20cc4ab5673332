/- The table that strconv reads, out of a row's list of variables. -/
import Derived.Test.YtfdhgimpdmhdeaaGreatDoorAwake
import Derived.Test.YtfdhgimpdmhdeaaGreatDoorRow
import Derived.Lib.LaidTab
namespace Go.Proofs.YtfdhgimpdmhdeaaGreatDoor
open Go Go.RowKit

theorem pow10_type : (Tryz.prog.globals[0]?).map (·.type) = some 119 := by kernel_rfl
theorem pow10_under : Tryz.prog.underlying 119 = some (.array 20 93) := by kernel_rfl
theorem pow10_cells : Tryz.prog.cellsOf 93 = 1 ∧ Tryz.prog.cellsOf 119 = 20 := ⟨by kernel_rfl, by kernel_rfl⟩
theorem pow10_named : Tryz.prog.globalNamed "internal/strconv.uint64pow10" = some 0 := by kernel_rfl

theorem tabIs_of_vars {W : World} {rest : List (String × DataW Unit)} {ps : List MemPlace} (h : DataW.LaidVars Tryz.prog W (("internal/strconv.uint64pow10", Lib.tabData .u64 Lib.pow10Tab) :: rest) ps) : Lib.TabIs Tryz.prog W "internal/strconv.uint64pow10" .u64 Lib.pow10Tab := by
  obtain ⟨g', t', cs, fuel, p, q, hg', ht', hvar, hd, _, _⟩ := h
  obtain rfl := Option.some.inj (pow10_named.symm.trans hg')
  obtain rfl := Option.some.inj (pow10_type.symm.trans ht')
  show World.var? _ _ _ = _
  rw [hvar, ← Lib.cells_of_tab pow10_under Tryz.underlying93 pow10_cells.1 pow10_cells.2 hd]

theorem pow10_datum : (Rows.laid_internal_strconv_uint64pow10 : DataW Unit) = Lib.tabData .u64 Lib.pow10Tab := by kernel_rfl

/-- What awake asks, out of a row's conditions. -/
theorem aw_of {W : World} (ht : Lib.TabIs Tryz.prog W "internal/strconv.uint64pow10" .u64 Lib.pow10Tab) (hs : W.ShapedOpen Tryz.prog) : Aw W := ⟨Lib.tabBelow_of_tabIs ht, Tryz.laysM146.s1_3 W hs⟩

end Go.Proofs.YtfdhgimpdmhdeaaGreatDoor
