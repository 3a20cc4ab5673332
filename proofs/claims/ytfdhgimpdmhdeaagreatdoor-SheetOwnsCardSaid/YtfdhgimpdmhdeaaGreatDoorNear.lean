/- What walks over spots want, without package fixed: worlds that go on, spots in boxes. -/
import Derived.Test.YtfdhgimpdmhdeaaGreatDoorShelf
import Derived.OwnWalk
import Derived.WalkKit
import Derived.BigQuiet
import Derived.Deep.QuietTactic
import Derived.WalkSpells
import Derived.WalkLawsBesides
import Derived.Deep.RegionWith
import Derived.Deep.RegionHeld3
import Derived.Deep.RegionHeld2
import Derived.Shelf.RegionOpen
import Derived.Lib.Hide
namespace Go.Proofs.YtfdhgimpdmhdeaaGreatDoor
open Go Go.RowKit

theorem kc {w W W' : World} (h : Below w.heap.size w W) (h' : Below W.heap.size W W') : Below w.heap.size w W' := h.trans (h'.mono h.size)
theorem ka {w W : World} (h : Below w.heap.size w W) (o : Obj) : Below w.heap.size w (W.alloc o) := h.alloc h.size o
theorem ks {w W : World} (h : Below w.heap.size w W) {a : Addr} (v : Value) (ha : w.heap.size ≤ a.block) : Below w.heap.size w (W.setCell a v) := h.setCell ha v
theorem alloc_cell {w : World} {o : Obj} {a : Addr} {v : Value} (h : w.cell? a = some v) : (w.alloc o).cell? a = some v :=
  cell_later ((Below.refl _ w).alloc (Nat.le_refl _) o) h
theorem set_one {w : World} {a : Addr} {x : Value} (v : Value) (h : w.cell? a = some x) : (w.setCell a v).cell? a = some v := World.cell?_setCell_same' _ _ _ (by rw [h]; rfl)
/-- A spot in a box that is there. -/
def SpotAt (W : World) (b : Nat) (x y : Int) : Prop := W.cell? ⟨b, 0, none⟩ = some (.int .i64 x) ∧ W.cell? ⟨b, 1, none⟩ = some (.int .i64 y)
theorem spot_later {W W' : World} {b : Nat} {x y : Int} (hb : Below W.heap.size W W') (h : SpotAt W b x y) : SpotAt W' b x y := ⟨cell_later hb h.1, cell_later hb h.2⟩
theorem spot_alloc {W : World} {b : Nat} {x y : Int} (h : SpotAt W b x y) (o : Obj) : SpotAt (W.alloc o) b x y := ⟨alloc_cell h.1, alloc_cell h.2⟩
theorem spot_new (W : World) (x y : Int) : SpotAt (W.alloc (.cells #[.int .i64 x, .int .i64 y] 37)) W.heap.size x y := ⟨by simp [go_sem], by simp [go_sem]⟩
/-- Two spots in new boxes. -/
theorem spot_new2 (w : World) (a b c d : Int) :
    SpotAt ((w.alloc (.cells #[.int .i64 a, .int .i64 b] 37)).alloc (.cells #[.int .i64 c, .int .i64 d] 37)) w.heap.size a b ∧ SpotAt ((w.alloc (.cells #[.int .i64 a, .int .i64 b] 37)).alloc (.cells #[.int .i64 c, .int .i64 d] 37)) (w.heap.size + 1) c d :=
  ⟨⟨by simp [go_sem], by simp [go_sem]⟩, ⟨by simp [go_sem], by simp [go_sem]⟩⟩

end Go.Proofs.YtfdhgimpdmhdeaaGreatDoor
