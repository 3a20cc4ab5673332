/- The contract of package fixed's dot: the exact product of two spots. Condition: coordinates of 62 bits. -/
import Derived.Test.YtfpfpmacobkmhaaGreatDoorNeeds
namespace Go.Proofs.YtfpfpmacobkmhaaGreatDoor
open Go Go.RowKit

/-- What dot's world keeps: the two boxes, the result's cells that are not written yet. -/
def DotW (ax ay bx by' : Int) (w W : World) : Prop :=
  (W.cell? ⟨w.heap.size, 0, none⟩ = some (.int .i64 ax) ∧ W.cell? ⟨w.heap.size, 1, none⟩ = some (.int .i64 ay) ∧ W.cell? ⟨w.heap.size + 1, 0, none⟩ = some (.int .i64 bx) ∧ W.cell? ⟨w.heap.size + 1, 1, none⟩ = some (.int .i64 by')) ∧
  (W.cell? ⟨w.heap.size + 1 + 1, 0, none⟩ = some (.int .i64 0) ∧ W.cell? ⟨w.heap.size + 1 + 1, 1, none⟩ = some (.int .u64 0) ∧ W.frozen? ⟨w.heap.size + 1 + 1, 0, none⟩ = false ∧ W.frozen? ⟨w.heap.size + 1 + 1, 1, none⟩ = false) ∧ Below w.heap.size w W

theorem DotW.later {ax ay bx by' : Int} {w W W' : World} (h : DotW ax ay bx by' w W) (hb : Below W.heap.size W W') : DotW ax ay bx by' w W' := by
  obtain ⟨⟨h1, h2, h3, h4⟩, ⟨h5, h6, h7, h8⟩, h9⟩ := h
  exact ⟨⟨cell_later hb h1, cell_later hb h2, cell_later hb h3, cell_later hb h4⟩,
    ⟨cell_later hb h5, cell_later hb h6, (hb.frozen (World.block_lt_of_cell? _ _ h5)).trans h7, (hb.frozen (World.block_lt_of_cell? _ _ h6)).trans h8⟩, h9.trans (hb.mono h9.size)⟩

theorem DotW.kept {ax ay bx by' : Int} {w W : World} (h : DotW ax ay bx by' w W) (v u : Value) :
    ((W.setCell ⟨w.heap.size + 1 + 1, 0, none⟩ v).setCell ⟨w.heap.size + 1 + 1, 1, none⟩ u).cell? ⟨w.heap.size, 0, none⟩ = some (.int .i64 ax) ∧ ((W.setCell ⟨w.heap.size + 1 + 1, 0, none⟩ v).setCell ⟨w.heap.size + 1 + 1, 1, none⟩ u).cell? ⟨w.heap.size, 1, none⟩ = some (.int .i64 ay) ∧
    ((W.setCell ⟨w.heap.size + 1 + 1, 0, none⟩ v).setCell ⟨w.heap.size + 1 + 1, 1, none⟩ u).cell? ⟨w.heap.size + 1, 0, none⟩ = some (.int .i64 bx) ∧ ((W.setCell ⟨w.heap.size + 1 + 1, 0, none⟩ v).setCell ⟨w.heap.size + 1 + 1, 1, none⟩ u).cell? ⟨w.heap.size + 1, 1, none⟩ = some (.int .i64 by') := by
  have far : ∀ b o x, b ≠ w.heap.size + 1 + 1 → W.cell? ⟨b, o, none⟩ = some x → ((W.setCell ⟨w.heap.size + 1 + 1, 0, none⟩ v).setCell ⟨w.heap.size + 1 + 1, 1, none⟩ u).cell? ⟨b, o, none⟩ = some x := fun b o x hb hx =>
    (World.cell?_setCell_other _ _ _ _ (fun h => hb (congrArg Addr.block h).symm)).trans ((World.cell?_setCell_other _ _ _ _ (fun h => hb (congrArg Addr.block h).symm)).trans hx)
  obtain ⟨⟨h1, h2, h3, h4⟩, _⟩ := h
  exact ⟨far _ _ _ (by omega) h1, far _ _ _ (by omega) h2, far _ _ _ (by omega) h3, far _ _ _ (by omega) h4⟩

theorem DotW.start (ax ay bx by' : Int) (w : World) :
    DotW ax ay bx by' w (((w.alloc (.cells #[.int .i64 ax, .int .i64 ay] 69)).alloc (.cells #[.int .i64 bx, .int .i64 by'] 69)).alloc (.cells #[.int .i64 0, .int .u64 0] 51)).drew :=
  ⟨⟨by simp [go_sem], by simp [go_sem], by simp [go_sem], by simp [go_sem]⟩, ⟨by simp [go_sem], by simp [go_sem], by simp [go_sem], by simp [go_sem]⟩,
    ((((Below.refl w.heap.size w).alloc (Nat.le_refl _) _).alloc (by simp) _).alloc (by simp; omega) _).drew⟩

set_option maxHeartbeats 1000000 in
theorem dot_any (ax ay bx by' : Int) (w : World) (a0 : -4611686018427387904 ≤ ax ∧ ax ≤ 4611686018427387904) (a1 : -4611686018427387904 ≤ ay ∧ ay ≤ 4611686018427387904)
    (b0 : -4611686018427387904 ≤ bx ∧ bx ≤ 4611686018427387904) (b1 : -4611686018427387904 ≤ by' ∧ by' ≤ 4611686018427387904)
    (s0 : -170141183460469231731687303715884105728 ≤ ax * bx + ay * by') (s1 : ax * bx + ay * by' < 170141183460469231731687303715884105728) :
    Calls Tryz.prog 71 #[.agg #[.int .i64 ax, .int .i64 ay], .agg #[.int .i64 bx, .int .i64 by']] w fun e w' => e = .returned (.agg #[.int .i64 (hiOf (ax * bx + ay * by')), .int .u64 (loOf (ax * bx + ay * by'))]) ∧ Below w.heap.size w w' := by
  have hT := DotW.start ax ay bx by' w
  go_enter Tryz.func71, Tryz.ntmps71
  go_wp2_with fail
  go_region_held3 (fun w' => w'.cell? ⟨w.heap.size, 0, none⟩ = some (.int .i64 ax) ∧ w'.cell? ⟨w.heap.size, 1, none⟩ = some (.int .i64 ay) ∧ w'.cell? ⟨w.heap.size + 1, 0, none⟩ = some (.int .i64 bx) ∧ w'.cell? ⟨w.heap.size + 1, 1, none⟩ = some (.int .i64 by'))
    (first | exact hT.1 | exact hT.kept _ _)
    ((first | (go_at_call 29; refine (product_any _ _ _ (by omega) (by omega) (by omega) (by omega)).mono ?_; rintro e w1 ⟨rfl, hb1⟩; replace hT := hT.later hb1) | (go_at_call 78; refine (plus_any _ _ _ s0 s1).mono ?_; rintro e w2 ⟨rfl, hb2⟩; replace hT := hT.later hb2; obtain ⟨t0, t1, f0, f1⟩ := hT.2.1)))
  go_wp2
  obtain ⟨k1, k2⟩ := set_pair (.int .i64 (hiOf (ax * bx + ay * by'))) (.int .u64 (loOf (ax * bx + ay * by'))) t0 t1
  exact bodyPost_ret (v := .agg #[.int .i64 (hiOf (ax * bx + ay * by')), .int .u64 (loOf (ax * bx + ay * by'))]) (by simp [results, Tryz.results71, go_sem, k1, k2]) rfl
    ⟨rfl, (hT.2.2.setCell (by simp; omega) _).setCell (by simp; omega) _⟩

end Go.Proofs.YtfpfpmacobkmhaaGreatDoor
