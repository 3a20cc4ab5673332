/- besomlaw01's ordered and four, and the function values of FixedRounds. -/
import Derived.Test.YtggomcbikadaoaaDoorDivf
import Derived.Test.YtggomcbikadaoaaDoorScale
import Derived.Test.YtggomcbikadaoaaDoorRootf
import Derived.Test.YtggomcbikadaoaaDoorRndAll
import Derived.Test.YtggomcbikadaoaaDoorRead
import Derived.BigQuiet
import Derived.Deep.QuietTactic
namespace Go.Proofs.YtggomcbikadaoaaDoor
open Go Go.RowKit

set_option maxHeartbeats 1000000 in
theorem ordered_a (d u m g : Int) (w : World) (h0 : 0 ≤ d) (h1 : d ≤ m) (h2 : m ≤ u) (k : wrap64 (u - d) = g) (h3 : g ≤ 1) :
    Calls Tryd.prog 15 #[.agg #[.int .i64 d, .int .i64 d, .int .i64 u, .int .i64 m]] w fun e w' => e = .returned (.bool true) ∧ Below w.heap.size w w' := by
  go_enter Tryd.func15, Tryd.ntmps15
  go_wp2_with fail
  go_quiet (fail)
  go_wp2_with fail
  go_ret
  exact ⟨rfl, ((Below.refl w.heap.size w).alloc (Nat.le_refl _) _).trans ⟨rfl, rfl, rfl, by simp, fun _ _ => rfl⟩⟩

set_option maxHeartbeats 1000000 in
theorem ordered_b (d u m g : Int) (w : World) (h0 : ¬ 0 ≤ d) (hu : u ≤ 0) (hd : u = d) (h1 : d ≤ m) (h2 : m ≤ u) (k : wrap64 (u - d) = g) (h3 : g ≤ 1) :
    Calls Tryd.prog 15 #[.agg #[.int .i64 d, .int .i64 d, .int .i64 u, .int .i64 m]] w fun e w' => e = .returned (.bool true) ∧ Below w.heap.size w w' := by
  have hb : (d == u) = true := by simp [hd]
  clear hd
  go_enter Tryd.func15, Tryd.ntmps15
  go_wp2_with fail
  go_quiet (fail)
  go_wp2_with fail
  go_ret
  exact ⟨rfl, ((Below.refl w.heap.size w).alloc (Nat.le_refl _) _).trans ⟨rfl, rfl, rfl, by simp, fun _ _ => rfl⟩⟩

set_option maxHeartbeats 1000000 in
theorem ordered_c (d u m g : Int) (w : World) (hu : u ≤ 0) (hd : ¬ u = d) (h1 : d ≤ m) (h2 : m ≤ u) (k : wrap64 (u - d) = g) (h3 : g ≤ 1) :
    Calls Tryd.prog 15 #[.agg #[.int .i64 u, .int .i64 d, .int .i64 u, .int .i64 m]] w fun e w' => e = .returned (.bool true) ∧ Below w.heap.size w w' := by
  go_enter Tryd.func15, Tryd.ntmps15
  go_wp2_with fail
  go_quiet (fail)
  go_wp2_with fail
  go_ret
  exact ⟨rfl, ((Below.refl w.heap.size w).alloc (Nat.le_refl _) _).trans ⟨rfl, rfl, rfl, by simp, fun _ _ => rfl⟩⟩

theorem ordered_any (c d u m : Int) (w : World) (h : Together c d u m) (u0 : -70368744177665 ≤ u) (u1 : u ≤ 70368744177665) :
    Calls Tryd.prog 15 #[.agg #[.int .i64 c, .int .i64 d, .int .i64 u, .int .i64 m]] w fun e w' => e = .returned (.bool true) ∧ Below w.heap.size w w' := by
  obtain ⟨h1, h2, h3, h4⟩ := h
  have k : wrap64 (u - d) = u - d := by unfold wrap64; omega
  by_cases hc : c = d ∧ 0 ≤ d
  · obtain ⟨rfl, h0⟩ := hc
    exact ordered_a c u m _ w h0 h1 h2 k h3
  · rcases h4 with h4 | ⟨rfl, hu⟩
    · exact absurd h4 hc
    · by_cases hd : c = d
      · subst hd
        have h0 : ¬ 0 ≤ c := fun h => hc ⟨rfl, h⟩
        exact ordered_b c c m _ w h0 hu rfl h1 h2 k h3
      · exact ordered_c d c m _ w hu hd h1 h2 k h3

/-- What four's world keeps: the array, the result's cells that are not written yet. -/
def FourW (l0 l1 l2 l3 : Int) (w W : World) : Prop :=
  (W.cell? ⟨w.heap.size + 1, 0, none⟩ = some (.int .i64 l0) ∧ W.cell? ⟨w.heap.size + 1, 1, none⟩ = some (.int .i64 l1) ∧ W.cell? ⟨w.heap.size + 1, 2, none⟩ = some (.int .i64 l2) ∧ W.cell? ⟨w.heap.size + 1, 3, none⟩ = some (.int .i64 l3)) ∧
  (W.frozen? ⟨w.heap.size + 1, 0, none⟩ = false ∧ W.frozen? ⟨w.heap.size + 1, 1, none⟩ = false ∧ W.frozen? ⟨w.heap.size + 1, 2, none⟩ = false ∧ W.frozen? ⟨w.heap.size + 1, 3, none⟩ = false) ∧
  (W.cell? ⟨w.heap.size, 0, none⟩ = some (.int .i64 0) ∧ W.cell? ⟨w.heap.size, 1, none⟩ = some (.int .i64 0) ∧ W.cell? ⟨w.heap.size, 2, none⟩ = some (.int .i64 0) ∧ W.cell? ⟨w.heap.size, 3, none⟩ = some (.int .i64 0)) ∧
  (W.frozen? ⟨w.heap.size, 0, none⟩ = false ∧ W.frozen? ⟨w.heap.size, 1, none⟩ = false ∧ W.frozen? ⟨w.heap.size, 2, none⟩ = false ∧ W.frozen? ⟨w.heap.size, 3, none⟩ = false) ∧ Below w.heap.size w W

theorem FourW.later {l0 l1 l2 l3 : Int} {w W W' : World} (h : FourW l0 l1 l2 l3 w W) (hb : Below W.heap.size W W') : FourW l0 l1 l2 l3 w W' := by
  obtain ⟨⟨a0, a1, a2, a3⟩, ⟨b0, b1, b2, b3⟩, ⟨c0, c1, c2, c3⟩, ⟨d0, d1, d2, d3⟩, h9⟩ := h
  exact ⟨⟨cell_later hb a0, cell_later hb a1, cell_later hb a2, cell_later hb a3⟩, ⟨(hb.frozen (World.block_lt_of_cell? _ _ a0)).trans b0, (hb.frozen (World.block_lt_of_cell? _ _ a1)).trans b1, (hb.frozen (World.block_lt_of_cell? _ _ a2)).trans b2, (hb.frozen (World.block_lt_of_cell? _ _ a3)).trans b3⟩,
    ⟨cell_later hb c0, cell_later hb c1, cell_later hb c2, cell_later hb c3⟩, ⟨(hb.frozen (World.block_lt_of_cell? _ _ c0)).trans d0, (hb.frozen (World.block_lt_of_cell? _ _ c1)).trans d1, (hb.frozen (World.block_lt_of_cell? _ _ c2)).trans d2, (hb.frozen (World.block_lt_of_cell? _ _ c3)).trans d3⟩, h9.trans (hb.mono h9.size)⟩

theorem FourW.start (w : World) : FourW 0 0 0 0 w ((w.alloc (.cells #[.int .i64 0, .int .i64 0, .int .i64 0, .int .i64 0] 30)).alloc (.cells #[.int .i64 0, .int .i64 0, .int .i64 0, .int .i64 0] 30)) :=
  ⟨⟨by simp [go_sem], by simp [go_sem], by simp [go_sem], by simp [go_sem]⟩, ⟨by simp [go_sem], by simp [go_sem], by simp [go_sem], by simp [go_sem]⟩, ⟨by simp [go_sem], by simp [go_sem], by simp [go_sem], by simp [go_sem]⟩, ⟨by simp [go_sem], by simp [go_sem], by simp [go_sem], by simp [go_sem]⟩,
    ((Below.refl w.heap.size w).alloc (Nat.le_refl _) _).alloc (by simp) _⟩

theorem FourW.put0 {l0 l1 l2 l3 : Int} {w W : World} (v : Int) (h : FourW l0 l1 l2 l3 w W) : FourW v l1 l2 l3 w (W.setCell ⟨w.heap.size + 1, 0, none⟩ (.int .i64 v)) := by
  obtain ⟨⟨a0, a1, a2, a3⟩, ⟨b0, b1, b2, b3⟩, ⟨c0, c1, c2, c3⟩, ⟨d0, d1, d2, d3⟩, h9⟩ := h
  exact ⟨⟨set_same _ a0, (World.cell?_setCell_other _ _ _ _ (by simp)).trans a1, (World.cell?_setCell_other _ _ _ _ (by simp)).trans a2, (World.cell?_setCell_other _ _ _ _ (by simp)).trans a3⟩, ⟨by rw [World.frozen?_setCell]; exact b0, by rw [World.frozen?_setCell]; exact b1, by rw [World.frozen?_setCell]; exact b2, by rw [World.frozen?_setCell]; exact b3⟩,
    ⟨(World.cell?_setCell_other _ _ _ _ (by simp)).trans c0, (World.cell?_setCell_other _ _ _ _ (by simp)).trans c1, (World.cell?_setCell_other _ _ _ _ (by simp)).trans c2, (World.cell?_setCell_other _ _ _ _ (by simp)).trans c3⟩, ⟨by rw [World.frozen?_setCell]; exact d0, by rw [World.frozen?_setCell]; exact d1, by rw [World.frozen?_setCell]; exact d2, by rw [World.frozen?_setCell]; exact d3⟩, h9.setCell (by simp) _⟩

theorem FourW.put1 {l0 l1 l2 l3 : Int} {w W : World} (v : Int) (h : FourW l0 l1 l2 l3 w W) : FourW l0 v l2 l3 w (W.setCell ⟨w.heap.size + 1, 1, none⟩ (.int .i64 v)) := by
  obtain ⟨⟨a0, a1, a2, a3⟩, ⟨b0, b1, b2, b3⟩, ⟨c0, c1, c2, c3⟩, ⟨d0, d1, d2, d3⟩, h9⟩ := h
  exact ⟨⟨(World.cell?_setCell_other _ _ _ _ (by simp)).trans a0, set_same _ a1, (World.cell?_setCell_other _ _ _ _ (by simp)).trans a2, (World.cell?_setCell_other _ _ _ _ (by simp)).trans a3⟩, ⟨by rw [World.frozen?_setCell]; exact b0, by rw [World.frozen?_setCell]; exact b1, by rw [World.frozen?_setCell]; exact b2, by rw [World.frozen?_setCell]; exact b3⟩,
    ⟨(World.cell?_setCell_other _ _ _ _ (by simp)).trans c0, (World.cell?_setCell_other _ _ _ _ (by simp)).trans c1, (World.cell?_setCell_other _ _ _ _ (by simp)).trans c2, (World.cell?_setCell_other _ _ _ _ (by simp)).trans c3⟩, ⟨by rw [World.frozen?_setCell]; exact d0, by rw [World.frozen?_setCell]; exact d1, by rw [World.frozen?_setCell]; exact d2, by rw [World.frozen?_setCell]; exact d3⟩, h9.setCell (by simp) _⟩

theorem FourW.put2 {l0 l1 l2 l3 : Int} {w W : World} (v : Int) (h : FourW l0 l1 l2 l3 w W) : FourW l0 l1 v l3 w (W.setCell ⟨w.heap.size + 1, 2, none⟩ (.int .i64 v)) := by
  obtain ⟨⟨a0, a1, a2, a3⟩, ⟨b0, b1, b2, b3⟩, ⟨c0, c1, c2, c3⟩, ⟨d0, d1, d2, d3⟩, h9⟩ := h
  exact ⟨⟨(World.cell?_setCell_other _ _ _ _ (by simp)).trans a0, (World.cell?_setCell_other _ _ _ _ (by simp)).trans a1, set_same _ a2, (World.cell?_setCell_other _ _ _ _ (by simp)).trans a3⟩, ⟨by rw [World.frozen?_setCell]; exact b0, by rw [World.frozen?_setCell]; exact b1, by rw [World.frozen?_setCell]; exact b2, by rw [World.frozen?_setCell]; exact b3⟩,
    ⟨(World.cell?_setCell_other _ _ _ _ (by simp)).trans c0, (World.cell?_setCell_other _ _ _ _ (by simp)).trans c1, (World.cell?_setCell_other _ _ _ _ (by simp)).trans c2, (World.cell?_setCell_other _ _ _ _ (by simp)).trans c3⟩, ⟨by rw [World.frozen?_setCell]; exact d0, by rw [World.frozen?_setCell]; exact d1, by rw [World.frozen?_setCell]; exact d2, by rw [World.frozen?_setCell]; exact d3⟩, h9.setCell (by simp) _⟩

theorem FourW.put3 {l0 l1 l2 l3 : Int} {w W : World} (v : Int) (h : FourW l0 l1 l2 l3 w W) : FourW l0 l1 l2 v w (W.setCell ⟨w.heap.size + 1, 3, none⟩ (.int .i64 v)) := by
  obtain ⟨⟨a0, a1, a2, a3⟩, ⟨b0, b1, b2, b3⟩, ⟨c0, c1, c2, c3⟩, ⟨d0, d1, d2, d3⟩, h9⟩ := h
  exact ⟨⟨(World.cell?_setCell_other _ _ _ _ (by simp)).trans a0, (World.cell?_setCell_other _ _ _ _ (by simp)).trans a1, (World.cell?_setCell_other _ _ _ _ (by simp)).trans a2, set_same _ a3⟩, ⟨by rw [World.frozen?_setCell]; exact b0, by rw [World.frozen?_setCell]; exact b1, by rw [World.frozen?_setCell]; exact b2, by rw [World.frozen?_setCell]; exact b3⟩,
    ⟨(World.cell?_setCell_other _ _ _ _ (by simp)).trans c0, (World.cell?_setCell_other _ _ _ _ (by simp)).trans c1, (World.cell?_setCell_other _ _ _ _ (by simp)).trans c2, (World.cell?_setCell_other _ _ _ _ (by simp)).trans c3⟩, ⟨by rw [World.frozen?_setCell]; exact d0, by rw [World.frozen?_setCell]; exact d1, by rw [World.frozen?_setCell]; exact d2, by rw [World.frozen?_setCell]; exact d3⟩, h9.setCell (by simp) _⟩

theorem set_quad {w : World} {b : Nat} {x0 x1 x2 x3 : Value} (v0 v1 v2 v3 : Value) (h0 : w.cell? ⟨b, 0, none⟩ = some x0) (h1 : w.cell? ⟨b, 1, none⟩ = some x1) (h2 : w.cell? ⟨b, 2, none⟩ = some x2) (h3 : w.cell? ⟨b, 3, none⟩ = some x3) :
    ((((w.setCell ⟨b, 0, none⟩ v0).setCell ⟨b, 1, none⟩ v1).setCell ⟨b, 2, none⟩ v2).setCell ⟨b, 3, none⟩ v3).cell? ⟨b, 0, none⟩ = some v0 ∧ ((((w.setCell ⟨b, 0, none⟩ v0).setCell ⟨b, 1, none⟩ v1).setCell ⟨b, 2, none⟩ v2).setCell ⟨b, 3, none⟩ v3).cell? ⟨b, 1, none⟩ = some v1 ∧ ((((w.setCell ⟨b, 0, none⟩ v0).setCell ⟨b, 1, none⟩ v1).setCell ⟨b, 2, none⟩ v2).setCell ⟨b, 3, none⟩ v3).cell? ⟨b, 2, none⟩ = some v2 ∧ ((((w.setCell ⟨b, 0, none⟩ v0).setCell ⟨b, 1, none⟩ v1).setCell ⟨b, 2, none⟩ v2).setCell ⟨b, 3, none⟩ v3).cell? ⟨b, 3, none⟩ = some v3 := by
  have far : ∀ (W : World) (i j : Nat) (x v : Value), i ≠ j → W.cell? ⟨b, i, none⟩ = some x → (W.setCell ⟨b, j, none⟩ v).cell? ⟨b, i, none⟩ = some x := fun W i j x v hij hx => (World.cell?_setCell_other _ _ _ _ (by simp [hij])).trans hx
  exact ⟨far _ 0 3 _ _ (by decide) (far _ 0 2 _ _ (by decide) (far _ 0 1 _ _ (by decide) (set_same _ h0))),
    far _ 1 3 _ _ (by decide) (far _ 1 2 _ _ (by decide) (set_same _ (far _ 1 0 _ _ (by decide) h1))),
    far _ 2 3 _ _ (by decide) (set_same _ (far _ 2 1 _ _ (by decide) (far _ 2 0 _ _ (by decide) h2))),
    set_same _ (far _ 3 2 _ _ (by decide) (far _ 3 1 _ _ (by decide) (far _ 3 0 _ _ (by decide) h3)))⟩

set_option maxHeartbeats 1000000 in
theorem four2_ok (K : Nat) (p0 p1 : Addr) (v0 v1 v2 v3 : Int) (w : World) (hcf : ∀ args w, (callFunc K args).run Tryd.prog w = .ok (.enter K args) w)
    (c0 : ∀ W, Below w.heap.size w W → Calls Tryd.prog K #[.int .i64 0, .pointer (some p0), .pointer (some p1)] W fun e W' => e = .returned (.tuple #[.int .i64 v0, .int .i64 0]) ∧ Below W.heap.size W W')
    (c1 : ∀ W, Below w.heap.size w W → Calls Tryd.prog K #[.int .i64 1, .pointer (some p0), .pointer (some p1)] W fun e W' => e = .returned (.tuple #[.int .i64 v1, .int .i64 0]) ∧ Below W.heap.size W W')
    (c2 : ∀ W, Below w.heap.size w W → Calls Tryd.prog K #[.int .i64 2, .pointer (some p0), .pointer (some p1)] W fun e W' => e = .returned (.tuple #[.int .i64 v2, .int .i64 0]) ∧ Below W.heap.size W W')
    (c3 : ∀ W, Below w.heap.size w W → Calls Tryd.prog K #[.int .i64 3, .pointer (some p0), .pointer (some p1)] W fun e W' => e = .returned (.tuple #[.int .i64 v3, .int .i64 0]) ∧ Below W.heap.size W W') :
    Calls Tryd.prog 12 #[.func (.func K) #[] #[.pointer (some p0), .pointer (some p1)]] w fun e w' => e = .returned (.tuple #[.agg #[.int .i64 v0, .int .i64 v1, .int .i64 v2, .int .i64 v3], .bool true]) ∧ Below w.heap.size w w' := by
  have C0 := Lib.hid c0
  have C1 := Lib.hid c1
  have C2 := Lib.hid c2
  have C3 := Lib.hid c3
  clear c0 c1 c2 c3
  have hS : Hid (FourW 0 0 0 0 w _) := FourW.start w
  go_enter Tryd.func12, Tryd.ntmps12
  go_wp2_with fail
  go_loopw [8] (fun i wr => (i = .int .i64 0 ∧ Hid (FourW 0 0 0 0 w wr)) ∨ (i = .int .i64 1 ∧ Hid (FourW v0 0 0 0 w wr)) ∨ (i = .int .i64 2 ∧ Hid (FourW v0 v1 0 0 w wr)) ∨ (i = .int .i64 3 ∧ Hid (FourW v0 v1 v2 0 w wr)) ∨ (i = .int .i64 4 ∧ Hid (FourW v0 v1 v2 v3 w wr))) (fun i _ => 4 - (intOf i).toNat)
  case atStart => exact .inl ⟨rfl, hS⟩
  case round =>
    rcases hrel with ⟨rfl, hI⟩ | ⟨rfl, hI⟩ | ⟨rfl, hI⟩ | ⟨rfl, hI⟩ | ⟨rfl, hI⟩
    · have hI' := hI.out
      have hB := hI'.2.2.2.2
      have CC := Lib.hid (C0.out wr hB)
      go_wp2_with ((with_reducible refine CC.out.mono ?_); rintro e w1 ⟨rfl, hb1⟩; have hI1 := hI'.later hb1; obtain ⟨⟨a0, a1, a2, a3⟩, ⟨b0, b1, b2, b3⟩, hx⟩ := hI1)
      go_roundw
      case rel => exact .inr (.inl ⟨by go_num, FourW.put0 _ ⟨⟨a0, a1, a2, a3⟩, ⟨b0, b1, b2, b3⟩, hx⟩⟩)
      case measure => simp [intOf]
    · have hI' := hI.out
      have hB := hI'.2.2.2.2
      have CC := Lib.hid (C1.out wr hB)
      go_wp2_with ((with_reducible refine CC.out.mono ?_); rintro e w1 ⟨rfl, hb1⟩; have hI1 := hI'.later hb1; obtain ⟨⟨a0, a1, a2, a3⟩, ⟨b0, b1, b2, b3⟩, hx⟩ := hI1)
      go_roundw
      case rel => exact .inr (.inr (.inl ⟨by go_num, FourW.put1 _ ⟨⟨a0, a1, a2, a3⟩, ⟨b0, b1, b2, b3⟩, hx⟩⟩))
      case measure => simp [intOf]
    · have hI' := hI.out
      have hB := hI'.2.2.2.2
      have CC := Lib.hid (C2.out wr hB)
      go_wp2_with ((with_reducible refine CC.out.mono ?_); rintro e w1 ⟨rfl, hb1⟩; have hI1 := hI'.later hb1; obtain ⟨⟨a0, a1, a2, a3⟩, ⟨b0, b1, b2, b3⟩, hx⟩ := hI1)
      go_roundw
      case rel => exact .inr (.inr (.inr (.inl ⟨by go_num, FourW.put2 _ ⟨⟨a0, a1, a2, a3⟩, ⟨b0, b1, b2, b3⟩, hx⟩⟩)))
      case measure => simp [intOf]
    · have hI' := hI.out
      have hB := hI'.2.2.2.2
      have CC := Lib.hid (C3.out wr hB)
      go_wp2_with ((with_reducible refine CC.out.mono ?_); rintro e w1 ⟨rfl, hb1⟩; have hI1 := hI'.later hb1; obtain ⟨⟨a0, a1, a2, a3⟩, ⟨b0, b1, b2, b3⟩, hx⟩ := hI1)
      go_roundw
      case rel => exact .inr (.inr (.inr (.inr ⟨by go_num, FourW.put3 _ ⟨⟨a0, a1, a2, a3⟩, ⟨b0, b1, b2, b3⟩, hx⟩⟩)))
      case measure => simp [intOf]
    · obtain ⟨⟨a0, a1, a2, a3⟩, ⟨b0, b1, b2, b3⟩, ⟨c0, c1, c2, c3⟩, ⟨d0, d1, d2, d3⟩, h9⟩ := hI.out
      go_wp2_with fail
      obtain ⟨k0, k1, k2, k3⟩ := set_quad (.int .i64 v0) (.int .i64 v1) (.int .i64 v2) (.int .i64 v3) c0 c1 c2 c3
      exact bodyPost_ret (v := .tuple #[.agg #[.int .i64 v0, .int .i64 v1, .int .i64 v2, .int .i64 v3], .bool true]) (by simp [results, Tryd.results12, go_sem, k0, k1, k2, k3]) rfl ⟨rfl, (((h9.setCell (by simp) _).setCell (by simp) _).setCell (by simp) _).setCell (by simp) _⟩

set_option maxHeartbeats 1000000 in
theorem four1_ok (K : Nat) (p0 : Addr) (v0 v1 v2 v3 : Int) (w : World) (hcf : ∀ args w, (callFunc K args).run Tryd.prog w = .ok (.enter K args) w)
    (c0 : ∀ W, Below w.heap.size w W → Calls Tryd.prog K #[.int .i64 0, .pointer (some p0)] W fun e W' => e = .returned (.tuple #[.int .i64 v0, .int .i64 0]) ∧ Below W.heap.size W W')
    (c1 : ∀ W, Below w.heap.size w W → Calls Tryd.prog K #[.int .i64 1, .pointer (some p0)] W fun e W' => e = .returned (.tuple #[.int .i64 v1, .int .i64 0]) ∧ Below W.heap.size W W')
    (c2 : ∀ W, Below w.heap.size w W → Calls Tryd.prog K #[.int .i64 2, .pointer (some p0)] W fun e W' => e = .returned (.tuple #[.int .i64 v2, .int .i64 0]) ∧ Below W.heap.size W W')
    (c3 : ∀ W, Below w.heap.size w W → Calls Tryd.prog K #[.int .i64 3, .pointer (some p0)] W fun e W' => e = .returned (.tuple #[.int .i64 v3, .int .i64 0]) ∧ Below W.heap.size W W') :
    Calls Tryd.prog 12 #[.func (.func K) #[] #[.pointer (some p0)]] w fun e w' => e = .returned (.tuple #[.agg #[.int .i64 v0, .int .i64 v1, .int .i64 v2, .int .i64 v3], .bool true]) ∧ Below w.heap.size w w' := by
  have C0 := Lib.hid c0
  have C1 := Lib.hid c1
  have C2 := Lib.hid c2
  have C3 := Lib.hid c3
  clear c0 c1 c2 c3
  have hS : Hid (FourW 0 0 0 0 w _) := FourW.start w
  go_enter Tryd.func12, Tryd.ntmps12
  go_wp2_with fail
  go_loopw [8] (fun i wr => (i = .int .i64 0 ∧ Hid (FourW 0 0 0 0 w wr)) ∨ (i = .int .i64 1 ∧ Hid (FourW v0 0 0 0 w wr)) ∨ (i = .int .i64 2 ∧ Hid (FourW v0 v1 0 0 w wr)) ∨ (i = .int .i64 3 ∧ Hid (FourW v0 v1 v2 0 w wr)) ∨ (i = .int .i64 4 ∧ Hid (FourW v0 v1 v2 v3 w wr))) (fun i _ => 4 - (intOf i).toNat)
  case atStart => exact .inl ⟨rfl, hS⟩
  case round =>
    rcases hrel with ⟨rfl, hI⟩ | ⟨rfl, hI⟩ | ⟨rfl, hI⟩ | ⟨rfl, hI⟩ | ⟨rfl, hI⟩
    · have hI' := hI.out
      have hB := hI'.2.2.2.2
      have CC := Lib.hid (C0.out wr hB)
      go_wp2_with ((with_reducible refine CC.out.mono ?_); rintro e w1 ⟨rfl, hb1⟩; have hI1 := hI'.later hb1; obtain ⟨⟨a0, a1, a2, a3⟩, ⟨b0, b1, b2, b3⟩, hx⟩ := hI1)
      go_roundw
      case rel => exact .inr (.inl ⟨by go_num, FourW.put0 _ ⟨⟨a0, a1, a2, a3⟩, ⟨b0, b1, b2, b3⟩, hx⟩⟩)
      case measure => simp [intOf]
    · have hI' := hI.out
      have hB := hI'.2.2.2.2
      have CC := Lib.hid (C1.out wr hB)
      go_wp2_with ((with_reducible refine CC.out.mono ?_); rintro e w1 ⟨rfl, hb1⟩; have hI1 := hI'.later hb1; obtain ⟨⟨a0, a1, a2, a3⟩, ⟨b0, b1, b2, b3⟩, hx⟩ := hI1)
      go_roundw
      case rel => exact .inr (.inr (.inl ⟨by go_num, FourW.put1 _ ⟨⟨a0, a1, a2, a3⟩, ⟨b0, b1, b2, b3⟩, hx⟩⟩))
      case measure => simp [intOf]
    · have hI' := hI.out
      have hB := hI'.2.2.2.2
      have CC := Lib.hid (C2.out wr hB)
      go_wp2_with ((with_reducible refine CC.out.mono ?_); rintro e w1 ⟨rfl, hb1⟩; have hI1 := hI'.later hb1; obtain ⟨⟨a0, a1, a2, a3⟩, ⟨b0, b1, b2, b3⟩, hx⟩ := hI1)
      go_roundw
      case rel => exact .inr (.inr (.inr (.inl ⟨by go_num, FourW.put2 _ ⟨⟨a0, a1, a2, a3⟩, ⟨b0, b1, b2, b3⟩, hx⟩⟩)))
      case measure => simp [intOf]
    · have hI' := hI.out
      have hB := hI'.2.2.2.2
      have CC := Lib.hid (C3.out wr hB)
      go_wp2_with ((with_reducible refine CC.out.mono ?_); rintro e w1 ⟨rfl, hb1⟩; have hI1 := hI'.later hb1; obtain ⟨⟨a0, a1, a2, a3⟩, ⟨b0, b1, b2, b3⟩, hx⟩ := hI1)
      go_roundw
      case rel => exact .inr (.inr (.inr (.inr ⟨by go_num, FourW.put3 _ ⟨⟨a0, a1, a2, a3⟩, ⟨b0, b1, b2, b3⟩, hx⟩⟩)))
      case measure => simp [intOf]
    · obtain ⟨⟨a0, a1, a2, a3⟩, ⟨b0, b1, b2, b3⟩, ⟨c0, c1, c2, c3⟩, ⟨d0, d1, d2, d3⟩, h9⟩ := hI.out
      go_wp2_with fail
      obtain ⟨k0, k1, k2, k3⟩ := set_quad (.int .i64 v0) (.int .i64 v1) (.int .i64 v2) (.int .i64 v3) c0 c1 c2 c3
      exact bodyPost_ret (v := .tuple #[.agg #[.int .i64 v0, .int .i64 v1, .int .i64 v2, .int .i64 v3], .bool true]) (by simp [results, Tryd.results12, go_sem, k0, k1, k2, k3]) rfl ⟨rfl, (((h9.setCell (by simp) _).setCell (by simp) _).setCell (by simp) _).setCell (by simp) _⟩

set_option maxHeartbeats 2000000 in
theorem four2_bad (K : Nat) (p0 p1 : Addr) (v0 v1 v2 v3 e0 e1 e2 e3 : Int) (w : World) (hcf : ∀ args w, (callFunc K args).run Tryd.prog w = .ok (.enter K args) w)
    (hbad : ¬ (e0 = 0 ∧ e1 = 0 ∧ e2 = 0 ∧ e3 = 0))
    (c0 : ∀ W, Below w.heap.size w W → Calls Tryd.prog K #[.int .i64 0, .pointer (some p0), .pointer (some p1)] W fun e W' => e = .returned (.tuple #[.int .i64 v0, .int .i64 e0]) ∧ Below W.heap.size W W')
    (c1 : ∀ W, Below w.heap.size w W → Calls Tryd.prog K #[.int .i64 1, .pointer (some p0), .pointer (some p1)] W fun e W' => e = .returned (.tuple #[.int .i64 v1, .int .i64 e1]) ∧ Below W.heap.size W W')
    (c2 : ∀ W, Below w.heap.size w W → Calls Tryd.prog K #[.int .i64 2, .pointer (some p0), .pointer (some p1)] W fun e W' => e = .returned (.tuple #[.int .i64 v2, .int .i64 e2]) ∧ Below W.heap.size W W')
    (c3 : ∀ W, Below w.heap.size w W → Calls Tryd.prog K #[.int .i64 3, .pointer (some p0), .pointer (some p1)] W fun e W' => e = .returned (.tuple #[.int .i64 v3, .int .i64 e3]) ∧ Below W.heap.size W W') :
    Calls Tryd.prog 12 #[.func (.func K) #[] #[.pointer (some p0), .pointer (some p1)]] w fun e w' => ∃ l0 l1 l2 l3, e = .returned (.tuple #[.agg #[.int .i64 l0, .int .i64 l1, .int .i64 l2, .int .i64 l3], .bool false]) ∧ Below w.heap.size w w' := by
  have C0 := Lib.hid c0
  have C1 := Lib.hid c1
  have C2 := Lib.hid c2
  have C3 := Lib.hid c3
  have HB := Lib.hid hbad
  clear c0 c1 c2 c3 hbad
  have hS : Hid (FourW 0 0 0 0 w _) := FourW.start w
  go_enter Tryd.func12, Tryd.ntmps12
  go_wp2_with fail
  go_loopw [8] (fun i wr => (i = .int .i64 0 ∧ Hid (∃ l0 l1 l2 l3, FourW l0 l1 l2 l3 w wr)) ∨ (i = .int .i64 1 ∧ e0 = 0 ∧ Hid (∃ l0 l1 l2 l3, FourW l0 l1 l2 l3 w wr)) ∨ (i = .int .i64 2 ∧ e0 = 0 ∧ e1 = 0 ∧ Hid (∃ l0 l1 l2 l3, FourW l0 l1 l2 l3 w wr)) ∨ (i = .int .i64 3 ∧ e0 = 0 ∧ e1 = 0 ∧ e2 = 0 ∧ Hid (∃ l0 l1 l2 l3, FourW l0 l1 l2 l3 w wr)) ∨ (i = .int .i64 4 ∧ e0 = 0 ∧ e1 = 0 ∧ e2 = 0 ∧ e3 = 0 ∧ Hid (∃ l0 l1 l2 l3, FourW l0 l1 l2 l3 w wr))) (fun i _ => 4 - (intOf i).toNat)
  case atStart => exact .inl ⟨rfl, ⟨_, _, _, _, hS⟩⟩
  case round =>
    rcases hrel with ⟨rfl, hI⟩ | ⟨rfl, rfl, hI⟩ | ⟨rfl, rfl, rfl, hI⟩ | ⟨rfl, rfl, rfl, rfl, hI⟩ | ⟨rfl, rfl, rfl, rfl, rfl, hI⟩
    · obtain ⟨l0, l1, l2, l3, hI'⟩ := hI.out
      have hB := hI'.2.2.2.2
      have CC := Lib.hid (C0.out wr hB)
      by_cases he : e0 = 0
      · subst he
        go_wp2_with ((with_reducible refine CC.out.mono ?_); rintro e w1 ⟨rfl, hb1⟩; have hI1 := hI'.later hb1; obtain ⟨⟨a0, a1, a2, a3⟩, ⟨b0, b1, b2, b3⟩, hx⟩ := hI1)
        go_roundw
        case rel => exact .inr (.inl ⟨by go_num, by trivial, ⟨_, _, _, _, FourW.put0 _ ⟨⟨a0, a1, a2, a3⟩, ⟨b0, b1, b2, b3⟩, hx⟩⟩⟩)
        case measure => simp [intOf]
      · go_wp2_with ((with_reducible refine CC.out.mono ?_); rintro e w1 ⟨rfl, hb1⟩; have hI1 := hI'.later hb1; obtain ⟨⟨a0, a1, a2, a3⟩, ⟨b0, b1, b2, b3⟩, ⟨c0, c1, c2, c3⟩, ⟨d0, d1, d2, d3⟩, h9⟩ := hI1)
        obtain ⟨k0, k1, k2, k3⟩ := set_quad (.int .i64 l0) (.int .i64 l1) (.int .i64 l2) (.int .i64 l3) c0 c1 c2 c3
        exact bodyPost_ret (v := .tuple #[.agg #[.int .i64 l0, .int .i64 l1, .int .i64 l2, .int .i64 l3], .bool false]) (by simp [results, Tryd.results12, go_sem, k0, k1, k2, k3]) rfl ⟨l0, l1, l2, l3, rfl, (((h9.setCell (by simp) _).setCell (by simp) _).setCell (by simp) _).setCell (by simp) _⟩
    · obtain ⟨l0, l1, l2, l3, hI'⟩ := hI.out
      have hB := hI'.2.2.2.2
      have CC := Lib.hid (C1.out wr hB)
      by_cases he : e1 = 0
      · subst he
        go_wp2_with ((with_reducible refine CC.out.mono ?_); rintro e w1 ⟨rfl, hb1⟩; have hI1 := hI'.later hb1; obtain ⟨⟨a0, a1, a2, a3⟩, ⟨b0, b1, b2, b3⟩, hx⟩ := hI1)
        go_roundw
        case rel => exact .inr (.inr (.inl ⟨by go_num, by trivial, by trivial, ⟨_, _, _, _, FourW.put1 _ ⟨⟨a0, a1, a2, a3⟩, ⟨b0, b1, b2, b3⟩, hx⟩⟩⟩))
        case measure => simp [intOf]
      · go_wp2_with ((with_reducible refine CC.out.mono ?_); rintro e w1 ⟨rfl, hb1⟩; have hI1 := hI'.later hb1; obtain ⟨⟨a0, a1, a2, a3⟩, ⟨b0, b1, b2, b3⟩, ⟨c0, c1, c2, c3⟩, ⟨d0, d1, d2, d3⟩, h9⟩ := hI1)
        obtain ⟨k0, k1, k2, k3⟩ := set_quad (.int .i64 l0) (.int .i64 l1) (.int .i64 l2) (.int .i64 l3) c0 c1 c2 c3
        exact bodyPost_ret (v := .tuple #[.agg #[.int .i64 l0, .int .i64 l1, .int .i64 l2, .int .i64 l3], .bool false]) (by simp [results, Tryd.results12, go_sem, k0, k1, k2, k3]) rfl ⟨l0, l1, l2, l3, rfl, (((h9.setCell (by simp) _).setCell (by simp) _).setCell (by simp) _).setCell (by simp) _⟩
    · obtain ⟨l0, l1, l2, l3, hI'⟩ := hI.out
      have hB := hI'.2.2.2.2
      have CC := Lib.hid (C2.out wr hB)
      by_cases he : e2 = 0
      · subst he
        go_wp2_with ((with_reducible refine CC.out.mono ?_); rintro e w1 ⟨rfl, hb1⟩; have hI1 := hI'.later hb1; obtain ⟨⟨a0, a1, a2, a3⟩, ⟨b0, b1, b2, b3⟩, hx⟩ := hI1)
        go_roundw
        case rel => exact .inr (.inr (.inr (.inl ⟨by go_num, by trivial, by trivial, by trivial, ⟨_, _, _, _, FourW.put2 _ ⟨⟨a0, a1, a2, a3⟩, ⟨b0, b1, b2, b3⟩, hx⟩⟩⟩)))
        case measure => simp [intOf]
      · go_wp2_with ((with_reducible refine CC.out.mono ?_); rintro e w1 ⟨rfl, hb1⟩; have hI1 := hI'.later hb1; obtain ⟨⟨a0, a1, a2, a3⟩, ⟨b0, b1, b2, b3⟩, ⟨c0, c1, c2, c3⟩, ⟨d0, d1, d2, d3⟩, h9⟩ := hI1)
        obtain ⟨k0, k1, k2, k3⟩ := set_quad (.int .i64 l0) (.int .i64 l1) (.int .i64 l2) (.int .i64 l3) c0 c1 c2 c3
        exact bodyPost_ret (v := .tuple #[.agg #[.int .i64 l0, .int .i64 l1, .int .i64 l2, .int .i64 l3], .bool false]) (by simp [results, Tryd.results12, go_sem, k0, k1, k2, k3]) rfl ⟨l0, l1, l2, l3, rfl, (((h9.setCell (by simp) _).setCell (by simp) _).setCell (by simp) _).setCell (by simp) _⟩
    · obtain ⟨l0, l1, l2, l3, hI'⟩ := hI.out
      have hB := hI'.2.2.2.2
      have CC := Lib.hid (C3.out wr hB)
      by_cases he : e3 = 0
      · subst he
        go_wp2_with ((with_reducible refine CC.out.mono ?_); rintro e w1 ⟨rfl, hb1⟩; have hI1 := hI'.later hb1; obtain ⟨⟨a0, a1, a2, a3⟩, ⟨b0, b1, b2, b3⟩, hx⟩ := hI1)
        go_roundw
        case rel => exact .inr (.inr (.inr (.inr (⟨by go_num, by trivial, by trivial, by trivial, by trivial, ⟨_, _, _, _, FourW.put3 _ ⟨⟨a0, a1, a2, a3⟩, ⟨b0, b1, b2, b3⟩, hx⟩⟩⟩))))
        case measure => simp [intOf]
      · go_wp2_with ((with_reducible refine CC.out.mono ?_); rintro e w1 ⟨rfl, hb1⟩; have hI1 := hI'.later hb1; obtain ⟨⟨a0, a1, a2, a3⟩, ⟨b0, b1, b2, b3⟩, ⟨c0, c1, c2, c3⟩, ⟨d0, d1, d2, d3⟩, h9⟩ := hI1)
        obtain ⟨k0, k1, k2, k3⟩ := set_quad (.int .i64 l0) (.int .i64 l1) (.int .i64 l2) (.int .i64 l3) c0 c1 c2 c3
        exact bodyPost_ret (v := .tuple #[.agg #[.int .i64 l0, .int .i64 l1, .int .i64 l2, .int .i64 l3], .bool false]) (by simp [results, Tryd.results12, go_sem, k0, k1, k2, k3]) rfl ⟨l0, l1, l2, l3, rfl, (((h9.setCell (by simp) _).setCell (by simp) _).setCell (by simp) _).setCell (by simp) _⟩
    · exact absurd ⟨rfl, rfl, rfl, rfl⟩ HB.out

set_option maxHeartbeats 2000000 in
theorem four1_bad (K : Nat) (p0 : Addr) (v0 v1 v2 v3 e0 e1 e2 e3 : Int) (w : World) (hcf : ∀ args w, (callFunc K args).run Tryd.prog w = .ok (.enter K args) w)
    (hbad : ¬ (e0 = 0 ∧ e1 = 0 ∧ e2 = 0 ∧ e3 = 0))
    (c0 : ∀ W, Below w.heap.size w W → Calls Tryd.prog K #[.int .i64 0, .pointer (some p0)] W fun e W' => e = .returned (.tuple #[.int .i64 v0, .int .i64 e0]) ∧ Below W.heap.size W W')
    (c1 : ∀ W, Below w.heap.size w W → Calls Tryd.prog K #[.int .i64 1, .pointer (some p0)] W fun e W' => e = .returned (.tuple #[.int .i64 v1, .int .i64 e1]) ∧ Below W.heap.size W W')
    (c2 : ∀ W, Below w.heap.size w W → Calls Tryd.prog K #[.int .i64 2, .pointer (some p0)] W fun e W' => e = .returned (.tuple #[.int .i64 v2, .int .i64 e2]) ∧ Below W.heap.size W W')
    (c3 : ∀ W, Below w.heap.size w W → Calls Tryd.prog K #[.int .i64 3, .pointer (some p0)] W fun e W' => e = .returned (.tuple #[.int .i64 v3, .int .i64 e3]) ∧ Below W.heap.size W W') :
    Calls Tryd.prog 12 #[.func (.func K) #[] #[.pointer (some p0)]] w fun e w' => ∃ l0 l1 l2 l3, e = .returned (.tuple #[.agg #[.int .i64 l0, .int .i64 l1, .int .i64 l2, .int .i64 l3], .bool false]) ∧ Below w.heap.size w w' := by
  have C0 := Lib.hid c0
  have C1 := Lib.hid c1
  have C2 := Lib.hid c2
  have C3 := Lib.hid c3
  have HB := Lib.hid hbad
  clear c0 c1 c2 c3 hbad
  have hS : Hid (FourW 0 0 0 0 w _) := FourW.start w
  go_enter Tryd.func12, Tryd.ntmps12
  go_wp2_with fail
  go_loopw [8] (fun i wr => (i = .int .i64 0 ∧ Hid (∃ l0 l1 l2 l3, FourW l0 l1 l2 l3 w wr)) ∨ (i = .int .i64 1 ∧ e0 = 0 ∧ Hid (∃ l0 l1 l2 l3, FourW l0 l1 l2 l3 w wr)) ∨ (i = .int .i64 2 ∧ e0 = 0 ∧ e1 = 0 ∧ Hid (∃ l0 l1 l2 l3, FourW l0 l1 l2 l3 w wr)) ∨ (i = .int .i64 3 ∧ e0 = 0 ∧ e1 = 0 ∧ e2 = 0 ∧ Hid (∃ l0 l1 l2 l3, FourW l0 l1 l2 l3 w wr)) ∨ (i = .int .i64 4 ∧ e0 = 0 ∧ e1 = 0 ∧ e2 = 0 ∧ e3 = 0 ∧ Hid (∃ l0 l1 l2 l3, FourW l0 l1 l2 l3 w wr))) (fun i _ => 4 - (intOf i).toNat)
  case atStart => exact .inl ⟨rfl, ⟨_, _, _, _, hS⟩⟩
  case round =>
    rcases hrel with ⟨rfl, hI⟩ | ⟨rfl, rfl, hI⟩ | ⟨rfl, rfl, rfl, hI⟩ | ⟨rfl, rfl, rfl, rfl, hI⟩ | ⟨rfl, rfl, rfl, rfl, rfl, hI⟩
    · obtain ⟨l0, l1, l2, l3, hI'⟩ := hI.out
      have hB := hI'.2.2.2.2
      have CC := Lib.hid (C0.out wr hB)
      by_cases he : e0 = 0
      · subst he
        go_wp2_with ((with_reducible refine CC.out.mono ?_); rintro e w1 ⟨rfl, hb1⟩; have hI1 := hI'.later hb1; obtain ⟨⟨a0, a1, a2, a3⟩, ⟨b0, b1, b2, b3⟩, hx⟩ := hI1)
        go_roundw
        case rel => exact .inr (.inl ⟨by go_num, by trivial, ⟨_, _, _, _, FourW.put0 _ ⟨⟨a0, a1, a2, a3⟩, ⟨b0, b1, b2, b3⟩, hx⟩⟩⟩)
        case measure => simp [intOf]
      · go_wp2_with ((with_reducible refine CC.out.mono ?_); rintro e w1 ⟨rfl, hb1⟩; have hI1 := hI'.later hb1; obtain ⟨⟨a0, a1, a2, a3⟩, ⟨b0, b1, b2, b3⟩, ⟨c0, c1, c2, c3⟩, ⟨d0, d1, d2, d3⟩, h9⟩ := hI1)
        obtain ⟨k0, k1, k2, k3⟩ := set_quad (.int .i64 l0) (.int .i64 l1) (.int .i64 l2) (.int .i64 l3) c0 c1 c2 c3
        exact bodyPost_ret (v := .tuple #[.agg #[.int .i64 l0, .int .i64 l1, .int .i64 l2, .int .i64 l3], .bool false]) (by simp [results, Tryd.results12, go_sem, k0, k1, k2, k3]) rfl ⟨l0, l1, l2, l3, rfl, (((h9.setCell (by simp) _).setCell (by simp) _).setCell (by simp) _).setCell (by simp) _⟩
    · obtain ⟨l0, l1, l2, l3, hI'⟩ := hI.out
      have hB := hI'.2.2.2.2
      have CC := Lib.hid (C1.out wr hB)
      by_cases he : e1 = 0
      · subst he
        go_wp2_with ((with_reducible refine CC.out.mono ?_); rintro e w1 ⟨rfl, hb1⟩; have hI1 := hI'.later hb1; obtain ⟨⟨a0, a1, a2, a3⟩, ⟨b0, b1, b2, b3⟩, hx⟩ := hI1)
        go_roundw
        case rel => exact .inr (.inr (.inl ⟨by go_num, by trivial, by trivial, ⟨_, _, _, _, FourW.put1 _ ⟨⟨a0, a1, a2, a3⟩, ⟨b0, b1, b2, b3⟩, hx⟩⟩⟩))
        case measure => simp [intOf]
      · go_wp2_with ((with_reducible refine CC.out.mono ?_); rintro e w1 ⟨rfl, hb1⟩; have hI1 := hI'.later hb1; obtain ⟨⟨a0, a1, a2, a3⟩, ⟨b0, b1, b2, b3⟩, ⟨c0, c1, c2, c3⟩, ⟨d0, d1, d2, d3⟩, h9⟩ := hI1)
        obtain ⟨k0, k1, k2, k3⟩ := set_quad (.int .i64 l0) (.int .i64 l1) (.int .i64 l2) (.int .i64 l3) c0 c1 c2 c3
        exact bodyPost_ret (v := .tuple #[.agg #[.int .i64 l0, .int .i64 l1, .int .i64 l2, .int .i64 l3], .bool false]) (by simp [results, Tryd.results12, go_sem, k0, k1, k2, k3]) rfl ⟨l0, l1, l2, l3, rfl, (((h9.setCell (by simp) _).setCell (by simp) _).setCell (by simp) _).setCell (by simp) _⟩
    · obtain ⟨l0, l1, l2, l3, hI'⟩ := hI.out
      have hB := hI'.2.2.2.2
      have CC := Lib.hid (C2.out wr hB)
      by_cases he : e2 = 0
      · subst he
        go_wp2_with ((with_reducible refine CC.out.mono ?_); rintro e w1 ⟨rfl, hb1⟩; have hI1 := hI'.later hb1; obtain ⟨⟨a0, a1, a2, a3⟩, ⟨b0, b1, b2, b3⟩, hx⟩ := hI1)
        go_roundw
        case rel => exact .inr (.inr (.inr (.inl ⟨by go_num, by trivial, by trivial, by trivial, ⟨_, _, _, _, FourW.put2 _ ⟨⟨a0, a1, a2, a3⟩, ⟨b0, b1, b2, b3⟩, hx⟩⟩⟩)))
        case measure => simp [intOf]
      · go_wp2_with ((with_reducible refine CC.out.mono ?_); rintro e w1 ⟨rfl, hb1⟩; have hI1 := hI'.later hb1; obtain ⟨⟨a0, a1, a2, a3⟩, ⟨b0, b1, b2, b3⟩, ⟨c0, c1, c2, c3⟩, ⟨d0, d1, d2, d3⟩, h9⟩ := hI1)
        obtain ⟨k0, k1, k2, k3⟩ := set_quad (.int .i64 l0) (.int .i64 l1) (.int .i64 l2) (.int .i64 l3) c0 c1 c2 c3
        exact bodyPost_ret (v := .tuple #[.agg #[.int .i64 l0, .int .i64 l1, .int .i64 l2, .int .i64 l3], .bool false]) (by simp [results, Tryd.results12, go_sem, k0, k1, k2, k3]) rfl ⟨l0, l1, l2, l3, rfl, (((h9.setCell (by simp) _).setCell (by simp) _).setCell (by simp) _).setCell (by simp) _⟩
    · obtain ⟨l0, l1, l2, l3, hI'⟩ := hI.out
      have hB := hI'.2.2.2.2
      have CC := Lib.hid (C3.out wr hB)
      by_cases he : e3 = 0
      · subst he
        go_wp2_with ((with_reducible refine CC.out.mono ?_); rintro e w1 ⟨rfl, hb1⟩; have hI1 := hI'.later hb1; obtain ⟨⟨a0, a1, a2, a3⟩, ⟨b0, b1, b2, b3⟩, hx⟩ := hI1)
        go_roundw
        case rel => exact .inr (.inr (.inr (.inr (⟨by go_num, by trivial, by trivial, by trivial, by trivial, ⟨_, _, _, _, FourW.put3 _ ⟨⟨a0, a1, a2, a3⟩, ⟨b0, b1, b2, b3⟩, hx⟩⟩⟩))))
        case measure => simp [intOf]
      · go_wp2_with ((with_reducible refine CC.out.mono ?_); rintro e w1 ⟨rfl, hb1⟩; have hI1 := hI'.later hb1; obtain ⟨⟨a0, a1, a2, a3⟩, ⟨b0, b1, b2, b3⟩, ⟨c0, c1, c2, c3⟩, ⟨d0, d1, d2, d3⟩, h9⟩ := hI1)
        obtain ⟨k0, k1, k2, k3⟩ := set_quad (.int .i64 l0) (.int .i64 l1) (.int .i64 l2) (.int .i64 l3) c0 c1 c2 c3
        exact bodyPost_ret (v := .tuple #[.agg #[.int .i64 l0, .int .i64 l1, .int .i64 l2, .int .i64 l3], .bool false]) (by simp [results, Tryd.results12, go_sem, k0, k1, k2, k3]) rfl ⟨l0, l1, l2, l3, rfl, (((h9.setCell (by simp) _).setCell (by simp) _).setCell (by simp) _).setCell (by simp) _⟩
    · exact absurd ⟨rfl, rfl, rfl, rfl⟩ HB.out

end Go.Proofs.YtggomcbikadaoaaDoor
