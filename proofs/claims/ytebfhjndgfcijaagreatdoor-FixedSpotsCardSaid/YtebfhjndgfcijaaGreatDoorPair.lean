/- The contract of package fixed's each over pairs: both coordinates, or the fault of the first that stops. -/
import Derived.Test.YtebfhjndgfcijaaGreatDoorNeeds
import Derived.Test.YtebfhjndgfcijaaGreatDoorUnitsLaw
namespace Go.Proofs.YtebfhjndgfcijaaGreatDoor
open Go Go.RowKit

theorem spot_set {W : World} {b : Nat} {x y : Int} (h : SpotAt W b x y) {a : Addr} (v : Value) (ha : b ≠ a.block) : SpotAt (W.setCell a v) b x y :=
  ⟨(World.cell?_setCell_other _ _ _ _ (fun e => ha (congrArg Addr.block e).symm)).trans h.1, (World.cell?_setCell_other _ _ _ _ (fun e => ha (congrArg Addr.block e).symm)).trans h.2⟩

/-- The three boxes with which each begins. -/
def PairW (w W : World) (a b c d : Int) : Prop :=
  (SpotAt W w.heap.size a b ∧ SpotAt W (w.heap.size + 1) c d) ∧ SpotAt W (w.heap.size + 1 + 1) 0 0 ∧ (W.frozen? ⟨w.heap.size + 1 + 1, 0, none⟩ = false ∧ W.frozen? ⟨w.heap.size + 1 + 1, 1, none⟩ = false) ∧ Below w.heap.size w W
theorem PairW.later {w W W' : World} {a b c d : Int} (h : PairW w W a b c d) (hb : Below W.heap.size W W') : PairW w W' a b c d :=
  have hl := World.block_lt_of_cell? _ _ h.2.1.1
  ⟨⟨spot_later hb h.1.1, spot_later hb h.1.2⟩, spot_later hb h.2.1, ⟨(hb.frozen (p := ⟨w.heap.size + 1 + 1, 0, none⟩) hl).trans h.2.2.1.1, (hb.frozen (p := ⟨w.heap.size + 1 + 1, 1, none⟩) hl).trans h.2.2.1.2⟩, kc h.2.2.2 hb⟩
theorem PairW.cells {w W : World} {a b c d : Int} (h : PairW w W a b c d) : W.cell? ⟨w.heap.size, 0, none⟩ = some (.int .i64 a) ∧ W.cell? ⟨w.heap.size, 1, none⟩ = some (.int .i64 b) ∧ W.cell? ⟨w.heap.size + 1, 0, none⟩ = some (.int .i64 c) ∧ W.cell? ⟨w.heap.size + 1, 1, none⟩ = some (.int .i64 d) :=
  ⟨h.1.1.1, h.1.1.2, h.1.2.1, h.1.2.2⟩
theorem PairW.set {w W : World} {a b c d : Int} (h : PairW w W a b c d) (u v : Value) :
    ((W.setCell ⟨w.heap.size + 1 + 1, 0, none⟩ u).setCell ⟨w.heap.size + 1 + 1, 1, none⟩ v).cell? ⟨w.heap.size, 0, none⟩ = some (.int .i64 a) ∧ ((W.setCell ⟨w.heap.size + 1 + 1, 0, none⟩ u).setCell ⟨w.heap.size + 1 + 1, 1, none⟩ v).cell? ⟨w.heap.size, 1, none⟩ = some (.int .i64 b) ∧
    ((W.setCell ⟨w.heap.size + 1 + 1, 0, none⟩ u).setCell ⟨w.heap.size + 1 + 1, 1, none⟩ v).cell? ⟨w.heap.size + 1, 0, none⟩ = some (.int .i64 c) ∧ ((W.setCell ⟨w.heap.size + 1 + 1, 0, none⟩ u).setCell ⟨w.heap.size + 1 + 1, 1, none⟩ v).cell? ⟨w.heap.size + 1, 1, none⟩ = some (.int .i64 d) :=
  have e1 := spot_set (spot_set h.1.1 (a := ⟨w.heap.size + 1 + 1, 0, none⟩) u (by simp only; omega)) (a := ⟨w.heap.size + 1 + 1, 1, none⟩) v (by simp only; omega)
  have e2 := spot_set (spot_set h.1.2 (a := ⟨w.heap.size + 1 + 1, 0, none⟩) u (by simp only; omega)) (a := ⟨w.heap.size + 1 + 1, 1, none⟩) v (by simp only; omega)
  ⟨e1.1, e1.2, e2.1, e2.2⟩

set_option maxRecDepth 100000 in
set_option maxHeartbeats 1000000 in
theorem each_pair (a b c d u v : Int) (K : Nat) (w : World) (hcf : ∀ args w, (callFunc K args).run Tryz.prog w = .ok (.enter K args) w)
    (cx : ∀ W, Calls Tryz.prog K #[.agg #[.int .i64 a, .int .i64 b]] W fun e w' => e = .returned (.int .i64 u) ∧ Below W.heap.size W w')
    (cy : ∀ W, Calls Tryz.prog K #[.agg #[.int .i64 c, .int .i64 d]] W fun e w' => e = .returned (.int .i64 v) ∧ Below W.heap.size W w') :
    Calls Tryz.prog 63 #[.agg #[.int .i64 a, .int .i64 b], .agg #[.int .i64 c, .int .i64 d], .func (.func K) #[] #[]] w fun e w' => e = .returned (.agg #[.int .i64 u, .int .i64 v]) ∧ Below w.heap.size w w' := by
  have CX := Lib.hid cx
  have CY := Lib.hid cy
  clear cx cy
  go_enter Tryz.func63, Tryz.ntmps63
  go_upto_region 1 with fail
  have hP : PairW w (((w.alloc (.cells #[.int .i64 a, .int .i64 b] 99)).alloc (.cells #[.int .i64 c, .int .i64 d] 99)).alloc (.cells #[.int .i64 0, .int .i64 0] 33)) a b c d :=
    ⟨⟨⟨by simp [go_sem], by simp [go_sem]⟩, ⟨by simp [go_sem], by simp [go_sem]⟩⟩, ⟨by simp [go_sem], by simp [go_sem]⟩, ⟨by simp [go_sem], by simp [go_sem]⟩, (((Below.refl w.heap.size w).alloc (Nat.le_refl _) _).alloc (by simp) _).alloc (by simp; omega) _⟩
  obtain ⟨W0, hW0⟩ : ∃ W0, (((w.alloc (.cells #[.int .i64 a, .int .i64 b] 99)).alloc (.cells #[.int .i64 c, .int .i64 d] 99)).alloc (.cells #[.int .i64 0, .int .i64 0] 33)) = W0 := ⟨_, rfl⟩
  rw [hW0] at hP ⊢
  clear hW0
  go_region_held3 (fun w' => w'.cell? ⟨w.heap.size, 0, none⟩ = some (.int .i64 a) ∧ w'.cell? ⟨w.heap.size, 1, none⟩ = some (.int .i64 b) ∧ w'.cell? ⟨w.heap.size + 1, 0, none⟩ = some (.int .i64 c) ∧ w'.cell? ⟨w.heap.size + 1, 1, none⟩ = some (.int .i64 d))
    (first | exact hP.cells | exact hP1.cells | exact hP2.cells | exact hP2.set _ _)
    ((first | ((with_reducible refine (CX.out _).mono ?_); rintro e w1 ⟨rfl, hb1⟩; have hP1 := (hP.later ((Below.refl W0.heap.size W0).drew)).later hb1) | ((with_reducible refine (CY.out _).mono ?_); rintro e w2 ⟨rfl, hb2⟩; have hP2 := hP1.later hb2; have hX := hP2; obtain ⟨_, ⟨t0, t1⟩, ⟨f0, f1⟩, _⟩ := hX)))
  go_wp2
  obtain ⟨k1, k2⟩ := set_pair (.int .i64 u) (.int .i64 v) t0 t1
  exact bodyPost_ret (v := .agg #[.int .i64 u, .int .i64 v]) (by simp [results, Tryz.results63, go_sem, k1, k2]) rfl
    ⟨rfl, (hP2.2.2.2.setCell (by simp; omega) _).setCell (by simp; omega) _⟩

set_option maxRecDepth 100000 in
set_option maxHeartbeats 1000000 in
theorem each_pair_x (a b c d n : Int) (K : Nat) (w : World) (hcf : ∀ args w, (callFunc K args).run Tryz.prog w = .ok (.enter K args) w)
    (cx : ∀ W, Calls Tryz.prog K #[.agg #[.int .i64 a, .int .i64 b]] W fun e w' => e = flt n ∧ Below W.heap.size W w') :
    Calls Tryz.prog 63 #[.agg #[.int .i64 a, .int .i64 b], .agg #[.int .i64 c, .int .i64 d], .func (.func K) #[] #[]] w fun e w' => e = flt n ∧ Below w.heap.size w w' := by
  have CX := Lib.hid (fun W => or_never (R' := fun e w' => e = .returned (.int .i64 0) ∧ Below W.heap.size W w') (cx W))
  have CY : Hid (Never → ∀ W, Calls Tryz.prog K #[.agg #[.int .i64 c, .int .i64 d]] W fun e w' => e = .returned (.int .i64 0) ∧ Below W.heap.size W w') := fun h => (h : False).elim
  clear cx
  go_enter Tryz.func63, Tryz.ntmps63
  go_upto_region 1 with fail
  have hP : PairW w (((w.alloc (.cells #[.int .i64 a, .int .i64 b] 99)).alloc (.cells #[.int .i64 c, .int .i64 d] 99)).alloc (.cells #[.int .i64 0, .int .i64 0] 33)) a b c d :=
    ⟨⟨⟨by simp [go_sem], by simp [go_sem]⟩, ⟨by simp [go_sem], by simp [go_sem]⟩⟩, ⟨by simp [go_sem], by simp [go_sem]⟩, ⟨by simp [go_sem], by simp [go_sem]⟩, (((Below.refl w.heap.size w).alloc (Nat.le_refl _) _).alloc (by simp) _).alloc (by simp; omega) _⟩
  obtain ⟨W0, hW0⟩ : ∃ W0, (((w.alloc (.cells #[.int .i64 a, .int .i64 b] 99)).alloc (.cells #[.int .i64 c, .int .i64 d] 99)).alloc (.cells #[.int .i64 0, .int .i64 0] 33)) = W0 := ⟨_, rfl⟩
  rw [hW0] at hP ⊢
  clear hW0
  go_region_held2 (fun w' => w'.cell? ⟨w.heap.size, 0, none⟩ = some (.int .i64 a) ∧ w'.cell? ⟨w.heap.size, 1, none⟩ = some (.int .i64 b) ∧ w'.cell? ⟨w.heap.size + 1, 0, none⟩ = some (.int .i64 c) ∧ w'.cell? ⟨w.heap.size + 1, 1, none⟩ = some (.int .i64 d))
    (first | exact hP.cells | exact hP1.cells | exact hP2.cells | exact hP2.set _ _)
    ((first | ((with_reducible refine (CX.out _).mono ?_); rintro e w1 (⟨rfl, hb1⟩ | ⟨hx, rfl, hb1⟩); exact ⟨rfl, rfl, ((hP.later ((Below.refl W0.heap.size W0).drew)).later hb1).2.2.2⟩; have hP1 := (hP.later ((Below.refl W0.heap.size W0).drew)).later hb1) | ((with_reducible refine (CY.out hx _).mono ?_); rintro e w2 ⟨rfl, hb2⟩; have hP2 := hP1.later hb2; have hX := hP2; obtain ⟨_, ⟨t0, t1⟩, ⟨f0, f1⟩, _⟩ := hX)))
  exact (hx : False).elim

set_option maxRecDepth 100000 in
set_option maxHeartbeats 1000000 in
theorem each_pair_y (a b c d u n : Int) (K : Nat) (w : World) (hcf : ∀ args w, (callFunc K args).run Tryz.prog w = .ok (.enter K args) w)
    (cx : ∀ W, Calls Tryz.prog K #[.agg #[.int .i64 a, .int .i64 b]] W fun e w' => e = .returned (.int .i64 u) ∧ Below W.heap.size W w')
    (cy : ∀ W, Calls Tryz.prog K #[.agg #[.int .i64 c, .int .i64 d]] W fun e w' => e = flt n ∧ Below W.heap.size W w') :
    Calls Tryz.prog 63 #[.agg #[.int .i64 a, .int .i64 b], .agg #[.int .i64 c, .int .i64 d], .func (.func K) #[] #[]] w fun e w' => e = flt n ∧ Below w.heap.size w w' := by
  have CX := Lib.hid cx
  have CY := Lib.hid (fun W => or_never (R' := fun e w' => e = .returned (.int .i64 0) ∧ Below W.heap.size W w') (cy W))
  clear cx cy
  go_enter Tryz.func63, Tryz.ntmps63
  go_upto_region 1 with fail
  have hP : PairW w (((w.alloc (.cells #[.int .i64 a, .int .i64 b] 99)).alloc (.cells #[.int .i64 c, .int .i64 d] 99)).alloc (.cells #[.int .i64 0, .int .i64 0] 33)) a b c d :=
    ⟨⟨⟨by simp [go_sem], by simp [go_sem]⟩, ⟨by simp [go_sem], by simp [go_sem]⟩⟩, ⟨by simp [go_sem], by simp [go_sem]⟩, ⟨by simp [go_sem], by simp [go_sem]⟩, (((Below.refl w.heap.size w).alloc (Nat.le_refl _) _).alloc (by simp) _).alloc (by simp; omega) _⟩
  obtain ⟨W0, hW0⟩ : ∃ W0, (((w.alloc (.cells #[.int .i64 a, .int .i64 b] 99)).alloc (.cells #[.int .i64 c, .int .i64 d] 99)).alloc (.cells #[.int .i64 0, .int .i64 0] 33)) = W0 := ⟨_, rfl⟩
  rw [hW0] at hP ⊢
  clear hW0
  go_region_held2 (fun w' => w'.cell? ⟨w.heap.size, 0, none⟩ = some (.int .i64 a) ∧ w'.cell? ⟨w.heap.size, 1, none⟩ = some (.int .i64 b) ∧ w'.cell? ⟨w.heap.size + 1, 0, none⟩ = some (.int .i64 c) ∧ w'.cell? ⟨w.heap.size + 1, 1, none⟩ = some (.int .i64 d))
    (first | exact hP.cells | exact hP1.cells | exact hP2.cells | exact hP2.set _ _)
    ((first | ((with_reducible refine (CX.out _).mono ?_); rintro e w1 ⟨rfl, hb1⟩; have hP1 := (hP.later ((Below.refl W0.heap.size W0).drew)).later hb1) | ((with_reducible refine (CY.out _).mono ?_); rintro e w2 (⟨rfl, hb2⟩ | ⟨hx, rfl, hb2⟩); exact ⟨rfl, rfl, (hP1.later hb2).2.2.2⟩; have hP2 := hP1.later hb2; have hX := hP2; obtain ⟨_, ⟨t0, t1⟩, ⟨f0, f1⟩, _⟩ := hX)))
  exact (hx : False).elim

end Go.Proofs.YtebfhjndgfcijaaGreatDoor
