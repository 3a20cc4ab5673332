/- The contracts of package fixed's need at its numbers of arguments, and small facts for the regions that draw their order. -/
import Derived.Test.YtfpfpmacobkmhaaGreatDoorNeed
import Derived.Deep.RegionWith
import Derived.Deep.RegionHeld3
import Derived.Deep.RegionHeld2
namespace Go.Proofs.YtfpfpmacobkmhaaGreatDoor
open Go Go.RowKit

theorem vld_mul {a b : Int} (ha : Vld a) (hb : Vld b) : -170141183460469231731687303715884105728 < a * b ∧ a * b < 170141183460469231731687303715884105728 := by
  obtain ⟨a0, a1⟩ := ha
  obtain ⟨b0, b1⟩ := hb
  have h := natAbs_mul_lt (a := a) (b := b) (by omega) (by omega) (by omega) (by omega)
  have e := Int.natAbs_mul a b
  omega

theorem alloc_cell {w : World} {o : Obj} {a : Addr} {v : Value} (h : w.cell? a = some v) : (w.alloc o).cell? a = some v :=
  cell_later ((Below.refl _ w).alloc (Nat.le_refl _) o) h

/-- What does not happen; and a contract that ends in a fault, with a second way that no run takes: for a region that draws its order, which asks that one way goes on. -/
def Never : Prop := False
theorem or_never {P : Program} {f : FuncId} {args : Array Value} {w : World} {R R' : Ending → World → Prop} (h : Calls P f args w R) : Calls P f args w fun e w' => R e w' ∨ (Never ∧ R' e w') :=
  h.mono fun _ _ h => .inl h

theorem old_block {w : World} {B : Nat} {v : Value} (h : w.cell? ⟨B, 0, none⟩ = some v) : B < w.heap.size := by
  exact World.block_lt_of_cell? _ _ h

theorem need1_cells (a : Int) (B : Nat) (w : World) (h0 : w.cell? ⟨B, 0, none⟩ = some (.int .i64 a)) :
    ∀ k, k < 1 → w.cell? ⟨B, k, none⟩ = some (.int .i64 ((fun _ => a) k)) := fun k hk => by
  rcases k with _ | k
  · exact h0
  · omega

theorem need1_ok (a : Int) (B : Nat) (w : World) (hv : Vld a) (h0 : w.cell? ⟨B, 0, none⟩ = some (.int .i64 a)) :
    Calls Tryz.prog 28 #[.slice (some ⟨B, 0, none⟩) 1 1] w fun e w' => e = .returned (.tuple #[]) ∧ w = w' :=
  need_ok 1 B (fun _ => a) w (by omega) (need1_cells a B w h0) (fun k hk => by
    rcases k with _ | k
    · exact hv
    · omega)

theorem need1_bad (a : Int) (B : Nat) (w : World) (hv : ¬ (Vld a)) (h0 : w.cell? ⟨B, 0, none⟩ = some (.int .i64 a)) :
    Calls Tryz.prog 28 #[.slice (some ⟨B, 0, none⟩) 1 1] w fun e w' => e = flt 2 ∧ w = w' := by
  have hc := need1_cells a B w h0
  by_cases g0 : Vld a
  case neg =>
    exact need_bad 1 B 0 (fun _ => a) w (by omega) (by omega) hc (fun k hk => by
      rcases k with _ | k
      · omega
      · omega) g0
  exact absurd (g0) hv

theorem need2_cells (a b : Int) (B : Nat) (w : World) (h0 : w.cell? ⟨B, 0, none⟩ = some (.int .i64 a)) (h1 : w.cell? ⟨B, 1, none⟩ = some (.int .i64 b)) :
    ∀ k, k < 2 → w.cell? ⟨B, k, none⟩ = some (.int .i64 ((fun k => if k = 0 then a else b) k)) := fun k hk => by
  rcases k with _ | _ | k
  · exact h0
  · exact h1
  · omega

theorem need2_ok (a b : Int) (B : Nat) (w : World) (hv : Vld a ∧ Vld b) (h0 : w.cell? ⟨B, 0, none⟩ = some (.int .i64 a)) (h1 : w.cell? ⟨B, 1, none⟩ = some (.int .i64 b)) :
    Calls Tryz.prog 28 #[.slice (some ⟨B, 0, none⟩) 2 2] w fun e w' => e = .returned (.tuple #[]) ∧ w = w' :=
  need_ok 2 B (fun k => if k = 0 then a else b) w (by omega) (need2_cells a b B w h0 h1) (fun k hk => by
    rcases k with _ | _ | k
    · exact hv.1
    · exact hv.2
    · omega)

theorem need2_bad (a b : Int) (B : Nat) (w : World) (hv : ¬ (Vld a ∧ Vld b)) (h0 : w.cell? ⟨B, 0, none⟩ = some (.int .i64 a)) (h1 : w.cell? ⟨B, 1, none⟩ = some (.int .i64 b)) :
    Calls Tryz.prog 28 #[.slice (some ⟨B, 0, none⟩) 2 2] w fun e w' => e = flt 2 ∧ w = w' := by
  have hc := need2_cells a b B w h0 h1
  by_cases g0 : Vld a
  case neg =>
    exact need_bad 2 B 0 (fun k => if k = 0 then a else b) w (by omega) (by omega) hc (fun k hk => by
      rcases k with _ | k
      · omega
      · omega) g0
  by_cases g1 : Vld b
  case neg =>
    exact need_bad 2 B 1 (fun k => if k = 0 then a else b) w (by omega) (by omega) hc (fun k hk => by
      rcases k with _ | k
      · exact g0
      · omega) g1
  exact absurd (⟨g0, g1⟩) hv

theorem need3_cells (a b c : Int) (B : Nat) (w : World) (h0 : w.cell? ⟨B, 0, none⟩ = some (.int .i64 a)) (h1 : w.cell? ⟨B, 1, none⟩ = some (.int .i64 b)) (h2 : w.cell? ⟨B, 2, none⟩ = some (.int .i64 c)) :
    ∀ k, k < 3 → w.cell? ⟨B, k, none⟩ = some (.int .i64 ((fun k => if k = 0 then a else if k = 1 then b else c) k)) := fun k hk => by
  rcases k with _ | _ | _ | k
  · exact h0
  · exact h1
  · exact h2
  · omega

theorem need3_ok (a b c : Int) (B : Nat) (w : World) (hv : Vld a ∧ Vld b ∧ Vld c) (h0 : w.cell? ⟨B, 0, none⟩ = some (.int .i64 a)) (h1 : w.cell? ⟨B, 1, none⟩ = some (.int .i64 b)) (h2 : w.cell? ⟨B, 2, none⟩ = some (.int .i64 c)) :
    Calls Tryz.prog 28 #[.slice (some ⟨B, 0, none⟩) 3 3] w fun e w' => e = .returned (.tuple #[]) ∧ w = w' :=
  need_ok 3 B (fun k => if k = 0 then a else if k = 1 then b else c) w (by omega) (need3_cells a b c B w h0 h1 h2) (fun k hk => by
    rcases k with _ | _ | _ | k
    · exact hv.1
    · exact hv.2.1
    · exact hv.2.2
    · omega)

theorem need3_bad (a b c : Int) (B : Nat) (w : World) (hv : ¬ (Vld a ∧ Vld b ∧ Vld c)) (h0 : w.cell? ⟨B, 0, none⟩ = some (.int .i64 a)) (h1 : w.cell? ⟨B, 1, none⟩ = some (.int .i64 b)) (h2 : w.cell? ⟨B, 2, none⟩ = some (.int .i64 c)) :
    Calls Tryz.prog 28 #[.slice (some ⟨B, 0, none⟩) 3 3] w fun e w' => e = flt 2 ∧ w = w' := by
  have hc := need3_cells a b c B w h0 h1 h2
  by_cases g0 : Vld a
  case neg =>
    exact need_bad 3 B 0 (fun k => if k = 0 then a else if k = 1 then b else c) w (by omega) (by omega) hc (fun k hk => by
      rcases k with _ | k
      · omega
      · omega) g0
  by_cases g1 : Vld b
  case neg =>
    exact need_bad 3 B 1 (fun k => if k = 0 then a else if k = 1 then b else c) w (by omega) (by omega) hc (fun k hk => by
      rcases k with _ | k
      · exact g0
      · omega) g1
  by_cases g2 : Vld c
  case neg =>
    exact need_bad 3 B 2 (fun k => if k = 0 then a else if k = 1 then b else c) w (by omega) (by omega) hc (fun k hk => by
      rcases k with _ | _ | k
      · exact g0
      · exact g1
      · omega) g2
  exact absurd (⟨g0, g1, g2⟩) hv

theorem need4_cells (a b c d : Int) (B : Nat) (w : World) (h0 : w.cell? ⟨B, 0, none⟩ = some (.int .i64 a)) (h1 : w.cell? ⟨B, 1, none⟩ = some (.int .i64 b)) (h2 : w.cell? ⟨B, 2, none⟩ = some (.int .i64 c)) (h3 : w.cell? ⟨B, 3, none⟩ = some (.int .i64 d)) :
    ∀ k, k < 4 → w.cell? ⟨B, k, none⟩ = some (.int .i64 ((fun k => if k = 0 then a else if k = 1 then b else if k = 2 then c else d) k)) := fun k hk => by
  rcases k with _ | _ | _ | _ | k
  · exact h0
  · exact h1
  · exact h2
  · exact h3
  · omega

theorem need4_ok (a b c d : Int) (B : Nat) (w : World) (hv : Vld a ∧ Vld b ∧ Vld c ∧ Vld d) (h0 : w.cell? ⟨B, 0, none⟩ = some (.int .i64 a)) (h1 : w.cell? ⟨B, 1, none⟩ = some (.int .i64 b)) (h2 : w.cell? ⟨B, 2, none⟩ = some (.int .i64 c)) (h3 : w.cell? ⟨B, 3, none⟩ = some (.int .i64 d)) :
    Calls Tryz.prog 28 #[.slice (some ⟨B, 0, none⟩) 4 4] w fun e w' => e = .returned (.tuple #[]) ∧ w = w' :=
  need_ok 4 B (fun k => if k = 0 then a else if k = 1 then b else if k = 2 then c else d) w (by omega) (need4_cells a b c d B w h0 h1 h2 h3) (fun k hk => by
    rcases k with _ | _ | _ | _ | k
    · exact hv.1
    · exact hv.2.1
    · exact hv.2.2.1
    · exact hv.2.2.2
    · omega)

theorem need4_bad (a b c d : Int) (B : Nat) (w : World) (hv : ¬ (Vld a ∧ Vld b ∧ Vld c ∧ Vld d)) (h0 : w.cell? ⟨B, 0, none⟩ = some (.int .i64 a)) (h1 : w.cell? ⟨B, 1, none⟩ = some (.int .i64 b)) (h2 : w.cell? ⟨B, 2, none⟩ = some (.int .i64 c)) (h3 : w.cell? ⟨B, 3, none⟩ = some (.int .i64 d)) :
    Calls Tryz.prog 28 #[.slice (some ⟨B, 0, none⟩) 4 4] w fun e w' => e = flt 2 ∧ w = w' := by
  have hc := need4_cells a b c d B w h0 h1 h2 h3
  by_cases g0 : Vld a
  case neg =>
    exact need_bad 4 B 0 (fun k => if k = 0 then a else if k = 1 then b else if k = 2 then c else d) w (by omega) (by omega) hc (fun k hk => by
      rcases k with _ | k
      · omega
      · omega) g0
  by_cases g1 : Vld b
  case neg =>
    exact need_bad 4 B 1 (fun k => if k = 0 then a else if k = 1 then b else if k = 2 then c else d) w (by omega) (by omega) hc (fun k hk => by
      rcases k with _ | k
      · exact g0
      · omega) g1
  by_cases g2 : Vld c
  case neg =>
    exact need_bad 4 B 2 (fun k => if k = 0 then a else if k = 1 then b else if k = 2 then c else d) w (by omega) (by omega) hc (fun k hk => by
      rcases k with _ | _ | k
      · exact g0
      · exact g1
      · omega) g2
  by_cases g3 : Vld d
  case neg =>
    exact need_bad 4 B 3 (fun k => if k = 0 then a else if k = 1 then b else if k = 2 then c else d) w (by omega) (by omega) hc (fun k hk => by
      rcases k with _ | _ | _ | k
      · exact g0
      · exact g1
      · exact g2
      · omega) g3
  exact absurd (⟨g0, g1, g2, g3⟩) hv

end Go.Proofs.YtfpfpmacobkmhaaGreatDoor
