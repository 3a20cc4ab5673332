/- The contracts of the integers of 128 bits of package fixed: negative, plus, times, compare. A number v stands as the pair hiOf v, loOf v. Conditions: sizes below 2 to the power of 127. -/
import Derived.Test.YtebfhjndgfcijaaGreatDoorDiv
import Derived.Laws.Externs
import Derived.Shelf.Spec.BitsCarry
namespace Go.Proofs.YtebfhjndgfcijaaGreatDoor
open Go Go.RowKit

/-- The high and the low part of a number of 128 bits. -/
def hiOf (v : Int) : Int := v / 18446744073709551616
def loOf (v : Int) : Int := v % 18446744073709551616

/-- What a call that only makes new memory leaves as it was. -/
theorem bcell {W w1 : World} (hb : Below W.heap.size W w1) : (∀ b o, b < W.heap.size → w1.cell? ⟨b, o, none⟩ = W.cell? ⟨b, o, none⟩) ∧ (∀ b o, b < W.heap.size → w1.frozen? ⟨b, o, none⟩ = W.frozen? ⟨b, o, none⟩) :=
  ⟨fun b o h => hb.cell (p := ⟨b, o, none⟩) h, fun b o h => hb.frozen (p := ⟨b, o, none⟩) h⟩

/-- A cell that was there, written. -/
theorem set_same {w : World} {a : Addr} {x : Value} (v : Value) (h : w.cell? a = some x) : (w.setCell a v).cell? a = some v :=
  World.cell?_setCell_same' _ _ _ (by rw [h]; rfl)

/-- The two cells of a struct, written one after the other. -/
theorem set_pair {w : World} {b : Nat} {x y : Value} (v u : Value) (h0 : w.cell? ⟨b, 0, none⟩ = some x) (h1 : w.cell? ⟨b, 1, none⟩ = some y) :
    (w.setCell ⟨b, 0, none⟩ v).cell? ⟨b, 0, none⟩ = some v ∧ ((w.setCell ⟨b, 0, none⟩ v).setCell ⟨b, 1, none⟩ u).cell? ⟨b, 1, none⟩ = some u :=
  ⟨set_same v h0, set_same u ((World.cell?_setCell_other _ _ _ _ (by simp)).trans h1)⟩

theorem run_add64 (x y c : Nat) (hc : c ≤ 1) (w : World) :
    (callFunc 108 #[.int .u64 x, .int .u64 y, .int .u64 c]).run Tryz.prog w =
      .ok (.value (.tuple #[.int .u64 (((x + y + c) % 18446744073709551616 : Nat) : Int), .int .u64 (((x + y + c) / 18446744073709551616 : Nat) : Int)])) w := by
  rw [run_callFunc_extern Tryz.func108 (by kernel_rfl) (by kernel_rfl) (by kernel_rfl) (e := add64Entry) (by kernel_rfl), _root_.Go.run_add64 x y c (by omega) (by omega) (by omega) (by omega)]
  simp only [Result.andThen]
  congr 5 <;> omega

theorem run_sub64 (x y b : Nat) (hb : b ≤ 1) (w : World) :
    (callFunc 116 #[.int .u64 x, .int .u64 y, .int .u64 b]).run Tryz.prog w =
      .ok (.value (.tuple #[.int .u64 (((x + 18446744073709551616 - y - b) % 18446744073709551616 : Nat) : Int), .int .u64 ((if x < y + b then 1 else 0 : Nat) : Int)])) w := by
  rw [run_callFunc_extern Tryz.func116 (by kernel_rfl) (by kernel_rfl) (by kernel_rfl) (e := sub64Entry) (by kernel_rfl), Go.Proofs.run_sub64 x y b hb]
  rfl

set_option maxHeartbeats 400000 in
theorem negative_walk (v l1 b1 h2 b2 : Int) (w : World)
    (hs1 : ∀ w, (callFunc 116 #[.int .u64 0, .int .u64 (loOf v), .int .u64 0]).run Tryz.prog w = .ok (.value (.tuple #[.int .u64 l1, .int .u64 b1])) w)
    (hs2 : ∀ w, (callFunc 116 #[.int .u64 0, .int .u64 (IntKind.u64.wrap (hiOf v)), .int .u64 b1]).run Tryz.prog w = .ok (.value (.tuple #[.int .u64 h2, .int .u64 b2])) w)
    (hv : IntKind.i64.wrap h2 = hiOf (-v)) (hl : l1 = loOf (-v)) :
    Calls Tryz.prog 44 #[.agg #[.int .i64 (hiOf v), .int .u64 (loOf v)]] w fun e w' => e = .returned (.agg #[.int .i64 (hiOf (-v)), .int .u64 (loOf (-v))]) ∧ Below w.heap.size w w' := by
  subst hl
  go_enter Tryz.func44, Tryz.ntmps44
  go_wp2
  exact bodyPost_ret (v := .agg #[.int .i64 (hiOf (-v)), .int .u64 (loOf (-v))]) (by simp [results, Tryz.results44, go_sem]) rfl ⟨rfl, ((Below.refl _ _).alloc (Nat.le_refl _) _).alloc (by simp) _⟩

/-- Comparison. -/
def cmp3 (a b : Int) : Int := if a = b then 0 else if b < a then 1 else -1

set_option maxHeartbeats 400000 in
theorem compare_eq (h l : Int) (w : World) :
    Calls Tryz.prog 90 #[.agg #[.int .i64 h, .int .u64 l], .agg #[.int .i64 h, .int .u64 l]] w fun e w' => e = .returned (.int .i64 0) ∧ Below w.heap.size w w' := by
  go_enter Tryz.func90, Tryz.ntmps90
  go_wp2
  go_ret
  exact ⟨rfl, ((Below.refl _ _).alloc (Nat.le_refl _) _).alloc (by simp) _⟩

set_option maxHeartbeats 400000 in
theorem compare_hi (h l h' l' : Int) (w : World) (ht : h' < h) :
    Calls Tryz.prog 90 #[.agg #[.int .i64 h, .int .u64 l], .agg #[.int .i64 h', .int .u64 l']] w fun e w' => e = .returned (.int .i64 1) ∧ Below w.heap.size w w' := by
  go_enter Tryz.func90, Tryz.ntmps90
  go_wp2
  go_ret
  exact ⟨rfl, ((Below.refl _ _).alloc (Nat.le_refl _) _).alloc (by simp) _⟩

set_option maxHeartbeats 400000 in
theorem compare_lo (h l l' : Int) (w : World) (ht : l' < l) :
    Calls Tryz.prog 90 #[.agg #[.int .i64 h, .int .u64 l], .agg #[.int .i64 h, .int .u64 l']] w fun e w' => e = .returned (.int .i64 1) ∧ Below w.heap.size w w' := by
  go_enter Tryz.func90, Tryz.ntmps90
  go_wp2
  go_ret
  exact ⟨rfl, ((Below.refl _ _).alloc (Nat.le_refl _) _).alloc (by simp) _⟩

set_option maxHeartbeats 400000 in
theorem compare_hi' (h l h' l' : Int) (w : World) (ht : h < h') :
    Calls Tryz.prog 90 #[.agg #[.int .i64 h, .int .u64 l], .agg #[.int .i64 h', .int .u64 l']] w fun e w' => e = .returned (.int .i64 (-1)) ∧ Below w.heap.size w w' := by
  go_enter Tryz.func90, Tryz.ntmps90
  go_wp2
  go_ret
  exact ⟨rfl, ((Below.refl _ _).alloc (Nat.le_refl _) _).alloc (by simp) _⟩

set_option maxHeartbeats 400000 in
theorem compare_lo' (h l l' : Int) (w : World) (ht : l < l') :
    Calls Tryz.prog 90 #[.agg #[.int .i64 h, .int .u64 l], .agg #[.int .i64 h, .int .u64 l']] w fun e w' => e = .returned (.int .i64 (-1)) ∧ Below w.heap.size w w' := by
  go_enter Tryz.func90, Tryz.ntmps90
  go_wp2
  go_ret
  exact ⟨rfl, ((Below.refl _ _).alloc (Nat.le_refl _) _).alloc (by simp) _⟩

theorem compare_any (v u : Int) (w : World) :
    Calls Tryz.prog 90 #[.agg #[.int .i64 (hiOf v), .int .u64 (loOf v)], .agg #[.int .i64 (hiOf u), .int .u64 (loOf u)]] w fun e w' => e = .returned (.int .i64 (cmp3 v u)) ∧ Below w.heap.size w w' := by
  by_cases h1 : hiOf u < hiOf v
  · rw [show cmp3 v u = 1 by unfold cmp3; unfold hiOf at h1; rw [if_neg (by omega), if_pos (by omega)]]
    exact compare_hi _ _ _ _ w h1
  · by_cases h2 : hiOf v < hiOf u
    · rw [show cmp3 v u = -1 by unfold cmp3; unfold hiOf at h2; rw [if_neg (by omega), if_neg (by omega)]]
      exact compare_hi' _ _ _ _ w h2
    · rw [show hiOf u = hiOf v by omega]
      have he : hiOf u = hiOf v := by omega
      by_cases h3 : loOf u < loOf v
      · rw [show cmp3 v u = 1 by unfold cmp3; unfold hiOf at he; unfold loOf at h3; rw [if_neg (by omega), if_pos (by omega)]]
        exact compare_lo _ _ _ w h3
      · by_cases h4 : loOf v < loOf u
        · rw [show cmp3 v u = -1 by unfold cmp3; unfold hiOf at he; unfold loOf at h4; rw [if_neg (by omega), if_neg (by omega)]]
          exact compare_lo' _ _ _ w h4
        · rw [show loOf u = loOf v by omega, show cmp3 v u = 0 by unfold cmp3; unfold hiOf at he; unfold loOf at h3 h4; rw [if_pos (by omega)]]
          exact compare_eq _ _ w

set_option maxHeartbeats 400000 in
theorem plus_walk (v u l1 c1 h2 c2 : Int) (w : World)
    (hs1 : ∀ w, (callFunc 108 #[.int .u64 (loOf v), .int .u64 (loOf u), .int .u64 0]).run Tryz.prog w = .ok (.value (.tuple #[.int .u64 l1, .int .u64 c1])) w)
    (hs2 : ∀ w, (callFunc 108 #[.int .u64 (IntKind.u64.wrap (hiOf v)), .int .u64 (IntKind.u64.wrap (hiOf u)), .int .u64 c1]).run Tryz.prog w = .ok (.value (.tuple #[.int .u64 h2, .int .u64 c2])) w)
    (hv : IntKind.i64.wrap h2 = hiOf (v + u)) (hl : l1 = loOf (v + u)) :
    Calls Tryz.prog 40 #[.agg #[.int .i64 (hiOf v), .int .u64 (loOf v)], .agg #[.int .i64 (hiOf u), .int .u64 (loOf u)]] w fun e w' => e = .returned (.agg #[.int .i64 (hiOf (v + u)), .int .u64 (loOf (v + u))]) ∧ Below w.heap.size w w' := by
  subst hl
  go_enter Tryz.func40, Tryz.ntmps40
  go_wp2
  exact bodyPost_ret (v := .agg #[.int .i64 (hiOf (v + u)), .int .u64 (loOf (v + u))]) (by simp [results, Tryz.results40, go_sem]) rfl ⟨rfl, (((Below.refl _ _).alloc (Nat.le_refl _) _).alloc (by simp) _).alloc (by simp; omega) _⟩

set_option maxHeartbeats 400000 in
theorem times_walk (v : Int) (l n : Nat) (w : World) (hl : l < 18446744073709551616) (hn : n < 18446744073709551616) (hl1 : (l : Int) = loOf v)
    (hh : wrap64 (wrap64 (hiOf v * wrap64 n) + wrap64 ((l * n / 18446744073709551616 : Nat) : Int)) = hiOf (v * n)) (hl2 : ((l * n % 18446744073709551616 : Nat) : Int) = loOf (v * n)) :
    Calls Tryz.prog 42 #[.agg #[.int .i64 (hiOf v), .int .u64 (loOf v)], .int .u64 n] w fun e w' => e = .returned (.agg #[.int .i64 (hiOf (v * n)), .int .u64 (loOf (v * n))]) ∧ Below w.heap.size w w' := by
  rw [← hl1]
  have c := fun w => Tryz.bits_Mul64 l n hl hn w
  obtain ⟨m1, e1⟩ : ∃ m : Int, ((l * n / 18446744073709551616 : Nat) : Int) = m := ⟨_, rfl⟩
  simp only [e1, hl2] at c hh
  have C := Lib.hid c
  clear c e1 hl2 hl1 hl hn
  go_enter Tryz.func42, Tryz.ntmps42
  go_wp2_with (go_at_call 107; refine (C.out _).mono ?_; rintro e w' ⟨rfl, rfl⟩)
  exact bodyPost_ret (v := .agg #[.int .i64 (hiOf (v * n)), .int .u64 (loOf (v * n))]) (by simp [results, Tryz.results42, go_sem]) rfl ⟨rfl, ((Below.refl _ _).alloc (Nat.le_refl _) _).alloc (by simp) _⟩

theorem negative_any (v : Int) (w : World) (h0 : -170141183460469231731687303715884105728 < v) (h1 : v < 170141183460469231731687303715884105728) :
    Calls Tryz.prog 44 #[.agg #[.int .i64 (hiOf v), .int .u64 (loOf v)]] w fun e w' => e = .returned (.agg #[.int .i64 (hiOf (-v)), .int .u64 (loOf (-v))]) ∧ Below w.heap.size w w' := by
  obtain ⟨l, hl⟩ : ∃ l : Nat, (l : Int) = loOf v := ⟨(loOf v).toNat, by unfold loOf; omega⟩
  obtain ⟨h, hh⟩ : ∃ h : Nat, (h : Int) = IntKind.u64.wrap (hiOf v) := ⟨(IntKind.u64.wrap (hiOf v)).toNat, by rw [IntKind.wrap_u64]; omega⟩
  obtain ⟨b, hb, hb1⟩ : ∃ b : Nat, (if 0 < l + 0 then 1 else 0 : Nat) = b ∧ b ≤ 1 := ⟨_, rfl, by split <;> omega⟩
  have a1 := fun w => run_sub64 0 l 0 (by omega) w
  have a2 := fun w => run_sub64 0 h b hb1 w
  rw [hl, hb] at a1
  rw [hh] at a2
  refine negative_walk v _ b _ _ w a1 a2 ?_ ?_
  · rw [IntKind.wrap_i64]
    rw [IntKind.wrap_u64] at hh
    unfold hiOf at *
    unfold loOf at *
    by_cases hz : 0 < l + 0
    · rw [if_pos hz] at hb; omega
    · rw [if_neg hz] at hb; omega
  · unfold loOf at *
    omega

theorem plus_any (v u : Int) (w : World) (h0 : -170141183460469231731687303715884105728 ≤ v + u) (h1 : v + u < 170141183460469231731687303715884105728) :
    Calls Tryz.prog 40 #[.agg #[.int .i64 (hiOf v), .int .u64 (loOf v)], .agg #[.int .i64 (hiOf u), .int .u64 (loOf u)]] w fun e w' => e = .returned (.agg #[.int .i64 (hiOf (v + u)), .int .u64 (loOf (v + u))]) ∧ Below w.heap.size w w' := by
  obtain ⟨l, hl⟩ : ∃ l : Nat, (l : Int) = loOf v := ⟨(loOf v).toNat, by unfold loOf; omega⟩
  obtain ⟨k, hk⟩ : ∃ k : Nat, (k : Int) = loOf u := ⟨(loOf u).toNat, by unfold loOf; omega⟩
  obtain ⟨h, hh⟩ : ∃ h : Nat, (h : Int) = IntKind.u64.wrap (hiOf v) := ⟨(IntKind.u64.wrap (hiOf v)).toNat, by rw [IntKind.wrap_u64]; omega⟩
  obtain ⟨g, hg⟩ : ∃ g : Nat, (g : Int) = IntKind.u64.wrap (hiOf u) := ⟨(IntKind.u64.wrap (hiOf u)).toNat, by rw [IntKind.wrap_u64]; omega⟩
  have hl2 : (l : Int) < 18446744073709551616 := by rw [hl]; unfold loOf; omega
  have hk2 : (k : Int) < 18446744073709551616 := by rw [hk]; unfold loOf; omega
  obtain ⟨b, hb, hb1⟩ : ∃ b : Nat, (l + k + 0) / 18446744073709551616 = b ∧ b ≤ 1 := ⟨_, rfl, by omega⟩
  have a1 := fun w => run_add64 l k 0 (by omega) w
  have a2 := fun w => run_add64 h g b hb1 w
  rw [hl, hk, hb] at a1
  rw [hh, hg] at a2
  refine plus_walk v u _ b _ _ w a1 a2 ?_ ?_
  · rw [IntKind.wrap_i64]
    rw [IntKind.wrap_u64] at hh hg
    unfold hiOf at *
    unfold loOf at *
    omega
  · unfold loOf at *
    omega

theorem times_any (v : Int) (n : Nat) (w : World) (h0 : 0 ≤ v) (hn : n < 18446744073709551616) (h1 : v * n < 170141183460469231731687303715884105728) :
    Calls Tryz.prog 42 #[.agg #[.int .i64 (hiOf v), .int .u64 (loOf v)], .int .u64 n] w fun e w' => e = .returned (.agg #[.int .i64 (hiOf (v * n)), .int .u64 (loOf (v * n))]) ∧ Below w.heap.size w w' := by
  obtain ⟨l, hl⟩ : ∃ l : Nat, (l : Int) = loOf v := ⟨(loOf v).toNat, by unfold loOf; omega⟩
  have hl2 : l < 18446744073709551616 := by unfold loOf at hl; omega
  have e : v * n = hiOf v * n * 18446744073709551616 + ((l * n : Nat) : Int) := by
    have hv : v = hiOf v * 18446744073709551616 + l := by rw [hl]; unfold hiOf loOf; omega
    rw [Int.natCast_mul]
    generalize hiOf v = a at *
    subst hv
    grind
  have hp : 0 ≤ v * n := Int.mul_nonneg h0 (by omega)
  refine times_walk v l n w hl2 hn hl ?_ ?_
  · have e1 : wrap64 (hiOf v * wrap64 n) = wrap64 (hiOf v * n) := by
      unfold wrap64
      have : ∃ k : Int, ((n : Int) + 9223372036854775808) % 18446744073709551616 - 9223372036854775808 = n + k * 18446744073709551616 := ⟨-(((n : Int) + 9223372036854775808) / 18446744073709551616), by omega⟩
      obtain ⟨k, hk⟩ := this
      rw [hk, show hiOf v * (n + k * 18446744073709551616) = hiOf v * n + hiOf v * k * 18446744073709551616 by grind]
      generalize hiOf v * k = x
      omega
    rw [e1]
    unfold wrap64 hiOf
    unfold hiOf at e
    rw [e] at h1 hp ⊢
    generalize v / 18446744073709551616 * (n : Int) = a at *
    omega
  · rw [e]
    unfold loOf
    omega

end Go.Proofs.YtebfhjndgfcijaaGreatDoor
