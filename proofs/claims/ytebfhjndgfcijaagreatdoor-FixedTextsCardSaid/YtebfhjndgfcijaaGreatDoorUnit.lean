/- The contract of package fixed's dot: the exact product of two spots. Condition: coordinates of 62 bits. -/
import Derived.Test.YtebfhjndgfcijaaGreatDoorNeeds
namespace Go.Proofs.YtebfhjndgfcijaaGreatDoor
open Go Go.RowKit

/-- What dot's world keeps: the two boxes, the result's cells that are not written yet. -/
def DotW (ax ay bx by' : Int) (w W : World) : Prop :=
  (W.cell? ⟨w.heap.size, 0, none⟩ = some (.int .i64 ax) ∧ W.cell? ⟨w.heap.size, 1, none⟩ = some (.int .i64 ay) ∧ W.cell? ⟨w.heap.size + 1, 0, none⟩ = some (.int .i64 bx) ∧ W.cell? ⟨w.heap.size + 1, 1, none⟩ = some (.int .i64 by')) ∧
  (W.cell? ⟨w.heap.size + 1 + 1, 0, none⟩ = some (.int .i64 0) ∧ W.cell? ⟨w.heap.size + 1 + 1, 1, none⟩ = some (.int .u64 0) ∧ W.frozen? ⟨w.heap.size + 1 + 1, 0, none⟩ = false ∧ W.frozen? ⟨w.heap.size + 1 + 1, 1, none⟩ = false) ∧ Below w.heap.size w W

theorem DotW.later {ax ay bx by' : Int} {w W W' : World} (h : DotW ax ay bx by' w W) (hb : Below W.heap.size W W') : DotW ax ay bx by' w W' := by
  obtain ⟨⟨h1, h2, h3, h4⟩, ⟨h5, h6, h7, h8⟩, h9⟩ := h
  exact ⟨⟨cell_later hb h1, cell_later hb h2, cell_later hb h3, cell_later hb h4⟩,
    ⟨cell_later hb h5, cell_later hb h6, (hb.frozen (World.block_lt_of_cell? _ _ h5)).trans h7, (hb.frozen (World.block_lt_of_cell? _ _ h6)).trans h8⟩, h9.trans (hb.mono h9.size)⟩

theorem DotW.kept {ax ay bx by' : Int} {w W : World} (h : DotW ax ay bx by' w W) (v u : Value) :
    ((W.setCell ⟨w.heap.size + 1 + 1, 0, none⟩ v).setCell ⟨w.heap.size + 1 + 1, 1, none⟩ u).cell? ⟨w.heap.size, 0, none⟩ = some (.int .i64 ax) ∧ ((W.setCell ⟨w.heap.size + 1 + 1, 0, none⟩ v).setCell ⟨w.heap.size + 1 + 1, 1, none⟩ u).cell? ⟨w.heap.size, 1, none⟩ = some (.int .i64 ay) ∧
    ((W.setCell ⟨w.heap.size + 1 + 1, 0, none⟩ v).setCell ⟨w.heap.size + 1 + 1, 1, none⟩ u).cell? ⟨w.heap.size + 1, 0, none⟩ = some (.int .i64 bx) ∧ ((W.setCell ⟨w.heap.size + 1 + 1, 0, none⟩ v).setCell ⟨w.heap.size + 1 + 1, 1, none⟩ u).cell? ⟨w.heap.size + 1, 1, none⟩ = some (.int .i64 by') := by
  have far : ∀ b o x, b ≠ w.heap.size + 1 + 1 → W.cell? ⟨b, o, none⟩ = some x → ((W.setCell ⟨w.heap.size + 1 + 1, 0, none⟩ v).setCell ⟨w.heap.size + 1 + 1, 1, none⟩ u).cell? ⟨b, o, none⟩ = some x := fun b o x hb hx =>
    (World.cell?_setCell_other _ _ _ _ (fun h => hb (congrArg Addr.block h).symm)).trans ((World.cell?_setCell_other _ _ _ _ (fun h => hb (congrArg Addr.block h).symm)).trans hx)
  obtain ⟨⟨h1, h2, h3, h4⟩, _⟩ := h
  exact ⟨far _ _ _ (by omega) h1, far _ _ _ (by omega) h2, far _ _ _ (by omega) h3, far _ _ _ (by omega) h4⟩

theorem DotW.start (ax ay bx by' : Int) (w : World) :
    DotW ax ay bx by' w (((w.alloc (.cells #[.int .i64 ax, .int .i64 ay] 33)).alloc (.cells #[.int .i64 bx, .int .i64 by'] 33)).alloc (.cells #[.int .i64 0, .int .u64 0] 68)).drew :=
  ⟨⟨by simp [go_sem], by simp [go_sem], by simp [go_sem], by simp [go_sem]⟩, ⟨by simp [go_sem], by simp [go_sem], by simp [go_sem], by simp [go_sem]⟩,
    ((((Below.refl w.heap.size w).alloc (Nat.le_refl _) _).alloc (by simp) _).alloc (by simp; omega) _).drew⟩

set_option maxHeartbeats 1000000 in
theorem dot_any (ax ay bx by' : Int) (w : World) (a0 : -4611686018427387904 ≤ ax ∧ ax ≤ 4611686018427387904) (a1 : -4611686018427387904 ≤ ay ∧ ay ≤ 4611686018427387904)
    (b0 : -4611686018427387904 ≤ bx ∧ bx ≤ 4611686018427387904) (b1 : -4611686018427387904 ≤ by' ∧ by' ≤ 4611686018427387904)
    (s0 : -170141183460469231731687303715884105728 ≤ ax * bx + ay * by') (s1 : ax * bx + ay * by' < 170141183460469231731687303715884105728) :
    Calls Tryz.prog 76 #[.agg #[.int .i64 ax, .int .i64 ay], .agg #[.int .i64 bx, .int .i64 by']] w fun e w' => e = .returned (.agg #[.int .i64 (hiOf (ax * bx + ay * by')), .int .u64 (loOf (ax * bx + ay * by'))]) ∧ Below w.heap.size w w' := by
  have hT := DotW.start ax ay bx by' w
  go_enter Tryz.func76, Tryz.ntmps76
  go_wp2_with fail
  go_region_held3 (fun w' => w'.cell? ⟨w.heap.size, 0, none⟩ = some (.int .i64 ax) ∧ w'.cell? ⟨w.heap.size, 1, none⟩ = some (.int .i64 ay) ∧ w'.cell? ⟨w.heap.size + 1, 0, none⟩ = some (.int .i64 bx) ∧ w'.cell? ⟨w.heap.size + 1, 1, none⟩ = some (.int .i64 by'))
    (first | exact hT.1 | exact hT.kept _ _)
    ((first | (go_at_call 39; refine (product_any _ _ _ (by omega) (by omega) (by omega) (by omega)).mono ?_; rintro e w1 ⟨rfl, hb1⟩; replace hT := hT.later hb1) | (go_at_call 40; refine (plus_any _ _ _ s0 s1).mono ?_; rintro e w2 ⟨rfl, hb2⟩; replace hT := hT.later hb2; obtain ⟨t0, t1, f0, f1⟩ := hT.2.1)))
  go_wp2
  obtain ⟨k1, k2⟩ := set_pair (.int .i64 (hiOf (ax * bx + ay * by'))) (.int .u64 (loOf (ax * bx + ay * by'))) t0 t1
  exact bodyPost_ret (v := .agg #[.int .i64 (hiOf (ax * bx + ay * by')), .int .u64 (loOf (ax * bx + ay * by'))]) (by simp [results, Tryz.results76, go_sem, k1, k2]) rfl
    ⟨rfl, (hT.2.2.setCell (by simp; omega) _).setCell (by simp; omega) _⟩

end Go.Proofs.YtebfhjndgfcijaaGreatDoor

namespace Go.Proofs.YtebfhjndgfcijaaGreatDoor
open Go Go.RowKit

/-- The search bit by bit: u is what has been found, k how many bits are still to be tried. -/
def shAux (sq most : Nat) : Nat → Nat → Nat
  | 0, u => u
  | k + 1, u => if sq * ((u + 2 ^ k) * (u + 2 ^ k)) ≤ most then shAux sq most k (u + 2 ^ k) else shAux sq most k u

def shr (m sq : Nat) : Nat := shAux sq (m * m * 4294967296) 17 0

theorem shAux_spec (sq most : Nat) : ∀ (k u : Nat), sq * (u * u) ≤ most → most < sq * ((u + 2 ^ k) * (u + 2 ^ k)) →
    sq * (shAux sq most k u * shAux sq most k u) ≤ most ∧ most < sq * ((shAux sq most k u + 1) * (shAux sq most k u + 1)) ∧ u ≤ shAux sq most k u ∧ shAux sq most k u < u + 2 ^ k
  | 0, u, h1, h2 => by simpa [shAux] using ⟨h1, h2⟩
  | k + 1, u, h1, h2 => by
    rw [shAux]
    have hp : 2 ^ (k + 1) = 2 ^ k + 2 ^ k := by rw [Nat.pow_succ]; omega
    split
    · rename_i h
      obtain ⟨a, b, c, d⟩ := shAux_spec sq most k (u + 2 ^ k) h (by rw [Nat.add_assoc, ← hp]; exact h2)
      exact ⟨a, b, by omega, by omega⟩
    · rename_i h
      obtain ⟨a, b, c, d⟩ := shAux_spec sq most k u h1 (by omega)
      exact ⟨a, b, c, by have := Nat.two_pow_pos k; omega⟩

theorem cmp3_le {a b : Int} (h : a ≤ b) : cmp3 a b ≤ 0 := by
  unfold cmp3
  by_cases h1 : a = b
  · rw [if_pos h1]; omega
  · rw [if_neg h1, if_neg (by omega)]; omega

theorem cmp3_pos {a b : Int} (h : b < a) : cmp3 a b = 1 := by
  unfold cmp3
  rw [if_neg (by omega), if_pos h]

def ShW (B5 : Nat) (sq most : Int) (w W : World) : Prop :=
  (W.cell? ⟨w.heap.size, 0, none⟩ = some (.int .i64 (hiOf sq)) ∧ W.cell? ⟨w.heap.size, 1, none⟩ = some (.int .u64 (loOf sq)) ∧ W.cell? ⟨B5, 0, none⟩ = some (.int .i64 (hiOf most)) ∧ W.cell? ⟨B5, 1, none⟩ = some (.int .u64 (loOf most))) ∧ Below w.heap.size w W

theorem ShW.later {B5 : Nat} {sq most : Int} {w W W' : World} (h : ShW B5 sq most w W) (hb : Below W.heap.size W W') : ShW B5 sq most w W' := by
  obtain ⟨⟨h1, h2, h3, h4⟩, h9⟩ := h
  exact ⟨⟨cell_later hb h1, cell_later hb h2, cell_later hb h3, cell_later hb h4⟩, h9.trans (hb.mono h9.size)⟩

set_option maxHeartbeats 1000000 in
set_option maxRecDepth 100000 in
theorem share_any (n : Int) (sq : Nat) (w : World) (hn : Vld n) (hsq : sq ≤ 9903520314283042199192993792) (hle : n.natAbs * n.natAbs ≤ sq) (hpos : 0 < sq) :
    Calls Tryz.prog 86 #[.int .i64 n, .agg #[.int .i64 (hiOf sq), .int .u64 (loOf sq)]] w fun e w' => e = .returned (.int .i64 (if n < 0 then -(shr n.natAbs sq : Int) else (shr n.natAbs sq : Int))) ∧ Below w.heap.size w w' := by
  have hmm := natAbs_mul_lt (a := n) (b := n) (by unfold Vld at hn; omega) (by unfold Vld at hn; omega) (by unfold Vld at hn; omega) (by unfold Vld at hn; omega)
  have hnn : (n * n : Int) = ((n.natAbs * n.natAbs : Nat) : Int) := by rw [Int.natCast_mul]; exact (Int.natAbs_mul_self' n).symm
  have CP := Lib.hid (fun W => product_any n n W (by unfold Vld at hn; omega) (by unfold Vld at hn; omega) (by unfold Vld at hn; omega) (by unfold Vld at hn; omega))
  obtain ⟨M, hM⟩ : ∃ M : Nat, M = n.natAbs * n.natAbs * 4294967296 := ⟨_, rfl⟩
  have ct : ∀ W, Calls Tryz.prog 42 #[.agg #[.int .i64 (hiOf (n * n)), .int .u64 (loOf (n * n))], .int .u64 4294967296] W fun e w' => e = .returned (.agg #[.int .i64 (hiOf M), .int .u64 (loOf M)]) ∧ Below W.heap.size W w' := fun W => by
    have h := times_any (n * n) 4294967296 W (by omega) (by omega) (by omega)
    rw [show n * n * ((4294967296 : Nat) : Int) = (M : Int) by omega] at h
    exact h
  have CT := Lib.hid ct
  have HS := Lib.hid hsq
  have HM := Lib.hid hM
  obtain ⟨n0, n1⟩ := hn
  have n2 : -9223372036854775807 ≤ n := by omega
  clear ct hnn hM hmm
  clear n0 n1 hsq hle hpos
  go_enter Tryz.func86, Tryz.ntmps86
  go_wp2_with (first | (go_at_call 39; refine (CP.out _).mono ?_; rintro e w1 ⟨rfl, hb1⟩) | (go_at_call 42; refine (CT.out _).mono ?_; rintro e w2 ⟨rfl, hb2⟩))
  have hB1 : Below w.heap.size w w1 := ((Below.refl w.heap.size w).alloc (Nat.le_refl _) _).trans (hb1.mono (by simp))
  have hB2 : Below w.heap.size w w2 := hB1.trans (hb2.mono hB1.size)
  have hW : ShW w2.heap.size sq M w (w2.alloc (.cells #[.int .i64 (hiOf M), .int .u64 (loOf M)] 68)) :=
    ⟨⟨alloc_cell (cell_later hb2 (cell_later hb1 (by simp [go_sem]))), alloc_cell (cell_later hb2 (cell_later hb1 (by simp [go_sem]))), by simp [go_sem], by simp [go_sem]⟩, hB2.alloc hB2.size _⟩
  have HW := Lib.hid hW
  obtain ⟨B5, hB5⟩ : ∃ B5, w2.heap.size = B5 := ⟨_, rfl⟩
  rw [hB5] at HW ⊢
  clear hW hB5 hB1 hB2 hb1 hb2 CP CT
  go_loopw [6, 7] (fun u b wr => ∃ k U bb : Nat, u = .int .u64 U ∧ b = .int .u64 bb ∧ Hid (k ≤ 17 ∧ bb = 2 ^ k / 2 ∧ shAux sq M k U = shr n.natAbs sq ∧ U + 2 ^ k ≤ 131072 ∧ ShW B5 sq M w wr)) (fun _ b _ => (intOf b).toNat)
  case atStart => exact ⟨17, 0, 65536, rfl, rfl, by omega, rfl, by rw [HM.out]; rfl, by omega, HW.out⟩
  case round =>
    obtain ⟨k, U, bb, rfl, rfl, hI⟩ := hrel
    clear HW
    cases k with
    | zero =>
      obtain ⟨_, h1, h2, h3, h4⟩ := hI
      obtain rfl : bb = 0 := by simpa using h1
      have HU : Hid (shr n.natAbs sq = U) := h2.symm
      have hU : (U : Int) ≤ 131072 := by omega
      have H4 := Lib.hid h4.2
      clear h1 h2 h3 h4
      by_cases hs : n < 0
      · go_wp2
        go_ret
        exact ⟨ret_int (by rw [HU.out]), H4.out⟩
      · go_wp2
        go_ret
        exact ⟨ret_int (by rw [HU.out]), H4.out⟩
    | succ j =>
      obtain ⟨hk, h1, h2, h3, h4⟩ := hI
      have hp : 2 ^ (j + 1) = 2 ^ j + 2 ^ j := by rw [Nat.pow_succ]; omega
      have hp1 := Nat.two_pow_pos j
      obtain rfl : bb = 2 ^ j := by rw [h1, hp]; omega
      obtain ⟨b, hb⟩ : ∃ b, b = 2 ^ j := ⟨_, rfl⟩
      have hbm : (U + b) * (U + b) < 17179869184 := by
        have := Nat.mul_le_mul (show U + b ≤ 131071 by omega) (show U + b ≤ 131071 by omega)
        omega
      obtain ⟨m, hm⟩ : ∃ m, (U + b) * (U + b) = m := ⟨_, rfl⟩
      have wm : IntKind.u64.wrap (((U : Int) + b) * ((U : Int) + b)) = (m : Int) := by
        rw [← hm, ← Int.natCast_add, ← Int.natCast_mul]; exact wrap_nat (by omega)
      have hsm : sq * m < 170141183460469231731687303715884105728 := by
        have h := Nat.mul_le_mul HS.out (show m ≤ 17179607041 by rw [← hm]; exact Nat.mul_le_mul (show U + b ≤ 131071 by omega) (show U + b ≤ 131071 by omega))
        omega
      have CT := Lib.hid (fun W => times_any (sq : Int) m W (by omega) (by omega) (by rw [← Int.natCast_mul]; omega))
      have cc : ∀ W, Calls Tryz.prog 90 #[.agg #[.int .i64 (hiOf ((sq : Int) * m)), .int .u64 (loOf ((sq : Int) * m))], .agg #[.int .i64 (hiOf M), .int .u64 (loOf M)]] W fun e w' => e = .returned (.int .i64 (cmp3 ((sq : Int) * m) M)) ∧ Below W.heap.size W w' := fun W => compare_any _ _ W
      have hs2 : shAux sq M (j + 1) U = if sq * m ≤ M then shAux sq M j (U + b) else shAux sq M j U := by rw [shAux, ← hb, hm]
      obtain ⟨c, hc⟩ : ∃ c, cmp3 ((sq : Int) * m) M = c := ⟨_, rfl⟩
      rw [hc] at cc
      have CC := Lib.hid cc
      have HT := Lib.hid (h4.later ((Below.refl wr.heap.size wr).drew))
      rw [hs2] at h2
      rw [← hb] at hp1
      have g0 : (1 : Int) ≤ b := by omega
      have g1 : (U : Int) + b ≤ 131071 := by omega
      have WS : Hid (IntKind.u64.wrap ((U : Int) + b) = (U : Int) + b) := by
        show IntKind.u64.wrap ((U : Int) + b) = (U : Int) + b
        rw [← Int.natCast_add]; exact wrap_nat (by omega)
      have h3' : U + b + b ≤ 131072 := by rw [hb]; omega
      by_cases hle : sq * m ≤ M
      · rw [if_pos hle] at h2
        have hc0 : c ≤ 0 := by rw [← hc, ← Int.natCast_mul]; exact cmp3_le (by omega)
        have HI : Hid (j ≤ 17 ∧ b / 2 = 2 ^ j / 2 ∧ shAux sq M j (U + b) = shr n.natAbs sq ∧ U + b + 2 ^ j ≤ 131072) := ⟨by omega, by rw [hb], h2, by rw [← hb]; omega⟩
        rw [← hb]
        clear cc hc hs2 h1 h2 h3 h4 hk hp hb hm hbm hsm hle h3'
        go_wp2
        have hT := HT.out
        have ws := WS.out
        go_region_held3 (fun w' => w'.cell? ⟨w.heap.size, 0, none⟩ = some (.int .i64 (hiOf sq)) ∧ w'.cell? ⟨w.heap.size, 1, none⟩ = some (.int .u64 (loOf sq)) ∧ w'.cell? ⟨B5, 0, none⟩ = some (.int .i64 (hiOf M)) ∧ w'.cell? ⟨B5, 1, none⟩ = some (.int .u64 (loOf M)))
          (exact hT.1)
          ((first | (go_at_call 42; refine (CT.out _).mono ?_; rintro e w3 ⟨rfl, hb3⟩; replace hT := hT.later hb3) | (go_at_call 90; refine (CC.out _).mono ?_; rintro e w4 ⟨rfl, hb4⟩; replace hT := hT.later hb4)))
        clear ws
        go_wp2
        go_roundw
        case rel => exact ⟨j, U + b, b / 2, by go_num, by go_num, HI.out.1, HI.out.2.1, HI.out.2.2.1, HI.out.2.2.2, hT⟩
        case measure => simp [intOf]; omega
      · rw [if_neg hle] at h2
        have hc0 : c = 1 := by rw [← hc, ← Int.natCast_mul]; exact cmp3_pos (by omega)
        rw [hc0] at CC
        have HI : Hid (j ≤ 17 ∧ b / 2 = 2 ^ j / 2 ∧ shAux sq M j U = shr n.natAbs sq ∧ U + 2 ^ j ≤ 131072) := ⟨by omega, by rw [hb], h2, by rw [← hb]; omega⟩
        rw [← hb]
        clear hc0 cc hc hs2 h1 h2 h3 h4 hk hp hb hm hbm hsm hle h3'
        go_wp2
        have hT := HT.out
        have ws := WS.out
        go_region_held3 (fun w' => w'.cell? ⟨w.heap.size, 0, none⟩ = some (.int .i64 (hiOf sq)) ∧ w'.cell? ⟨w.heap.size, 1, none⟩ = some (.int .u64 (loOf sq)) ∧ w'.cell? ⟨B5, 0, none⟩ = some (.int .i64 (hiOf M)) ∧ w'.cell? ⟨B5, 1, none⟩ = some (.int .u64 (loOf M)))
          (exact hT.1)
          ((first | (go_at_call 42; refine (CT.out _).mono ?_; rintro e w3 ⟨rfl, hb3⟩; replace hT := hT.later hb3) | (go_at_call 90; refine (CC.out _).mono ?_; rintro e w4 ⟨rfl, hb4⟩; replace hT := hT.later hb4)))
        clear ws
        go_wp2
        go_roundw
        case rel => exact ⟨j, U, b / 2, rfl, by go_num, HI.out.1, HI.out.2.1, HI.out.2.2.1, HI.out.2.2.2, hT⟩
        case measure => simp [intOf]; omega

end Go.Proofs.YtebfhjndgfcijaaGreatDoor

namespace Go.Proofs.YtebfhjndgfcijaaGreatDoor
open Go Go.RowKit

/-- A coordinate by the root of the square. -/
def shareS (n : Int) (sq : Nat) : Int := if n < 0 then -(shr n.natAbs sq : Int) else (shr n.natAbs sq : Int)

set_option maxHeartbeats 1000000 in
theorem unit_step (n : Int) (sq S : Nat) (w : World) (hn : Vld n) (hsq : sq ≤ 9903520314283042199192993792) (hle : n.natAbs * n.natAbs ≤ sq) (hpos : 0 < sq)
    (c0 : w.cell? ⟨S, 0, none⟩ = some (.int .i64 (hiOf sq))) (c1 : w.cell? ⟨S, 1, none⟩ = some (.int .u64 (loOf sq))) :
    Calls Tryz.prog 85 #[.int .i64 n, .pointer (some ⟨S, 0, none⟩)] w fun e w' => e = .returned (.int .i64 (shareS n sq)) ∧ Below w.heap.size w w' := by
  have cs : ∀ W, Calls Tryz.prog 86 #[.int .i64 n, .agg #[.int .i64 (hiOf sq), .int .u64 (loOf sq)]] W fun e w' => e = .returned (.int .i64 (shareS n sq)) ∧ Below W.heap.size W w' := fun W => share_any n sq W hn hsq hle hpos
  have CS := Lib.hid cs
  clear cs
  clear hn hsq hle hpos
  go_enter Tryz.func85, Tryz.ntmps85
  go_wp2_with (go_at_call 86; refine (CS.out _).mono ?_; rintro e w1 ⟨rfl, hb⟩)
  go_ret
  exact ⟨rfl, hb⟩

set_option maxHeartbeats 1000000 in
theorem each_fix (x y u v : Int) (K S : Nat) (w : World) (hcf : ∀ args w, (callFunc K args).run Tryz.prog w = .ok (.enter K args) w)
    (cx : ∀ W, Below w.heap.size w W → Calls Tryz.prog K #[.int .i64 x, .pointer (some ⟨S, 0, none⟩)] W fun e w' => e = .returned (.int .i64 u) ∧ Below W.heap.size W w')
    (cy : ∀ W, Below w.heap.size w W → Calls Tryz.prog K #[.int .i64 y, .pointer (some ⟨S, 0, none⟩)] W fun e w' => e = .returned (.int .i64 v) ∧ Below W.heap.size W w') :
    Calls Tryz.prog 72 #[.int .i64 x, .int .i64 y, .func (.func K) #[] #[.pointer (some ⟨S, 0, none⟩)]] w fun e w' => e = .returned (.agg #[.int .i64 u, .int .i64 v]) ∧ Below w.heap.size w w' := by
  have CX := Lib.hid (cx (w.alloc (.cells #[.int .i64 0, .int .i64 0] 33)) ((Below.refl _ _).alloc (Nat.le_refl _) _))
  have CY := Lib.hid cy
  clear cx cy
  go_enter Tryz.func72, Tryz.ntmps72
  go_wp2_with (with_reducible refine CX.out.mono ?_; rintro e w1 ⟨rfl, hb1⟩)
  have hB1 : Below w.heap.size w w1 := ((Below.refl w.heap.size w).alloc (Nat.le_refl _) _).trans (hb1.mono (by simp))
  refine (CY.out w1 hB1).mono ?_
  rintro e w2 ⟨rfl, hb2⟩
  have hB2 := hB1.trans (hb2.mono hB1.size)
  have t0 : w2.cell? ⟨w.heap.size, 0, none⟩ = some (.int .i64 0) := cell_later hb2 (cell_later hb1 (by simp [go_sem]))
  have t1 : w2.cell? ⟨w.heap.size, 1, none⟩ = some (.int .i64 0) := cell_later hb2 (cell_later hb1 (by simp [go_sem]))
  have f0 : w2.frozen? ⟨w.heap.size, 0, none⟩ = false := (hb2.frozen (p := ⟨w.heap.size, 0, none⟩) (by have := hb1.size; simp at this ⊢; omega)).trans ((hb1.frozen (p := ⟨w.heap.size, 0, none⟩) (by simp)).trans (by simp [go_sem]))
  have f1 : w2.frozen? ⟨w.heap.size, 1, none⟩ = false := (hb2.frozen (p := ⟨w.heap.size, 1, none⟩) (by have := hb1.size; simp at this ⊢; omega)).trans ((hb1.frozen (p := ⟨w.heap.size, 1, none⟩) (by simp)).trans (by simp [go_sem]))
  go_wp2
  obtain ⟨k1, k2⟩ := set_pair (.int .i64 u) (.int .i64 v) t0 t1
  exact bodyPost_ret (v := .agg #[.int .i64 u, .int .i64 v]) (by simp [results, Tryz.results72, go_sem, k1, k2]) rfl
    ⟨rfl, (hB2.setCell (by simp) _).setCell (by simp) _⟩

theorem enters_unit_step (args : Array Value) (w : World) : (callFunc 85 args).run Tryz.prog w = .ok (.enter 85 args) w := by
  simp [go_sem]

theorem sq_facts {x y : Int} (hv : Vld x ∧ Vld y) : x.natAbs * x.natAbs ≤ 4951760157141521099596496896 ∧ y.natAbs * y.natAbs ≤ 4951760157141521099596496896 ∧ x * x + y * y = ((x.natAbs * x.natAbs + y.natAbs * y.natAbs : Nat) : Int) := by
  obtain ⟨⟨a0, a1⟩, ⟨b0, b1⟩⟩ := hv
  have h1 := Nat.mul_le_mul (show x.natAbs ≤ 70368744177664 by omega) (show x.natAbs ≤ 70368744177664 by omega)
  have h2 := Nat.mul_le_mul (show y.natAbs ≤ 70368744177664 by omega) (show y.natAbs ≤ 70368744177664 by omega)
  refine ⟨h1, h2, ?_⟩
  rw [Int.natCast_add, Int.natCast_mul, Int.natCast_mul, Int.natAbs_mul_self', Int.natAbs_mul_self']

theorem dot_self (x y : Int) (w : World) (hv : Vld x ∧ Vld y) :
    Calls Tryz.prog 76 #[.agg #[.int .i64 x, .int .i64 y], .agg #[.int .i64 x, .int .i64 y]] w fun e w' => e = .returned (.agg #[.int .i64 (hiOf ((x.natAbs * x.natAbs + y.natAbs * y.natAbs : Nat) : Int)), .int .u64 (loOf ((x.natAbs * x.natAbs + y.natAbs * y.natAbs : Nat) : Int))]) ∧ Below w.heap.size w w' := by
  obtain ⟨h1, h2, h3⟩ := sq_facts hv
  have h := dot_any x y x y w (by unfold Vld at hv; omega) (by unfold Vld at hv; omega) (by unfold Vld at hv; omega) (by unfold Vld at hv; omega) (by omega) (by omega)
  rw [h3] at h
  exact h

set_option maxHeartbeats 1000000 in
theorem unit_in_ok (x y : Int) (A sq : Nat) (w : World) (hv : Vld x ∧ Vld y) (hz : ¬ (x = 0 ∧ y = 0)) (hsq : sq = x.natAbs * x.natAbs + y.natAbs * y.natAbs)
    (c0 : w.cell? ⟨A, 0, none⟩ = some (.int .i64 x)) (c1 : w.cell? ⟨A, 1, none⟩ = some (.int .i64 y)) :
    Calls Tryz.prog 84 #[.pointer (some ⟨A, 0, none⟩)] w fun e w' => e = .returned (.agg #[.int .i64 (shareS x sq), .int .i64 (shareS y sq)]) ∧ Below w.heap.size w w' := by
  obtain ⟨h1, h2, h3⟩ := sq_facts hv
  have hmf : ∀ (fn : Fn) (first cap : Array Value) (w : World), (Instr.makeFunc fn first cap).run Tryz.prog w = .ok (.func fn first cap) w := fun _ _ _ _ => rfl
  have hpos : 0 < sq := by
    rcases Nat.eq_zero_or_pos sq with h | h
    · have hx : x.natAbs * x.natAbs = 0 := by omega
      have hy : y.natAbs * y.natAbs = 0 := by omega
      have := Nat.mul_eq_zero.1 hx
      have := Nat.mul_eq_zero.1 hy
      omega
    · exact h
  have HV := Lib.hid hv
  have CD := Lib.hid (fun W => dot_self x y W hv)
  rw [← hsq] at CD
  have CX := Lib.hid (fun (S : Nat) W c0 c1 => unit_step x sq S W hv.1 (by omega) (by omega) hpos c0 c1)
  have CY := Lib.hid (fun (S : Nat) W c0 c1 => unit_step y sq S W hv.2 (by omega) (by omega) hpos c0 c1)
  have l0 : A < w.heap.size := World.block_lt_of_cell? _ _ c0
  have l1 : A < w.heap.size + 1 := by omega
  have l2 : A < w.heap.size + 1 + 1 := by omega
  clear hv h1 h2 h3 hpos hsq
  by_cases hx : x = 0
  · subst hx
    have hy : ¬ y = 0 := fun h => hz ⟨rfl, h⟩
    clear hz
    go_enter Tryz.func84, Tryz.ntmps84
    go_wp2_with (first | (go_at_call 62; refine (need2_ok 0 y _ _ HV.out (by simp [go_sem]) (by simp [go_sem])).mono ?_; rintro e w' ⟨rfl, rfl⟩))
    refine (CD.out _).mono ?_
    rintro e w1 ⟨rfl, hb1⟩
    have d0 := cell_later hb1 (alloc_cell (alloc_cell c0))
    have d1 := cell_later hb1 (alloc_cell (alloc_cell c1))
    have l3 := World.block_lt_of_cell? _ _ d0
    go_wp2_with fail
    refine (each_fix 0 y (shareS 0 sq) (shareS y sq) 85 w1.heap.size _ enters_unit_step (fun W hb => CX.out _ W (cell_later hb (by simp [go_sem])) (cell_later hb (by simp [go_sem]))) (fun W hb => CY.out _ W (cell_later hb (by simp [go_sem])) (cell_later hb (by simp [go_sem])))).mono ?_
    rintro e w2 ⟨rfl, hb2⟩
    have hB1 : Below w.heap.size w w1 := (((Below.refl w.heap.size w).alloc (Nat.le_refl _) _).alloc (by simp) _).trans (hb1.mono (by simp; omega))
    have hB2 : Below w.heap.size w w2 := (hB1.alloc hB1.size _).trans (hb2.mono (by have := hB1.size; simp; omega))
    have s1 : w.heap.size < w1.heap.size := by have := hb1.size; simp at this; omega
    have t0 : w2.cell? ⟨w.heap.size, 0, none⟩ = some (.int .i64 0) := cell_later hb2 (alloc_cell (cell_later hb1 (by simp [go_sem])))
    have t1 : w2.cell? ⟨w.heap.size, 1, none⟩ = some (.int .i64 0) := cell_later hb2 (alloc_cell (cell_later hb1 (by simp [go_sem])))
    have f0 : w2.frozen? ⟨w.heap.size, 0, none⟩ = false := (hb2.frozen (p := ⟨w.heap.size, 0, none⟩) (by simp; omega)).trans ((World.frozen?_alloc_old _ _ _ (by simp; omega)).trans ((hb1.frozen (p := ⟨w.heap.size, 0, none⟩) (by simp; omega)).trans (by simp [go_sem])))
    have f1 : w2.frozen? ⟨w.heap.size, 1, none⟩ = false := (hb2.frozen (p := ⟨w.heap.size, 1, none⟩) (by simp; omega)).trans ((World.frozen?_alloc_old _ _ _ (by simp; omega)).trans ((hb1.frozen (p := ⟨w.heap.size, 1, none⟩) (by simp; omega)).trans (by simp [go_sem])))
    go_wp2
    obtain ⟨k1, k2⟩ := set_pair (.int .i64 (shareS 0 sq)) (.int .i64 (shareS y sq)) t0 t1
    exact bodyPost_ret (v := .agg #[.int .i64 (shareS 0 sq), .int .i64 (shareS y sq)]) (by simp [results, Tryz.results84, go_sem, k1, k2]) rfl
      ⟨rfl, (hB2.setCell (by simp) _).setCell (by simp) _⟩
  · clear hz
    go_enter Tryz.func84, Tryz.ntmps84
    go_wp2_with (first | (go_at_call 62; refine (need2_ok x y _ _ HV.out (by simp [go_sem]) (by simp [go_sem])).mono ?_; rintro e w' ⟨rfl, rfl⟩))
    refine (CD.out _).mono ?_
    rintro e w1 ⟨rfl, hb1⟩
    have d0 := cell_later hb1 (alloc_cell (alloc_cell c0))
    have d1 := cell_later hb1 (alloc_cell (alloc_cell c1))
    have l3 := World.block_lt_of_cell? _ _ d0
    go_wp2_with fail
    refine (each_fix x y (shareS x sq) (shareS y sq) 85 w1.heap.size _ enters_unit_step (fun W hb => CX.out _ W (cell_later hb (by simp [go_sem])) (cell_later hb (by simp [go_sem]))) (fun W hb => CY.out _ W (cell_later hb (by simp [go_sem])) (cell_later hb (by simp [go_sem])))).mono ?_
    rintro e w2 ⟨rfl, hb2⟩
    have hB1 : Below w.heap.size w w1 := (((Below.refl w.heap.size w).alloc (Nat.le_refl _) _).alloc (by simp) _).trans (hb1.mono (by simp; omega))
    have hB2 : Below w.heap.size w w2 := (hB1.alloc hB1.size _).trans (hb2.mono (by have := hB1.size; simp; omega))
    have s1 : w.heap.size < w1.heap.size := by have := hb1.size; simp at this; omega
    have t0 : w2.cell? ⟨w.heap.size, 0, none⟩ = some (.int .i64 0) := cell_later hb2 (alloc_cell (cell_later hb1 (by simp [go_sem])))
    have t1 : w2.cell? ⟨w.heap.size, 1, none⟩ = some (.int .i64 0) := cell_later hb2 (alloc_cell (cell_later hb1 (by simp [go_sem])))
    have f0 : w2.frozen? ⟨w.heap.size, 0, none⟩ = false := (hb2.frozen (p := ⟨w.heap.size, 0, none⟩) (by simp; omega)).trans ((World.frozen?_alloc_old _ _ _ (by simp; omega)).trans ((hb1.frozen (p := ⟨w.heap.size, 0, none⟩) (by simp; omega)).trans (by simp [go_sem])))
    have f1 : w2.frozen? ⟨w.heap.size, 1, none⟩ = false := (hb2.frozen (p := ⟨w.heap.size, 1, none⟩) (by simp; omega)).trans ((World.frozen?_alloc_old _ _ _ (by simp; omega)).trans ((hb1.frozen (p := ⟨w.heap.size, 1, none⟩) (by simp; omega)).trans (by simp [go_sem])))
    go_wp2
    obtain ⟨k1, k2⟩ := set_pair (.int .i64 (shareS x sq)) (.int .i64 (shareS y sq)) t0 t1
    exact bodyPost_ret (v := .agg #[.int .i64 (shareS x sq), .int .i64 (shareS y sq)]) (by simp [results, Tryz.results84, go_sem, k1, k2]) rfl
      ⟨rfl, (hB2.setCell (by simp) _).setCell (by simp) _⟩

set_option maxHeartbeats 1000000 in
theorem unit_in_zero (A : Nat) (w : World) (c0 : w.cell? ⟨A, 0, none⟩ = some (.int .i64 0)) (c1 : w.cell? ⟨A, 1, none⟩ = some (.int .i64 0)) :
    Calls Tryz.prog 84 #[.pointer (some ⟨A, 0, none⟩)] w fun e w' => e = flt 10 ∧ Below w.heap.size w w' := by
  have HV : Hid (Vld 0 ∧ Vld 0) := ⟨⟨by omega, by omega⟩, by omega, by omega⟩
  have l0 : A < w.heap.size := World.block_lt_of_cell? _ _ c0
  have l1 : A < w.heap.size + 1 := by omega
  have l2 : A < w.heap.size + 1 + 1 := by omega
  go_enter Tryz.func84, Tryz.ntmps84
  go_wp2_with (first | (go_at_call 62; refine (need2_ok 0 0 _ _ HV.out (by simp [go_sem]) (by simp [go_sem])).mono ?_; rintro e w' ⟨rfl, rfl⟩))
  exact ⟨rfl, rfl, ((Below.refl w.heap.size w).alloc (Nat.le_refl _) _).alloc (by simp) _⟩

set_option maxHeartbeats 1000000 in
theorem unit_in_arg (x y : Int) (A : Nat) (w : World) (hv : ¬ (Vld x ∧ Vld y)) (c0 : w.cell? ⟨A, 0, none⟩ = some (.int .i64 x)) (c1 : w.cell? ⟨A, 1, none⟩ = some (.int .i64 y)) :
    Calls Tryz.prog 84 #[.pointer (some ⟨A, 0, none⟩)] w fun e w' => e = flt 2 ∧ Below w.heap.size w w' := by
  have HV := Lib.hid hv
  have l0 : A < w.heap.size := World.block_lt_of_cell? _ _ c0
  have l1 : A < w.heap.size + 1 := by omega
  have l2 : A < w.heap.size + 1 + 1 := by omega
  clear hv
  go_enter Tryz.func84, Tryz.ntmps84
  go_wp2_with (first | (go_at_call 62; refine (need2_bad x y _ _ HV.out (by simp [go_sem]) (by simp [go_sem])).mono ?_; rintro e w' ⟨rfl, rfl⟩))
  exact ⟨rfl, rfl, ((Below.refl w.heap.size w).alloc (Nat.le_refl _) _).alloc (by simp) _⟩

end Go.Proofs.YtebfhjndgfcijaaGreatDoor

namespace Go.Proofs.YtebfhjndgfcijaaGreatDoor
open Go Go.RowKit

/-- What Unit gives: the coordinates and the error. -/
def unitS (x y : Int) : (Int × Int) × Int :=
  if Vld x ∧ Vld y then (if x = 0 ∧ y = 0 then ((0, 0), 10) else ((shareS x (x.natAbs * x.natAbs + y.natAbs * y.natAbs), shareS y (x.natAbs * x.natAbs + y.natAbs * y.natAbs)), 0)) else ((0, 0), 2)

theorem enters_unit (args : Array Value) (w : World) : (callFunc 84 args).run Tryz.prog w = .ok (.enter 84 args) w := by
  simp [go_sem]

set_option maxHeartbeats 1000000 in
theorem unit_out (x y u v n : Int) (w : World)
    (hin : (n = 0 ∧ ∀ A W, W.cell? ⟨A, 0, none⟩ = some (.int .i64 x) → W.cell? ⟨A, 1, none⟩ = some (.int .i64 y) →
        Calls Tryz.prog 84 #[.pointer (some ⟨A, 0, none⟩)] W fun e w' => e = .returned (.agg #[.int .i64 u, .int .i64 v]) ∧ Below W.heap.size W w') ∨
      ((u = 0 ∧ v = 0) ∧ ∀ A W, W.cell? ⟨A, 0, none⟩ = some (.int .i64 x) → W.cell? ⟨A, 1, none⟩ = some (.int .i64 y) →
        Calls Tryz.prog 84 #[.pointer (some ⟨A, 0, none⟩)] W fun e w' => e = flt n ∧ Below W.heap.size W w')) :
    Calls Tryz.prog 25 #[.agg #[.int .i64 x, .int .i64 y]] w fun e w' => e = .returned (.tuple #[.agg #[.int .i64 u, .int .i64 v], .int .i64 n]) ∧ Below w.heap.size w w' := by
  have hmf : ∀ (fn : Fn) (first cap : Array Value) (w : World), (Instr.makeFunc fn first cap).run Tryz.prog w = .ok (.func fn first cap) w := fun _ _ _ _ => rfl
  have ha := attempt_spot 84 #[.pointer (some ⟨w.heap.size, 0, none⟩)] u v n
    ((w.alloc (.cells #[.int .i64 x, .int .i64 y] 33)).alloc (.cells #[.int .i64 0, .int .i64 0] 33)) enters_unit
    (by
      rcases hin with ⟨h, hin⟩ | ⟨h, hin⟩
      · exact .inl ⟨h, fun W hb => hin _ W (cell_later hb (by simp [go_sem])) (cell_later hb (by simp [go_sem]))⟩
      · exact .inr ⟨h, fun W hb => hin _ W (cell_later hb (by simp [go_sem])) (cell_later hb (by simp [go_sem]))⟩)
  have HA := Lib.hid ha
  clear ha hin
  go_enter Tryz.func25, Tryz.ntmps25
  go_wp2_with fail
  refine HA.out.mono ?_
  rintro e w1 ⟨rfl, hb⟩
  obtain ⟨hc, hf⟩ := bcell hb
  have t0 : w1.cell? ⟨w.heap.size + 1, 0, none⟩ = some (.int .i64 0) := cell_later hb (by simp [go_sem])
  have t1 : w1.cell? ⟨w.heap.size + 1, 1, none⟩ = some (.int .i64 0) := cell_later hb (by simp [go_sem])
  go_wp2
  obtain ⟨k1, k2⟩ := set_pair (.int .i64 u) (.int .i64 v) t0 t1
  exact bodyPost_ret (v := .tuple #[.agg #[.int .i64 u, .int .i64 v], .int .i64 n]) (by simp [results, Tryz.results25, go_sem, k1, k2]) rfl
    ⟨rfl, (((((Below.refl w.heap.size w).alloc (Nat.le_refl _) _).alloc (by simp) _).trans (hb.mono (by simp; omega))).setCell (by simp) _).setCell (by simp) _⟩

theorem unit_any (x y : Int) (w : World) :
    Calls Tryz.prog 25 #[.agg #[.int .i64 x, .int .i64 y]] w fun e w' => e = .returned (.tuple #[.agg #[.int .i64 (unitS x y).1.1, .int .i64 (unitS x y).1.2], .int .i64 (unitS x y).2]) ∧ Below w.heap.size w w' := by
  apply unit_out
  unfold unitS
  by_cases hv : Vld x ∧ Vld y
  · rw [if_pos hv]
    by_cases hz : x = 0 ∧ y = 0
    · rw [if_pos hz]
      obtain ⟨rfl, rfl⟩ := hz
      exact .inr ⟨⟨rfl, rfl⟩, fun A W c0 c1 => unit_in_zero A W c0 c1⟩
    · rw [if_neg hz]
      exact .inl ⟨rfl, fun A W c0 c1 => unit_in_ok x y A _ W hv hz rfl c0 c1⟩
  · rw [if_neg hv]
    exact .inr ⟨⟨rfl, rfl⟩, fun A W c0 c1 => unit_in_arg x y A W hv c0 c1⟩

end Go.Proofs.YtebfhjndgfcijaaGreatDoor
