/- The contract of package fixed's share: a coordinate by the root of the square, rounded by Cut. Conditions: the coordinate is valid, its square is not above the square that is given, which is below 2 to the power of 94. -/
import Derived.Test.YtfpfpmacobkmhaaGreatDoorDot
namespace Go.Proofs.YtfpfpmacobkmhaaGreatDoor
open Go Go.RowKit

/-- The search bit by bit: u is what has been found, k how many bits are still to be tried. -/
def shAux (sq most : Nat) : Nat → Nat → Nat
  | 0, u => u
  | k + 1, u => if sq * ((u + 2 ^ k) * (u + 2 ^ k)) ≤ most then shAux sq most k (u + 2 ^ k) else shAux sq most k u

def shr (m sq : Nat) : Nat := shAux sq (m * m * 4294967296) 17 0

theorem shAux_spec (sq most : Nat) : ∀ (k u : Nat), sq * (u * u) ≤ most → most < sq * ((u + 2 ^ k) * (u + 2 ^ k)) →
    sq * (shAux sq most k u * shAux sq most k u) ≤ most ∧ most < sq * ((shAux sq most k u + 1) * (shAux sq most k u + 1)) ∧ u ≤ shAux sq most k u ∧ shAux sq most k u < u + 2 ^ k
  | 0, u, h1, h2 => by simpa [shAux] using ⟨h1, h2⟩
  | k + 1, u, h1, h2 => by
    rw [shAux]
    have hp : 2 ^ (k + 1) = 2 ^ k + 2 ^ k := by rw [Nat.pow_succ]; omega
    split
    · rename_i h
      obtain ⟨a, b, c, d⟩ := shAux_spec sq most k (u + 2 ^ k) h (by rw [Nat.add_assoc, ← hp]; exact h2)
      exact ⟨a, b, by omega, by omega⟩
    · rename_i h
      obtain ⟨a, b, c, d⟩ := shAux_spec sq most k u h1 (by omega)
      exact ⟨a, b, c, by have := Nat.two_pow_pos k; omega⟩

theorem cmp3_le {a b : Int} (h : a ≤ b) : cmp3 a b ≤ 0 := by
  unfold cmp3
  by_cases h1 : a = b
  · rw [if_pos h1]; omega
  · rw [if_neg h1, if_neg (by omega)]; omega

theorem cmp3_pos {a b : Int} (h : b < a) : cmp3 a b = 1 := by
  unfold cmp3
  rw [if_neg (by omega), if_pos h]

def ShW (B5 : Nat) (sq most : Int) (w W : World) : Prop :=
  (W.cell? ⟨w.heap.size, 0, none⟩ = some (.int .i64 (hiOf sq)) ∧ W.cell? ⟨w.heap.size, 1, none⟩ = some (.int .u64 (loOf sq)) ∧ W.cell? ⟨B5, 0, none⟩ = some (.int .i64 (hiOf most)) ∧ W.cell? ⟨B5, 1, none⟩ = some (.int .u64 (loOf most))) ∧ Below w.heap.size w W

theorem ShW.later {B5 : Nat} {sq most : Int} {w W W' : World} (h : ShW B5 sq most w W) (hb : Below W.heap.size W W') : ShW B5 sq most w W' := by
  obtain ⟨⟨h1, h2, h3, h4⟩, h9⟩ := h
  exact ⟨⟨cell_later hb h1, cell_later hb h2, cell_later hb h3, cell_later hb h4⟩, h9.trans (hb.mono h9.size)⟩

set_option maxHeartbeats 1000000 in
set_option maxRecDepth 100000 in
theorem share_any (n : Int) (sq : Nat) (w : World) (hn : Vld n) (hsq : sq ≤ 9903520314283042199192993792) (hle : n.natAbs * n.natAbs ≤ sq) (hpos : 0 < sq) :
    Calls Tryz.prog 74 #[.int .i64 n, .agg #[.int .i64 (hiOf sq), .int .u64 (loOf sq)]] w fun e w' => e = .returned (.int .i64 (if n < 0 then -(shr n.natAbs sq : Int) else (shr n.natAbs sq : Int))) ∧ Below w.heap.size w w' := by
  have hmm := natAbs_mul_lt (a := n) (b := n) (by unfold Vld at hn; omega) (by unfold Vld at hn; omega) (by unfold Vld at hn; omega) (by unfold Vld at hn; omega)
  have hnn : (n * n : Int) = ((n.natAbs * n.natAbs : Nat) : Int) := by rw [Int.natCast_mul]; exact (Int.natAbs_mul_self' n).symm
  have CP := Lib.hid (fun W => product_any n n W (by unfold Vld at hn; omega) (by unfold Vld at hn; omega) (by unfold Vld at hn; omega) (by unfold Vld at hn; omega))
  obtain ⟨M, hM⟩ : ∃ M : Nat, M = n.natAbs * n.natAbs * 4294967296 := ⟨_, rfl⟩
  have ct : ∀ W, Calls Tryz.prog 79 #[.agg #[.int .i64 (hiOf (n * n)), .int .u64 (loOf (n * n))], .int .u64 4294967296] W fun e w' => e = .returned (.agg #[.int .i64 (hiOf M), .int .u64 (loOf M)]) ∧ Below W.heap.size W w' := fun W => by
    have h := times_any (n * n) 4294967296 W (by omega) (by omega) (by omega)
    rw [show n * n * ((4294967296 : Nat) : Int) = (M : Int) by omega] at h
    exact h
  have CT := Lib.hid ct
  have HS := Lib.hid hsq
  have HM := Lib.hid hM
  obtain ⟨n0, n1⟩ := hn
  have n2 : -9223372036854775807 ≤ n := by omega
  clear ct hnn hM hmm
  clear n0 n1 hsq hle hpos
  go_enter Tryz.func74, Tryz.ntmps74
  go_wp2_with (first | (go_at_call 29; refine (CP.out _).mono ?_; rintro e w1 ⟨rfl, hb1⟩) | (go_at_call 79; refine (CT.out _).mono ?_; rintro e w2 ⟨rfl, hb2⟩))
  have hB1 : Below w.heap.size w w1 := ((Below.refl w.heap.size w).alloc (Nat.le_refl _) _).trans (hb1.mono (by simp))
  have hB2 : Below w.heap.size w w2 := hB1.trans (hb2.mono hB1.size)
  have hW : ShW w2.heap.size sq M w (w2.alloc (.cells #[.int .i64 (hiOf M), .int .u64 (loOf M)] 51)) :=
    ⟨⟨alloc_cell (cell_later hb2 (cell_later hb1 (by simp [go_sem]))), alloc_cell (cell_later hb2 (cell_later hb1 (by simp [go_sem]))), by simp [go_sem], by simp [go_sem]⟩, hB2.alloc hB2.size _⟩
  have HW := Lib.hid hW
  obtain ⟨B5, hB5⟩ : ∃ B5, w2.heap.size = B5 := ⟨_, rfl⟩
  rw [hB5] at HW ⊢
  clear hW hB5 hB1 hB2 hb1 hb2 CP CT
  go_loopw [6, 7] (fun u b wr => ∃ k U bb : Nat, u = .int .u64 U ∧ b = .int .u64 bb ∧ Hid (k ≤ 17 ∧ bb = 2 ^ k / 2 ∧ shAux sq M k U = shr n.natAbs sq ∧ U + 2 ^ k ≤ 131072 ∧ ShW B5 sq M w wr)) (fun _ b _ => (intOf b).toNat)
  case atStart => exact ⟨17, 0, 65536, rfl, rfl, by omega, rfl, by rw [HM.out]; rfl, by omega, HW.out⟩
  case round =>
    obtain ⟨k, U, bb, rfl, rfl, hI⟩ := hrel
    clear HW
    cases k with
    | zero =>
      obtain ⟨_, h1, h2, h3, h4⟩ := hI
      obtain rfl : bb = 0 := by simpa using h1
      have HU : Hid (shr n.natAbs sq = U) := h2.symm
      have hU : (U : Int) ≤ 131072 := by omega
      have H4 := Lib.hid h4.2
      clear h1 h2 h3 h4
      by_cases hs : n < 0
      · go_wp2
        go_ret
        exact ⟨ret_int (by rw [HU.out]), H4.out⟩
      · go_wp2
        go_ret
        exact ⟨ret_int (by rw [HU.out]), H4.out⟩
    | succ j =>
      obtain ⟨hk, h1, h2, h3, h4⟩ := hI
      have hp : 2 ^ (j + 1) = 2 ^ j + 2 ^ j := by rw [Nat.pow_succ]; omega
      have hp1 := Nat.two_pow_pos j
      obtain rfl : bb = 2 ^ j := by rw [h1, hp]; omega
      obtain ⟨b, hb⟩ : ∃ b, b = 2 ^ j := ⟨_, rfl⟩
      have hbm : (U + b) * (U + b) < 17179869184 := by
        have := Nat.mul_le_mul (show U + b ≤ 131071 by omega) (show U + b ≤ 131071 by omega)
        omega
      obtain ⟨m, hm⟩ : ∃ m, (U + b) * (U + b) = m := ⟨_, rfl⟩
      have wm : IntKind.u64.wrap (((U : Int) + b) * ((U : Int) + b)) = (m : Int) := by
        rw [← hm, ← Int.natCast_add, ← Int.natCast_mul]; exact wrap_nat (by omega)
      have hsm : sq * m < 170141183460469231731687303715884105728 := by
        have h := Nat.mul_le_mul HS.out (show m ≤ 17179607041 by rw [← hm]; exact Nat.mul_le_mul (show U + b ≤ 131071 by omega) (show U + b ≤ 131071 by omega))
        omega
      have CT := Lib.hid (fun W => times_any (sq : Int) m W (by omega) (by omega) (by rw [← Int.natCast_mul]; omega))
      have cc : ∀ W, Calls Tryz.prog 88 #[.agg #[.int .i64 (hiOf ((sq : Int) * m)), .int .u64 (loOf ((sq : Int) * m))], .agg #[.int .i64 (hiOf M), .int .u64 (loOf M)]] W fun e w' => e = .returned (.int .i64 (cmp3 ((sq : Int) * m) M)) ∧ Below W.heap.size W w' := fun W => compare_any _ _ W
      have hs2 : shAux sq M (j + 1) U = if sq * m ≤ M then shAux sq M j (U + b) else shAux sq M j U := by rw [shAux, ← hb, hm]
      obtain ⟨c, hc⟩ : ∃ c, cmp3 ((sq : Int) * m) M = c := ⟨_, rfl⟩
      rw [hc] at cc
      have CC := Lib.hid cc
      have HT := Lib.hid (h4.later ((Below.refl wr.heap.size wr).drew))
      rw [hs2] at h2
      rw [← hb] at hp1
      have g0 : (1 : Int) ≤ b := by omega
      have g1 : (U : Int) + b ≤ 131071 := by omega
      have WS : Hid (IntKind.u64.wrap ((U : Int) + b) = (U : Int) + b) := by
        show IntKind.u64.wrap ((U : Int) + b) = (U : Int) + b
        rw [← Int.natCast_add]; exact wrap_nat (by omega)
      have h3' : U + b + b ≤ 131072 := by rw [hb]; omega
      by_cases hle : sq * m ≤ M
      · rw [if_pos hle] at h2
        have hc0 : c ≤ 0 := by rw [← hc, ← Int.natCast_mul]; exact cmp3_le (by omega)
        have HI : Hid (j ≤ 17 ∧ b / 2 = 2 ^ j / 2 ∧ shAux sq M j (U + b) = shr n.natAbs sq ∧ U + b + 2 ^ j ≤ 131072) := ⟨by omega, by rw [hb], h2, by rw [← hb]; omega⟩
        rw [← hb]
        clear cc hc hs2 h1 h2 h3 h4 hk hp hb hm hbm hsm hle h3'
        go_wp2
        have hT := HT.out
        have ws := WS.out
        go_region_held3 (fun w' => w'.cell? ⟨w.heap.size, 0, none⟩ = some (.int .i64 (hiOf sq)) ∧ w'.cell? ⟨w.heap.size, 1, none⟩ = some (.int .u64 (loOf sq)) ∧ w'.cell? ⟨B5, 0, none⟩ = some (.int .i64 (hiOf M)) ∧ w'.cell? ⟨B5, 1, none⟩ = some (.int .u64 (loOf M)))
          (exact hT.1)
          ((first | (go_at_call 79; refine (CT.out _).mono ?_; rintro e w3 ⟨rfl, hb3⟩; replace hT := hT.later hb3) | (go_at_call 88; refine (CC.out _).mono ?_; rintro e w4 ⟨rfl, hb4⟩; replace hT := hT.later hb4)))
        clear ws
        go_wp2
        go_roundw
        case rel => exact ⟨j, U + b, b / 2, by go_num, by go_num, HI.out.1, HI.out.2.1, HI.out.2.2.1, HI.out.2.2.2, hT⟩
        case measure => simp [intOf]; omega
      · rw [if_neg hle] at h2
        have hc0 : c = 1 := by rw [← hc, ← Int.natCast_mul]; exact cmp3_pos (by omega)
        rw [hc0] at CC
        have HI : Hid (j ≤ 17 ∧ b / 2 = 2 ^ j / 2 ∧ shAux sq M j U = shr n.natAbs sq ∧ U + 2 ^ j ≤ 131072) := ⟨by omega, by rw [hb], h2, by rw [← hb]; omega⟩
        rw [← hb]
        clear hc0 cc hc hs2 h1 h2 h3 h4 hk hp hb hm hbm hsm hle h3'
        go_wp2
        have hT := HT.out
        have ws := WS.out
        go_region_held3 (fun w' => w'.cell? ⟨w.heap.size, 0, none⟩ = some (.int .i64 (hiOf sq)) ∧ w'.cell? ⟨w.heap.size, 1, none⟩ = some (.int .u64 (loOf sq)) ∧ w'.cell? ⟨B5, 0, none⟩ = some (.int .i64 (hiOf M)) ∧ w'.cell? ⟨B5, 1, none⟩ = some (.int .u64 (loOf M)))
          (exact hT.1)
          ((first | (go_at_call 79; refine (CT.out _).mono ?_; rintro e w3 ⟨rfl, hb3⟩; replace hT := hT.later hb3) | (go_at_call 88; refine (CC.out _).mono ?_; rintro e w4 ⟨rfl, hb4⟩; replace hT := hT.later hb4)))
        clear ws
        go_wp2
        go_roundw
        case rel => exact ⟨j, U, b / 2, rfl, by go_num, HI.out.1, HI.out.2.1, HI.out.2.2.1, HI.out.2.2.2, hT⟩
        case measure => simp [intOf]; omega

end Go.Proofs.YtfpfpmacobkmhaaGreatDoor
