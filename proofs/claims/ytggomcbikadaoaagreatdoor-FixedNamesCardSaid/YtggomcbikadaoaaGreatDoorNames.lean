/- besomlaw01.FixedNames: true, as long as the table that strconv reads holds what its initialiser laid. -/
import Derived.Test.YtggomcbikadaoaaGreatDoorAlive
import Derived.Test.YtggomcbikadaoaaGreatDoorMul
import Derived.Test.YtggomcbikadaoaaGreatDoorScale
import Derived.Test.YtggomcbikadaoaaGreatDoorRootf
import Derived.Test.YtggomcbikadaoaaGreatDoorLength
import Derived.Test.YtggomcbikadaoaaGreatDoorWithin
import Derived.Test.YtggomcbikadaoaaGreatDoorBackm
import Derived.Test.YtggomcbikadaoaaGreatDoorIntf
import Derived.Deep.Cut
namespace Go.Proofs.YtggomcbikadaoaaGreatDoor
open Go Go.RowKit

theorem n_int : intS (-98304) 0 = (-1, 0) ∧ intS (-98304) 1 = (-2, 0) ∧ intS (-98304) 2 = (-1, 0) ∧ intS (-98304) 3 = (-2, 0) := ⟨by kernel_rfl, by kernel_rfl, by kernel_rfl, by kernel_rfl⟩
theorem n_mul : mulS 1 1 0 = (0, 0) ∧ mulS 1 1 1 = (0, 0) ∧ mulS 1 1 2 = (1, 0) ∧ mulS 1 1 3 = (0, 0) := ⟨by kernel_rfl, by kernel_rfl, by kernel_rfl, by kernel_rfl⟩
theorem n_scale : scaleS 5 (-1) 2 0 = (-2, 0) ∧ scaleS 5 (-1) 2 1 = (-3, 0) ∧ scaleS 5 (-1) 2 2 = (-2, 0) ∧ scaleS 5 (-1) 2 3 = (-3, 0) := ⟨by kernel_rfl, by kernel_rfl, by kernel_rfl, by kernel_rfl⟩
theorem n_mul2 : mulS 70368744177664 131072 0 = (0, 4) := by kernel_rfl
theorem n_mul3 : mulS 1 1 4 = (0, 2) := by kernel_rfl
theorem n_read1 : readS [48, 46, 49] 1 = (6553, 0) := by kernel_rfl
theorem n_read2 : readS [45, 48] 0 = (0, 0) := by kernel_rfl
theorem n_read3 : readS [46, 53] 0 = (0, 5) := by kernel_rfl
theorem n_unit : unitS 0 0 = ((0, 0), 10) := by kernel_rfl
theorem n_in5 : withinS 3 4 5 = (true, 0) := by kernel_rfl
theorem n_in4 : withinS 3 4 4 = (false, 0) := by kernel_rfl
theorem n_less : rootfS (-1) 1 = (0, 11) := by
  unfold rootfS
  rw [if_pos ⟨by decide, by decide, by decide⟩, if_pos (by decide)]
theorem n_root : rootfS 131072 1 = (92681, 0) := by
  have h : isq 8589934592 = 92681 := isq_is (by decide) (by decide)
  unfold rootfS
  rw [if_pos ⟨by decide, by decide, by decide⟩, if_neg (by decide)]
  show (rootS 1 8589934592, (0 : Int)) = _
  unfold rootS
  rw [h]
  rfl
theorem n_len : lengthS 196608 262144 0 = (327680, 0) := by
  have h : isq 107374182400 = 327680 := isq_is (by decide) (by decide)
  have hs : sqS 196608 262144 = 107374182400 := by kernel_rfl
  have hr : rootS 0 107374182400 = 327680 := by
    unfold rootS
    rw [h]
    rfl
  unfold lengthS
  rw [hs, hr, if_pos ⟨⟨by decide, by decide⟩, by decide, by decide⟩, if_pos (by decide)]
theorem n_text1 : textL (-98304) = [45, 49, 46, 53] := by
  unfold textL
  rw [if_pos (by decide), show (-98304 : Int).natAbs / 65536 = 1 by decide, decDigits_small (by decide), show (-98304 : Int).natAbs % 65536 = 32768 by decide]
  kernel_rfl
theorem n_text2 : textL 1 = [48, 46, 48, 48, 48, 48, 49, 53, 50, 53, 56, 55, 56, 57, 48, 54, 50, 53] := by
  unfold textL
  rw [if_pos (by decide), show (1 : Int).natAbs / 65536 = 0 by decide, decDigits_small (by decide), show (1 : Int).natAbs % 65536 = 1 by decide]
  kernel_rfl
theorem n_text3 : textL 70368744177665 = [] := by
  unfold textL
  rw [if_neg (by decide)]

theorem n_eq0 (W : World) : Sem.run Tryz.prog (Op.equalIn 10000 26 (.agg #[.int .i64 (-1), .int .i64 (-2), .int .i64 (-1), .int .i64 (-2)]) (.agg #[.int .i64 (-1), .int .i64 (-2), .int .i64 (-1), .int .i64 (-2)])) W = .ok true W := by kernel_rfl
theorem n_eq1 (W : World) : Sem.run Tryz.prog (Op.equalIn 10000 27 (.agg #[.int .i64 (0), .int .i64 (0), .int .i64 (1), .int .i64 (0)]) (.agg #[.int .i64 (0), .int .i64 (0), .int .i64 (1), .int .i64 (0)])) W = .ok true W := by kernel_rfl
theorem n_eq2 (W : World) : Sem.run Tryz.prog (Op.equalIn 10000 27 (.agg #[.int .i64 (-2), .int .i64 (-3), .int .i64 (-2), .int .i64 (-3)]) (.agg #[.int .i64 (-2), .int .i64 (-3), .int .i64 (-2), .int .i64 (-3)])) W = .ok true W := by kernel_rfl

/-- An array of four numbers. -/
def Arr (b : Nat) (f : Nat → Int) (W : World) : Prop := ∀ j, j < 4 → W.cell? ⟨b, j, none⟩ = some (.int .i64 (f j)) ∧ W.frozen? ⟨b, j, none⟩ = false
theorem Arr.later {b : Nat} {f : Nat → Int} {W W' : World} (h : Arr b f W) (hb : Below W.heap.size W W') : Arr b f W' := fun j hj =>
  ⟨cell_later hb (h j hj).1, (hb.frozen (World.block_lt_of_cell? _ _ (h j hj).1)).trans (h j hj).2⟩
theorem Arr.other {b c k : Nat} {f : Nat → Int} {W : World} (h : Arr b f W) (hc : b ≠ c) (v : Value) : Arr b f (W.setCell ⟨c, k, none⟩ v) := fun j hj =>
  ⟨(World.cell?_setCell_other _ _ _ _ (by simp [hc])).trans (h j hj).1, by rw [World.frozen?_setCell]; exact (h j hj).2⟩
theorem Arr.put {b k : Nat} {f g : Nat → Int} {W : World} (h : Arr b f W) (hk : k < 4) (v : Int) (hg : ∀ j, j < 4 → g j = if j = k then v else f j) : Arr b g (W.setCell ⟨b, k, none⟩ (.int .i64 v)) := fun j hj => by
  rw [hg j hj, World.frozen?_setCell]
  refine ⟨?_, (h j hj).2⟩
  by_cases e : j = k
  · subst e
    rw [if_pos rfl]
    exact set_same _ (h j hj).1
  · rw [if_neg e]
    exact (World.cell?_setCell_other _ _ _ _ (by simp [e])).trans (h j hj).1
theorem Arr.congr {b : Nat} {f g : Nat → Int} {W : World} (h : Arr b f W) (hg : ∀ j, j < 4 → f j = g j) : Arr b g W := fun j hj => by rw [← hg j hj]; exact h j hj
theorem Arr.alloc {b : Nat} {f : Nat → Int} {W : World} (h : Arr b f W) (o : Obj) : Arr b f (W.alloc o) := fun j hj =>
  ⟨alloc_cell (h j hj).1, (frozen_alloc_l o (h j hj).1 (h j hj).2)⟩

/-- The law's memory. -/
def NW (fi fm fs : Nat → Int) (w W : World) : Prop := Arr w.heap.size fi W ∧ Arr (w.heap.size + 1) fm W ∧ Arr (w.heap.size + 1 + 1) fs W ∧ Below w.heap.size w W
theorem NW.later {fi fm fs : Nat → Int} {w W W' : World} (h : NW fi fm fs w W) (hb : Below W.heap.size W W') : NW fi fm fs w W' := ⟨h.1.later hb, h.2.1.later hb, h.2.2.1.later hb, kc h.2.2.2 hb⟩
theorem NW.alloc {fi fm fs : Nat → Int} {w W : World} (h : NW fi fm fs w W) (o : Obj) : NW fi fm fs w (W.alloc o) := ⟨h.1.alloc o, h.2.1.alloc o, h.2.2.1.alloc o, ka h.2.2.2 o⟩

/-- The first so many of them. -/
def upTo (k : Nat) (f : Int → Int × Int) (j : Nat) : Int := if j < k then (f j).1 else 0
theorem upTo_succ (k : Nat) (f : Int → Int × Int) (j : Nat) : upTo (k + 1) f j = if j = k then (f k).1 else upTo k f j := by
  unfold upTo
  by_cases h : j = k
  · subst h
    rw [if_pos (by omega), if_pos rfl]
  · rw [if_neg h]
    by_cases h' : j < k
    · rw [if_pos h', if_pos (by omega)]
    · rw [if_neg h', if_neg (by omega)]

/-- What the law's loop leaves. -/
def NF (w W : World) : Prop := NW (fun j => [-1, -2, -1, -2].getD j 0) (fun j => [0, 0, 1, 0].getD j 0) (fun j => [-2, -3, -2, -3].getD j 0) w W
theorem NF.later {w W W' : World} (h : NF w W) (hb : Below W.heap.size W W') : NF w W' := NW.later h hb
theorem NF.alloc {w W : World} (h : NF w W) (o : Obj) : NF w (W.alloc o) := NW.alloc h o
theorem NF.bel {w W : World} (h : NF w W) : Below w.heap.size w W := (show NW _ _ _ w W from h).2.2.2
theorem NF.cells {w W : World} (h : NF w W) : (W.cell? ⟨w.heap.size, 0, none⟩ = some (.int .i64 (-1)) ∧ W.cell? ⟨w.heap.size, 1, none⟩ = some (.int .i64 (-2)) ∧ W.cell? ⟨w.heap.size, 2, none⟩ = some (.int .i64 (-1)) ∧ W.cell? ⟨w.heap.size, 3, none⟩ = some (.int .i64 (-2)) ∧ W.cell? ⟨w.heap.size + 1, 0, none⟩ = some (.int .i64 (0)) ∧ W.cell? ⟨w.heap.size + 1, 1, none⟩ = some (.int .i64 (0)) ∧ W.cell? ⟨w.heap.size + 1, 2, none⟩ = some (.int .i64 (1)) ∧ W.cell? ⟨w.heap.size + 1, 3, none⟩ = some (.int .i64 (0)) ∧ W.cell? ⟨w.heap.size + 1 + 1, 0, none⟩ = some (.int .i64 (-2)) ∧ W.cell? ⟨w.heap.size + 1 + 1, 1, none⟩ = some (.int .i64 (-3)) ∧ W.cell? ⟨w.heap.size + 1 + 1, 2, none⟩ = some (.int .i64 (-2)) ∧ W.cell? ⟨w.heap.size + 1 + 1, 3, none⟩ = some (.int .i64 (-3))) := by
  obtain ⟨a, b, c, _⟩ := h
  exact ⟨(a 0 (by omega)).1, (a 1 (by omega)).1, (a 2 (by omega)).1, (a 3 (by omega)).1, (b 0 (by omega)).1, (b 1 (by omega)).1, (b 2 (by omega)).1, (b 3 (by omega)).1, (c 0 (by omega)).1, (c 1 (by omega)).1, (c 2 (by omega)).1, (c 3 (by omega)).1⟩
theorem names_loop {w W : World} (h : NW (upTo 4 (intS (-98304))) (upTo 4 (mulS 1 1)) (upTo 4 (scaleS 5 (-1) 2)) w W) : NF w W := by
  obtain ⟨i0, i1, i2, i3⟩ := n_int
  obtain ⟨m0, m1, m2, m3⟩ := n_mul
  obtain ⟨s0, s1, s2, s3⟩ := n_scale
  refine ⟨h.1.congr ?_, h.2.1.congr ?_, h.2.2.1.congr ?_, h.2.2.2⟩
  · intro j hj
    rcases j with _ | _ | _ | _ | j
    · exact congrArg (·.1) i0
    · exact congrArg (·.1) i1
    · exact congrArg (·.1) i2
    · exact congrArg (·.1) i3
    · omega
  · intro j hj
    rcases j with _ | _ | _ | _ | j
    · exact congrArg (·.1) m0
    · exact congrArg (·.1) m1
    · exact congrArg (·.1) m2
    · exact congrArg (·.1) m3
    · omega
  · intro j hj
    rcases j with _ | _ | _ | _ | j
    · exact congrArg (·.1) s0
    · exact congrArg (·.1) s1
    · exact congrArg (·.1) s2
    · exact congrArg (·.1) s3
    · omega

set_option maxRecDepth 100000 in
set_option maxHeartbeats 4000000 in
theorem names_any (w : World) (ht : TabHere w) : Calls Tryz.prog 3 #[] w fun e w' => e = .returned (.bool true) ∧ Below w.heap.size w w' := by
  have HT := Lib.hid ht
  have CA := Lib.hid (fun w => alive_any w)
  have CO := Lib.hid (fun w => of_three w)
  have CI := Lib.hid (fun (k : Nat) w => int_any (-98304) k w)
  have CM := Lib.hid (fun (k : Nat) w => mul_any 1 1 k w)
  have CS := Lib.hid (fun (k : Nat) w => scale_any 5 (-1) 2 k w)
  clear ht
  go_enter Tryz.func3, Tryz.ntmps3
  go_wp2_with (go_at_call 4; refine (CO.out _).mono ?_; rintro e w' ⟨rfl, rfl⟩)
  have hS : Hid (NW (upTo 0 (intS (-98304))) (upTo 0 (mulS 1 1)) (upTo 0 (scaleS 5 (-1) 2)) w (((w.alloc (.cells #[.int .i64 0, .int .i64 0, .int .i64 0, .int .i64 0] 26)).alloc (.cells #[.int .i64 0, .int .i64 0, .int .i64 0, .int .i64 0] 27)).alloc (.cells #[.int .i64 0, .int .i64 0, .int .i64 0, .int .i64 0] 27))) := by
    refine ⟨fun j hj => ?_, fun j hj => ?_, fun j hj => ?_, ka (ka (ka (Below.refl _ _) _) _) _⟩ <;> rcases j with _ | _ | _ | _ | j <;> first | omega | exact ⟨by simp [go_sem, upTo], by simp [go_sem]⟩
  go_loopw [35] (fun i wr => ∃ k : Nat, k ≤ 4 ∧ i = .int .i64 k ∧ Hid (NW (upTo k (intS (-98304))) (upTo k (mulS 1 1)) (upTo k (scaleS 5 (-1) 2)) w wr)) (fun i _ => 4 - (intOf i).toNat)
  case atStart => exact ⟨0, by omega, rfl, hS⟩
  case round =>
    obtain ⟨k, hk, rfl, hI⟩ := hrel
    clear hS
    by_cases hlt : k < 4
    · obtain ⟨hA, hM, hZ, hB⟩ := hI.out
      obtain ⟨i1, e1⟩ : ∃ r, intS (-98304) k = r := ⟨_, rfl⟩
      obtain ⟨m1, e2⟩ : ∃ r, mulS 1 1 k = r := ⟨_, rfl⟩
      obtain ⟨s1, e3⟩ : ∃ r, scaleS 5 (-1) 2 k = r := ⟨_, rfl⟩
      have C1 := CI.out k
      rw [e1] at C1
      have C2 := CM.out k
      rw [e2] at C2
      have C3 := CS.out k
      rw [e3] at C3
      have D1 := Lib.hid C1
      have D2 := Lib.hid C2
      have D3 := Lib.hid C3
      have K1 := Lib.hid e1
      have K2 := Lib.hid e2
      have K3 := Lib.hid e3
      have HA := Lib.hid hA
      have HM := Lib.hid hM
      have HZ := Lib.hid hZ
      clear C1 C2 C3 e1 e2 e3 hk hI hA hM hZ
      go_wp2_with (first | (go_at_call 5; refine (D1.out _).mono ?_; rintro e w1 ⟨rfl, hb1⟩; have A1 := HA.out.later hb1; have c1 := (A1 k hlt).1; have f1 := (A1 k hlt).2) | (go_at_call 6; refine (D2.out _).mono ?_; rintro e w2 ⟨rfl, hb2⟩; have M2 := ((HM.out.later hb1).other (by omega) _).later hb2; have c2 := (M2 k hlt).1; have f2 := (M2 k hlt).2) | (go_at_call 7; refine (D3.out _).mono ?_; rintro e w3 ⟨rfl, hb3⟩; have Z3 := ((((HZ.out.later hb1).other (by omega) _).later hb2).other (by omega) _).later hb3; have c3 := (Z3 k hlt).1; have f3 := (Z3 k hlt).2))
      go_roundw
      case rel =>
        refine ⟨k + 1, by omega, by go_num, ?_⟩
        show NW _ _ _ _ _
        refine ⟨((((A1.put hlt i1.1 ?_).later hb2).other (by omega) _).later hb3).other (by omega) _, ((M2.put hlt m1.1 ?_).later hb3).other (by omega) _, Z3.put hlt s1.1 ?_, ?_⟩
        · intro j _
          rw [upTo_succ, K1.out]
        · intro j _
          rw [upTo_succ, K2.out]
        · intro j _
          rw [upTo_succ, K3.out]
        · exact (kc ((kc ((kc hB hb1).setCell (by simp) _) hb2).setCell (by simp) _) hb3).setCell (by simp; omega) _
      case measure => simp [intOf]; omega
    · obtain rfl : k = 4 := by omega
      have hN : Hid (NF w wr) := names_loop hI.out
      clear hI hk CI CM CS
      have R1 := Lib.hid (fun w => rootf_any 131072 1 w)
      have R2 := Lib.hid (fun w => rootf_any (-1) 1 w)
      have T1 := Lib.hid (fun w => read_any [48, 46, 49] 1 w)
      have T2 := Lib.hid (fun w => read_any [45, 48] 0 w)
      have T3 := Lib.hid (fun w => read_any [46, 53] 0 w)
      have L1 := Lib.hid (fun w => length_any 196608 262144 0 w)
      have I5 := Lib.hid (fun w => within_any 3 4 5 w)
      have I4 := Lib.hid (fun w => within_any 3 4 4 w)
      have U0 := Lib.hid (fun w => unit_any 0 0 w)
      have M1 := Lib.hid (fun w => mul_any 70368744177664 131072 0 w)
      have M2 := Lib.hid (fun w => mul_any 1 1 4 w)
      rw [n_root] at R1
      rw [n_less] at R2
      rw [n_read1] at T1
      rw [n_read2] at T2
      rw [n_read3] at T3
      rw [n_len] at L1
      rw [n_in5] at I5
      rw [n_in4] at I4
      rw [n_unit] at U0
      rw [n_mul2] at M1
      rw [n_mul3] at M2
      go_upto_region 13 with (go_at_call 8; refine (R1.out _).mono ?_; rintro e w1 ⟨rfl, hb⟩; (first | replace hN : Hid (NF w _) := hN.out.later hb | replace hN : Hid (NF w _) := (hN.out.alloc _).later hb))
      go_upto_region 14 with (go_at_call 8; refine (R2.out _).mono ?_; rintro e w2 ⟨rfl, hb⟩; (first | replace hN : Hid (NF w _) := hN.out.later hb | replace hN : Hid (NF w _) := (hN.out.alloc _).later hb))
      go_upto_region 15 with (go_at_call 9; refine (T1.out _).mono ?_; rintro e w3 ⟨rfl, hb⟩; (first | replace hN : Hid (NF w _) := hN.out.later hb | replace hN : Hid (NF w _) := (hN.out.alloc _).later hb))
      go_upto_region 16 with (go_at_call 9; refine (T2.out _).mono ?_; rintro e w4 ⟨rfl, hb⟩; (first | replace hN : Hid (NF w _) := hN.out.later hb | replace hN : Hid (NF w _) := (hN.out.alloc _).later hb))
      go_upto_region 17 with (go_at_call 9; refine (T3.out _).mono ?_; rintro e w5 ⟨rfl, hb⟩; (first | replace hN : Hid (NF w _) := hN.out.later hb | replace hN : Hid (NF w _) := (hN.out.alloc _).later hb))
      go_upto_region 18 with (go_at_call 10; refine (L1.out _).mono ?_; rintro e w6 ⟨rfl, hb⟩; (first | replace hN : Hid (NF w _) := hN.out.later hb | replace hN : Hid (NF w _) := (hN.out.alloc _).later hb))
      go_upto_region 19 with (go_at_call 11; refine (I5.out _).mono ?_; rintro e w7 ⟨rfl, hb⟩; (first | replace hN : Hid (NF w _) := hN.out.later hb | replace hN : Hid (NF w _) := (hN.out.alloc _).later hb))
      go_upto_region 20 with (go_at_call 11; refine (I4.out _).mono ?_; rintro e w8 ⟨rfl, hb⟩; (first | replace hN : Hid (NF w _) := hN.out.later hb | replace hN : Hid (NF w _) := (hN.out.alloc _).later hb))
      go_upto_region 21 with (go_at_call 12; refine (U0.out _).mono ?_; rintro e w9 ⟨rfl, hb⟩; (first | replace hN : Hid (NF w _) := hN.out.later hb | replace hN : Hid (NF w _) := (hN.out.alloc _).later hb))
      go_upto_region 22 with (go_at_call 6; refine (M1.out _).mono ?_; rintro e w10 ⟨rfl, hb⟩; (first | replace hN : Hid (NF w _) := hN.out.later hb | replace hN : Hid (NF w _) := (hN.out.alloc _).later hb))
      go_upto_region 23 with (go_at_call 6; refine (M2.out _).mono ?_; rintro e w11 ⟨rfl, hb⟩; (first | replace hN : Hid (NF w _) := hN.out.later hb | replace hN : Hid (NF w _) := (hN.out.alloc _).later hb))
      obtain ⟨i0, i1, i2, i3, m0, m1, m2, m3, s0, s1, s2, s3⟩ := hN.out.cells
      have E0 := n_eq0
      have E1 := n_eq1
      have E2 := n_eq2
      go_upto_region 24 with fail
      have X1 : Hid (∀ W, TabHere W → Calls Tryz.prog 13 #[.int .i64 (-98304)] W fun e w' => e = .returned (.string ⟨#[45, 49, 46, 53]⟩) ∧ Below W.heap.size W w') := fun W h => by have := text_any (-98304) W h; rw [n_text1] at this; exact this
      have X2 : Hid (∀ W, TabHere W → Calls Tryz.prog 13 #[.int .i64 1] W fun e w' => e = .returned (.string ⟨#[48, 46, 48, 48, 48, 48, 49, 53, 50, 53, 56, 55, 56, 57, 48, 54, 50, 53]⟩) ∧ Below W.heap.size W w') := fun W h => by have := text_any 1 W h; rw [n_text2] at this; exact this
      have X3 : Hid (∀ W, TabHere W → Calls Tryz.prog 13 #[.int .i64 70368744177665] W fun e w' => e = .returned (.string ⟨#[]⟩) ∧ Below W.heap.size W w') := fun W h => by have := text_any 70368744177665 W h; rw [n_text3] at this; exact this
      clear i0 i1 i2 i3 m0 m1 m2 m3 s0 s1 s2 s3 R1 R2 T1 T2 T3 L1 I5 I4 U0 M1 M2 E0 E1 E2
      go_upto_region 25 with (first | ((go_at_call 13; (with_reducible refine (X1.out _ (HT.out.on hN.out.bel)).mono ?_); rintro e w12 ⟨rfl, hb⟩; (first | replace hN : Hid (NF w _) := hN.out.later hb | replace hN : Hid (NF w _) := (hN.out.alloc _).later hb))) | ((go_at_call 13; (with_reducible refine (X2.out _ (HT.out.on hN.out.bel)).mono ?_); rintro e w13 ⟨rfl, hb⟩; (first | replace hN : Hid (NF w _) := hN.out.later hb | replace hN : Hid (NF w _) := (hN.out.alloc _).later hb))) | ((go_at_call 13; (with_reducible refine (X3.out _ (HT.out.on hN.out.bel)).mono ?_); rintro e w14 ⟨rfl, hb⟩; (first | replace hN : Hid (NF w _) := hN.out.later hb | replace hN : Hid (NF w _) := (hN.out.alloc _).later hb))))
      go_wp2_with ((go_at_call 14; refine (CA.out _).mono ?_; rintro e w15 ⟨rfl, hb⟩; (first | replace hN : Hid (NF w _) := hN.out.later hb | replace hN : Hid (NF w _) := (hN.out.alloc _).later hb)))
      go_ret
      exact ⟨rfl, hN.out.bel⟩

end Go.Proofs.YtggomcbikadaoaaGreatDoor
