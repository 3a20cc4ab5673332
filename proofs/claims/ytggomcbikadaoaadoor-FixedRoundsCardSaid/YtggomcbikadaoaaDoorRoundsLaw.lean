/- besomlaw01.FixedRounds: true, whatever the numbers. -/
import Derived.Test.YtggomcbikadaoaaDoorRounds
import Derived.Test.YtggomcbikadaoaaDoorRead
import Derived.Laws.EntriesVeiled
namespace Go.Proofs.YtggomcbikadaoaaDoor
open Go Go.RowKit

theorem root_four (a : Int) (hv : Vld a) (ha : ¬ a < 0) :
    Together (rootS 0 (a.natAbs * 65536)) (rootS 1 (a.natAbs * 65536)) (rootS 2 (a.natAbs * 65536)) (rootS 3 (a.natAbs * 65536)) ∧
    (rootfS a 0 = (rootS 0 (a.natAbs * 65536), 0) ∧ rootfS a 1 = (rootS 1 (a.natAbs * 65536), 0) ∧ rootfS a 2 = (rootS 2 (a.natAbs * 65536), 0) ∧ rootfS a 3 = (rootS 3 (a.natAbs * 65536), 0)) ∧
    -70368744177664 ≤ rootS 2 (a.natAbs * 65536) ∧ rootS 2 (a.natAbs * 65536) ≤ 70368744177664 ∧ 0 ≤ rootS 1 (a.natAbs * 65536) := by
  have g2 := rootS_vld a 2 hv
  have g1 := rootS_vld a 1 hv
  refine ⟨?_, ⟨?_, ?_, ?_, ?_⟩, g2.1.1, g2.1.2, g1.2⟩
  · have h0 := isq_le (a.natAbs * 65536)
    obtain ⟨V, hV⟩ : ∃ V, a.natAbs * 65536 = V := ⟨_, rfl⟩
    rw [hV] at h0 ⊢
    obtain ⟨q, hq⟩ : ∃ q, isq V = q := ⟨_, rfl⟩
    unfold Together rootS
    rw [hq] at h0 ⊢
    have e2 : ((q : Int) * q) = ((q * q : Nat) : Int) := by rw [Int.natCast_mul]
    rw [e2]
    obtain ⟨r, hr⟩ : ∃ r : Int, (V : Int) - ((q * q : Nat) : Int) = r := ⟨_, rfl⟩
    have r0 : 0 ≤ r := by omega
    rw [hr]
    by_cases x : 0 < r <;> by_cases y : 2 * (q : Int) + 1 - r ≤ r <;> simp [upB, x, y] <;> omega
  · unfold rootfS; rw [if_pos ⟨hv, by omega, by omega⟩, if_neg ha]
  · unfold rootfS; rw [if_pos ⟨hv, by omega, by omega⟩, if_neg ha]
  · unfold rootfS; rw [if_pos ⟨hv, by omega, by omega⟩, if_neg ha]
  · unfold rootfS; rw [if_pos ⟨hv, by omega, by omega⟩, if_neg ha]

theorem root_bad (a : Int) (h : ¬ (Vld a ∧ ¬ a < 0)) : ¬ ((rootfS a 0).2 = 0 ∧ (rootfS a 1).2 = 0 ∧ (rootfS a 2).2 = 0 ∧ (rootfS a 3).2 = 0) := by
  intro ⟨h0, _⟩
  unfold rootfS at h0
  by_cases hv : Vld a
  · rw [if_pos ⟨hv, by omega, by omega⟩, if_pos (Classical.not_not.1 fun hn => h ⟨hv, hn⟩)] at h0
    exact absurd h0 (by decide)
  · rw [if_neg (fun hx => hv hx.1)] at h0
    exact absurd h0 (by decide)

/-- What the law's loop keeps: the boxes, the list of the function values. -/
def RI (a b num den : Int) (H B : Nat) (w W : World) : Prop :=
  RBox a b num den H W ∧ (∀ j, j < 3 → W.cell? ⟨B, j, none⟩ = some (fv H j)) ∧ Below w.heap.size w W
theorem RI.later {a b num den : Int} {H B : Nat} {w W W' : World} (h : RI a b num den H B w W) (hb : Below W.heap.size W W') : RI a b num den H B w W' :=
  ⟨h.1.later hb, fun j hj => cell_later hb (h.2.1 j hj), kc h.2.2 hb⟩
theorem RI.alloc {a b num den : Int} {H B : Nat} {w W : World} (h : RI a b num den H B w W) (o : Obj) : RI a b num den H B w (W.alloc o) :=
  ⟨h.1.alloc o, fun j hj => alloc_cell (h.2.1 j hj), ka h.2.2 o⟩

set_option maxRecDepth 100000 in
set_option maxHeartbeats 4000000 in
theorem rounds_any (a b num den : Int) (w : World) :
    Calls Tryd.prog 3 #[.int .i64 a, .int .i64 b, .int .i64 num, .int .i64 den] w fun e w' => e = .returned (.bool true) ∧ Below w.heap.size w w' := by
  have hmf : ∀ (fn : Fn) (first cap : Array Value) (w : World), (Instr.makeFunc fn first cap).run Tryd.prog w = .ok (.func fn first cap) w := fun _ _ _ _ => rfl
  have CA := Lib.hid (fun w => alive_any w)
  obtain ⟨H, hH⟩ : ∃ H, w.heap.size = H := ⟨_, rfl⟩
  go_enter Tryd.func3, Tryd.ntmps3
  go_upto_region 2 with (go_at_call 5; refine (CA.out _).mono ?_; rintro e w1 ⟨rfl, hb1⟩)
  have hbox : RBox a b num den H w1 := by
    subst hH
    exact RBox.later ⟨by simp [go_sem], by simp [go_sem], by simp [go_sem], by simp [go_sem]⟩ hb1
  have hB1 : Below w.heap.size w w1 := kc (ka (ka (ka (ka (Below.refl w.heap.size w) _) _) _) _) hb1
  clear hb1
  go_wp2_with fail
  obtain ⟨B, hB⟩ : ∃ B, w1.heap.size = B := ⟨_, rfl⟩
  have hS : Hid (RI a b num den H B w (w1.alloc (.cells #[fv H 0, fv H 1, fv H 2] 27))) := by
    refine ⟨hbox.alloc _, fun j hj => ?_, ka hB1 _⟩
    subst hB
    rcases j with _ | _ | _ | j
    · simp [go_sem]
    · simp [go_sem]
    · simp [go_sem]
    · omega
  clear hbox hB1
  rw [hB]
  go_loopw [28] (fun i wr => ∃ k : Nat, k ≤ 3 ∧ i = .int .i64 k ∧ Hid (RI a b num den H B w wr)) (fun i _ => 3 - (intOf i).toNat)
  case atStart => exact ⟨0, by omega, rfl, hS⟩
  case round =>
    obtain ⟨k, hk, rfl, hI⟩ := hrel
    clear hS
    by_cases hlt : k < 3
    · have hcell := hI.out.2.1 k hlt
      obtain ⟨K, hK⟩ : ∃ K, rK k = K := ⟨_, rfl⟩
      obtain ⟨C, hC⟩ : ∃ C, rC H k = C := ⟨_, rfl⟩
      have hfv : fv H k = .func (.func K) #[] C := by unfold fv; rw [hK, hC]
      rw [hfv] at hcell
      have HF := Lib.hid hfv
      have hI1 : Hid (RI a b num den H B w (wr.alloc (.cells #[.func (.func K) #[] C] 27))) := hI.out.alloc _
      have hcc : Hid ((wr.alloc (.cells #[.func (.func K) #[] C] 27)).cell? ⟨wr.heap.size, 0, none⟩ = some (fv H k)) := by
        show _ = _
        rw [hfv]; simp [go_sem]
      clear hk hI hfv hK hC
      by_cases hall : (rS k b num den a 0).2 = 0 ∧ (rS k b num den a 1).2 = 0 ∧ (rS k b num den a 2).2 = 0 ∧ (rS k b num den a 3).2 = 0
      · obtain ⟨x, v0, v1, v2, v3, m0, m1, m2, m3, hx, hs, ht, ⟨n0, n3, n1, n2⟩, tog, u0, u1⟩ := rS_round k hlt a b num den hall
        have HS := Lib.hid hs
        have HT := Lib.hid ht
        have HX := Lib.hid hx
        have HO := Lib.hid (fun W => ordered_any v0 v1 v2 v3 W tog (by omega) (by omega))
        clear hs ht hx tog u0 u1 hall
        go_upto_region 10 with (go_at_call 12; refine (four_4 k hlt a b num den v0 v1 v2 v3 H wr.heap.size _ hI1.out.1 hcc.out HS.out.1 HS.out.2.1 HS.out.2.2.1 HS.out.2.2.2).mono ?_; rintro e w2 ⟨rfl, hb2⟩)
        have hI2 : Hid (RI a b num den H B w (w2.alloc (.cells #[.int .i64 v0, .int .i64 v1, .int .i64 v2, .int .i64 v3] 30))) := (hI1.out.later hb2).alloc _
        have hc2 : Hid ((w2.alloc (.cells #[.int .i64 v0, .int .i64 v1, .int .i64 v2, .int .i64 v3] 30)).cell? ⟨wr.heap.size, 0, none⟩ = some (fv H k)) := alloc_cell (cell_later hb2 hcc.out)
        clear hI1 hcc hb2 hcell HS
        go_upto_region 11 with (go_at_call 12; refine (four_5 k hlt a x b num den m0 m1 m2 m3 H wr.heap.size _ HX.out hI2.out.1 hc2.out HT.out.1 HT.out.2.1 HT.out.2.2.1 HT.out.2.2.2).mono ?_; rintro e w3 ⟨rfl, hb3⟩)
        have hI3 : Hid (RI a b num den H B w (w3.alloc (.cells #[.int .i64 m0, .int .i64 m1, .int .i64 m2, .int .i64 m3] 30))) := (hI2.out.later hb3).alloc _
        have a0 : w3.cell? ⟨w2.heap.size, 0, none⟩ = some (.int .i64 v0) := cell_later hb3 (by simp [go_sem])
        have a1 : w3.cell? ⟨w2.heap.size, 1, none⟩ = some (.int .i64 v1) := cell_later hb3 (by simp [go_sem])
        have a2 : w3.cell? ⟨w2.heap.size, 2, none⟩ = some (.int .i64 v2) := cell_later hb3 (by simp [go_sem])
        have a3 : w3.cell? ⟨w2.heap.size, 3, none⟩ = some (.int .i64 v3) := cell_later hb3 (by simp [go_sem])
        have ga := World.block_lt_of_cell? _ _ a0
        obtain ⟨p0, p1, p2, p3⟩ : (w3.alloc (.cells #[.int .i64 m0, .int .i64 m1, .int .i64 m2, .int .i64 m3] 30)).cell? ⟨w3.heap.size, 0, none⟩ = some (.int .i64 m0) ∧ (w3.alloc (.cells #[.int .i64 m0, .int .i64 m1, .int .i64 m2, .int .i64 m3] 30)).cell? ⟨w3.heap.size, 1, none⟩ = some (.int .i64 m1) ∧ (w3.alloc (.cells #[.int .i64 m0, .int .i64 m1, .int .i64 m2, .int .i64 m3] 30)).cell? ⟨w3.heap.size, 2, none⟩ = some (.int .i64 m2) ∧ (w3.alloc (.cells #[.int .i64 m0, .int .i64 m1, .int .i64 m2, .int .i64 m3] 30)).cell? ⟨w3.heap.size, 3, none⟩ = some (.int .i64 m3) := ⟨by simp [go_sem], by simp [go_sem], by simp [go_sem], by simp [go_sem]⟩
        have q0 := alloc_cell (o := .cells #[.int .i64 m0, .int .i64 m1, .int .i64 m2, .int .i64 m3] 30) a0
        have q1 := alloc_cell (o := .cells #[.int .i64 m0, .int .i64 m1, .int .i64 m2, .int .i64 m3] 30) a1
        have q2 := alloc_cell (o := .cells #[.int .i64 m0, .int .i64 m1, .int .i64 m2, .int .i64 m3] 30) a2
        have q3 := alloc_cell (o := .cells #[.int .i64 m0, .int .i64 m1, .int .i64 m2, .int .i64 m3] 30) a3
        clear hI2 hc2 hb3 HX HT
        go_wp2_with (go_at_call 15; refine (HO.out _).mono ?_; rintro e w4 ⟨rfl, hb4⟩; replace p0 := cell_later hb4 p0; replace q0 := cell_later hb4 q0; replace p1 := cell_later hb4 p1; replace q1 := cell_later hb4 q1; replace p2 := cell_later hb4 p2; replace q2 := cell_later hb4 q2; replace p3 := cell_later hb4 p3; replace q3 := cell_later hb4 q3)
        go_roundw
        case rel => exact ⟨k + 1, by omega, by go_num, hI3.out.later hb4⟩
        case measure => simp [intOf]; omega
      · go_wp2_with (go_at_call 12; refine (four_4_bad k hlt a b num den H wr.heap.size _ hI1.out.1 hcc.out hall).mono ?_; rintro e w2 ⟨l0, l1, l2, l3, rfl, hb2⟩)
        go_roundw
        case rel => exact ⟨k + 1, by omega, by go_num, (hI1.out.later hb2).alloc _⟩
        case measure => simp [intOf]; omega
    · obtain rfl : k = 3 := by omega
      have hroot := hI.out.1.1
      have hBw := Lib.hid hI.out.2.2
      clear hI hk
      by_cases hr : Vld a ∧ ¬ a < 0
      · obtain ⟨tog, hs, u0, u1, d0⟩ := root_four a hr.1 hr.2
        obtain ⟨v0, e0⟩ : ∃ v, rootS 0 (a.natAbs * 65536) = v := ⟨_, rfl⟩
        obtain ⟨v1, e1⟩ : ∃ v, rootS 1 (a.natAbs * 65536) = v := ⟨_, rfl⟩
        obtain ⟨v2, e2⟩ : ∃ v, rootS 2 (a.natAbs * 65536) = v := ⟨_, rfl⟩
        obtain ⟨v3, e3⟩ : ∃ v, rootS 3 (a.natAbs * 65536) = v := ⟨_, rfl⟩
        rw [e0, e1, e2, e3] at tog hs
        rw [e2] at u0 u1
        rw [e1] at d0
        have HS := Lib.hid hs
        have HO := Lib.hid (fun W => ordered_any v0 v1 v2 v3 W tog (by omega) (by omega))
        clear hs tog u0 u1 e0 e1 e2 e3 hr
        go_upto_region 15 with (go_at_call 12; refine (four_6 a v0 v1 v2 v3 H _ hroot HS.out.1 HS.out.2.1 HS.out.2.2.1 HS.out.2.2.2).mono ?_; rintro e w2 ⟨rfl, hb2⟩)
        have q1 : (w2.alloc (.cells #[.int .i64 v0, .int .i64 v1, .int .i64 v2, .int .i64 v3] 30)).cell? ⟨w2.heap.size, 1, none⟩ = some (.int .i64 v1) := by simp [go_sem]
        go_wp2_with (go_at_call 15; refine (HO.out _).mono ?_; rintro e w4 ⟨rfl, hb4⟩; replace q1 := cell_later hb4 q1)
        go_ret
        exact ⟨rfl, kc (ka (kc hBw.out hb2) _) hb4⟩
      · have hbad : ¬ ((rootfS a 0).2 = 0 ∧ (rootfS a 1).2 = 0 ∧ (rootfS a 2).2 = 0 ∧ (rootfS a 3).2 = 0) := root_bad a hr
        go_wp2_with (go_at_call 12; refine (four_6_bad a H _ hroot hbad).mono ?_; rintro e w2 ⟨l0, l1, l2, l3, rfl, hb2⟩)
        go_ret
        exact ⟨rfl, ka (kc hBw.out hb2) _⟩

end Go.Proofs.YtggomcbikadaoaaDoor
