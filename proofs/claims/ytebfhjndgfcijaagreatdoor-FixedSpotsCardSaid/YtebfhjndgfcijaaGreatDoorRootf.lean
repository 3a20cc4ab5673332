/- The contract of package fixed's wholeRoot: the whole root of a number below 2 to the power of 94. -/
import Derived.Test.YtebfhjndgfcijaaGreatDoorIsq
import Derived.Test.YtebfhjndgfcijaaGreatDoorWide
import Derived.Test.YtebfhjndgfcijaaGreatDoorDiv
import Derived.Test.YtebfhjndgfcijaaGreatDoorNeeds
import Derived.Test.YtebfhjndgfcijaaGreatDoorRead
import Derived.Test.YtebfhjndgfcijaaGreatDoorOvs
import Derived.Test.YtebfhjndgfcijaaGreatDoorShelf
namespace Go.Proofs.YtebfhjndgfcijaaGreatDoor
open Go Go.RowKit

/-- What the loop keeps: the number in its box; all that is older. -/
def RootW (h l : Nat) (w W : World) : Prop :=
  (W.cell? ⟨w.heap.size, 0, none⟩ = some (.int .i64 h) ∧ W.cell? ⟨w.heap.size, 1, none⟩ = some (.int .u64 l)) ∧ Below w.heap.size w W

theorem bits_step {n : Nat} (hn : n ≤ 64) : wrap64 ((n : Int) + 1) = (n : Int) + 1 ∧ wrap64 (64 + (n : Int)) = (n : Int) + 64 ∧ wrap64 ((n : Int) + 64 + 1) = (n : Int) + 65 := by
  unfold wrap64
  omega
theorem bits_small {k : Nat} (hk : k ≤ 47) : wrap64 (k : Int) = k := by
  unfold wrap64
  omega
theorem half_one {n k : Nat} (hk : k = (n + 1) / 2) : ((n : Int) + 1).tdiv 2 = k := by
  rw [Int.tdiv_eq_ediv_of_nonneg (by omega)]
  omega
theorem half_two {n k : Nat} (hk : k = (n + 65) / 2) : ((n : Int) + 65).tdiv 2 = k := by
  rw [Int.tdiv_eq_ediv_of_nonneg (by omega)]
  omega

theorem root_above {V h l R : Nat} (hV : V = h * 18446744073709551616 + l) (h0 : 0 < h) (h1 : h < 1073741824) (hR : V < (R + 1) * (R + 1)) : h < R := by
  rcases Nat.lt_or_ge h R with h' | h'
  · exact h'
  · have := sq_mono (show R + 1 ≤ 1073741824 by omega)
    omega

theorem root_pos {V R q : Nat} (h0 : 0 < R) (hV : 0 < V) (hq : V / R = q) : 0 < (R + q) / 2 := by
  rcases Nat.lt_or_ge 1 R with h | h
  · omega
  · have : R = 1 := by omega
    subst this
    rw [Nat.div_one] at hq
    omega

theorem drawn_below {B : Nat} (w : World) (n : Nat) (_h : B ≤ w.heap.size) : Below B w (w.drewN n) := ⟨rfl, rfl, rfl, Nat.le_refl _, fun _ _ => rfl⟩

theorem RootW.later {h l : Nat} {w W W' : World} (hW : RootW h l w W) (hb : Below W.heap.size W W') : RootW h l w W' :=
  ⟨⟨cell_later hb hW.1.1, cell_later hb hW.1.2⟩, hW.2.trans (hb.mono hW.2.size)⟩

theorem root_quo {V R : Nat} (hR : V < (R + 1) * (R + 1)) : V / R ≤ R + 2 := by
  have h : (R + 1) * (R + 1) = (R + 2) * R + 1 := by grind
  have := Nat.div_le_of_le_mul (show V ≤ R * (R + 2) by rw [Nat.mul_comm]; omega)
  exact this

set_option maxRecDepth 100000 in
set_option maxHeartbeats 1000000 in
theorem whole_one (V h l n k R0 : Nat) (w : World) (hV : V = h * 18446744073709551616 + l) (h0 : 0 < V) (h1 : h < 1073741824) (h2 : l < 18446744073709551616) (hn : n ≤ 64) (hk : k = (n + 1) / 2) (hk1 : k ≤ 47)
    (cl : ∀ w, Calls Tryz.prog 142 #[.int .u64 l] w fun e w' => e = .returned (.int .i64 n) ∧ w' = w)
    
    (hR : 2 ^ k = R0) (hR1 : 0 < R0) (hR2 : R0 < 281474976710656) (hR3 : V < (R0 + 1) * (R0 + 1)) (hz : h = 0) :
    Calls Tryz.prog 126 #[.agg #[.int .i64 h, .int .u64 l]] w fun e w' => e = .returned (.int .i64 (isq V)) ∧ Below w.heap.size w w' := by
  subst hz
  have hl0 : ¬ l = 0 := by omega
  have CL := Lib.hid cl
  have HV := Lib.hid hV
  have H0 := Lib.hid h0
  have K1 : wrap64 ((n : Int) + 1) = (n : Int) + 1 := (bits_step hn).1
  have K2 : ((n : Int) + 1).tdiv 2 = k := half_one hk
  have K3 : wrap64 (k : Int) = k := bits_small hk1
  have K4 : IntKind.u64.wrap ((2 : Int) ^ k) = R0 := by
    rw [← hR, show ((2 : Int) ^ k) = ((2 ^ k : Nat) : Int) by rw [Int.natCast_pow]; rfl]
    exact wrap_nat (by omega)
  have HR3 := Lib.hid hR3
  clear hR hR3 hV h0 cl hn hk
  go_enter Tryz.func126, Tryz.ntmps126
  go_wp2_with (first | (go_at_call_of 142 (Value.int .u64 l); refine (CL.out _).mono ?_; rintro e w1 ⟨rfl, rfl⟩))
  have HW : Hid (RootW 0 l w (w.alloc (.cells #[.int .i64 0, .int .u64 l] 68))) :=
    ⟨⟨by simp [go_sem], by simp [go_sem]⟩, (Below.refl _ _).alloc (Nat.le_refl _) _⟩
  clear CL K1 K2 K3 K4
  go_loopw [4] (fun r wr => ∃ R : Nat, r = .int .u64 R ∧ Hid (0 < R ∧ R < 281474976710656 ∧ V < (R + 1) * (R + 1) ∧ RootW 0 l w wr)) (fun r _ => (intOf r).toNat)
  case atStart => exact ⟨R0, rfl, hR1, hR2, HR3.out, HW.out⟩
  case round =>
    obtain ⟨R, rfl, hI⟩ := hrel
    clear HW HR3 hR1 hR2
    obtain ⟨r1, r2, r3, r4⟩ := hI
    have hRh : 0 < R := r1
    have cd := fun w => div64_any 0 l R w hRh (by omega) h2
    rw [← HV.out] at cd
    obtain ⟨q, hq⟩ : ∃ q, V / R = q := ⟨_, rfl⟩
    obtain ⟨t, ht⟩ : ∃ t, V % R = t := ⟨_, rfl⟩
    rw [hq, ht] at cd
    have hq1 : q ≤ R + 2 := by rw [← hq]; exact root_quo r3
    have CD := Lib.hid cd
    have HQ := Lib.hid hq
    have R3 := Lib.hid r3
    obtain ⟨⟨c0, c1⟩, hB⟩ := r4
    have hB' := Lib.hid hB
    have W1 : IntKind.u64.wrap ((R : Int) + q) = ((R + q : Nat) : Int) := by rw [← Int.natCast_add]; exact wrap_nat (by omega)
    clear hq ht cd r3 hB hRh
    by_cases hs : R ≤ (R + q) / 2
    · have hs1 : (R : Int) ≤ ((R + q : Nat) : Int) / 2 := by omega
      have hs2 : ((R : Nat) : Int) ≤ ((R : Int) + q) / 2 := by omega
      go_wp2_with (go_at_call 117; refine (CD.out _).mono ?_; rintro e w2 ⟨rfl, m, rfl⟩)
      have hI : isq V = R := isq_is (newton_stop r1 (by rw [HQ.out]; exact hs)) R3.out
      clear hs1 hs2
      go_ret
      exact ⟨ret_int (by rw [hI]), hB'.out.trans (drawn_below wr m hB'.out.size)⟩
    · have hs1 : ((R + q : Nat) : Int) / 2 < (R : Int) := by omega
      have hs2 : ((R : Int) + q) / 2 < ((R : Nat) : Int) := by omega
      go_wp2_with (go_at_call 117; refine (CD.out _).mono ?_; rintro e w2 ⟨rfl, m, rfl⟩)
      go_roundw
      case rel => exact ⟨(R + q) / 2, by go_num, root_pos r1 H0.out HQ.out, by omega, by rw [← HQ.out]; exact newton_above r1, RootW.later ⟨⟨c0, c1⟩, hB'.out⟩ (drawn_below wr m (Nat.le_refl _))⟩
      case measure => simp [intOf]; omega

set_option maxRecDepth 100000 in
set_option maxHeartbeats 1000000 in
theorem whole_two (V h l n k R0 n0 : Nat) (w : World) (hV : V = h * 18446744073709551616 + l) (h0 : 0 < V) (h1 : h < 1073741824) (h2 : l < 18446744073709551616) (hn : n ≤ 64) (hk : k = (n + 65) / 2) (hk1 : k ≤ 47)
    (cl : ∀ w, Calls Tryz.prog 142 #[.int .u64 l] w fun e w' => e = .returned (.int .i64 n0) ∧ w' = w)
    (ch : ∀ w, Calls Tryz.prog 142 #[.int .u64 h] w fun e w' => e = .returned (.int .i64 n) ∧ w' = w)
    (hR : 2 ^ k = R0) (hR1 : 0 < R0) (hR2 : R0 < 281474976710656) (hR3 : V < (R0 + 1) * (R0 + 1)) (hz : 0 < h) :
    Calls Tryz.prog 126 #[.agg #[.int .i64 h, .int .u64 l]] w fun e w' => e = .returned (.int .i64 (isq V)) ∧ Below w.heap.size w w' := by
  have hz1 : ¬ (h : Int) = 0 := by omega
  have hz2 : (0 : Int) < h := by omega
  have hz3 : ¬ h = 0 := by omega
  have CH := Lib.hid ch
  have CL := Lib.hid cl
  have HV := Lib.hid hV
  have H0 := Lib.hid h0
  have K0 : wrap64 (64 + (n : Int)) = (n : Int) + 64 := (bits_step hn).2.1
  have K1 : wrap64 ((n : Int) + 64 + 1) = (n : Int) + 65 := (bits_step hn).2.2
  have K2 : ((n : Int) + 65).tdiv 2 = k := half_two hk
  have K3 : wrap64 (k : Int) = k := bits_small hk1
  have K4 : IntKind.u64.wrap ((2 : Int) ^ k) = R0 := by
    rw [← hR, show ((2 : Int) ^ k) = ((2 ^ k : Nat) : Int) by rw [Int.natCast_pow]; rfl]
    exact wrap_nat (by omega)
  have HR3 := Lib.hid hR3
  clear hR hR3 hV h0 cl ch hn hk
  go_enter Tryz.func126, Tryz.ntmps126
  go_wp2_with (first | (go_at_call_of 142 (Value.int .u64 l); refine (CL.out _).mono ?_; rintro e w1 ⟨rfl, rfl⟩) | (go_at_call_of 142 (Value.int .u64 h); refine (CH.out _).mono ?_; rintro e w1 ⟨rfl, rfl⟩))
  have HW : Hid (RootW h l w (w.alloc (.cells #[.int .i64 h, .int .u64 l] 68))) :=
    ⟨⟨by simp [go_sem], by simp [go_sem]⟩, (Below.refl _ _).alloc (Nat.le_refl _) _⟩
  clear CL CH K0 K1 K2 K3 K4
  go_loopw [4] (fun r wr => ∃ R : Nat, r = .int .u64 R ∧ Hid (0 < R ∧ R < 281474976710656 ∧ V < (R + 1) * (R + 1) ∧ RootW h l w wr)) (fun r _ => (intOf r).toNat)
  case atStart => exact ⟨R0, rfl, hR1, hR2, HR3.out, HW.out⟩
  case round =>
    obtain ⟨R, rfl, hI⟩ := hrel
    clear HW HR3 hR1 hR2
    obtain ⟨r1, r2, r3, r4⟩ := hI
    have hRh : h < R := root_above HV.out (by omega) h1 r3
    have cd := fun w => div64_any h l R w hRh (by omega) h2
    rw [← HV.out] at cd
    obtain ⟨q, hq⟩ : ∃ q, V / R = q := ⟨_, rfl⟩
    obtain ⟨t, ht⟩ : ∃ t, V % R = t := ⟨_, rfl⟩
    rw [hq, ht] at cd
    have hq1 : q ≤ R + 2 := by rw [← hq]; exact root_quo r3
    have CD := Lib.hid cd
    have HQ := Lib.hid hq
    have R3 := Lib.hid r3
    obtain ⟨⟨c0, c1⟩, hB⟩ := r4
    have hB' := Lib.hid hB
    have W1 : IntKind.u64.wrap ((R : Int) + q) = ((R + q : Nat) : Int) := by rw [← Int.natCast_add]; exact wrap_nat (by omega)
    clear hq ht cd r3 hB hRh
    by_cases hs : R ≤ (R + q) / 2
    · have hs1 : (R : Int) ≤ ((R + q : Nat) : Int) / 2 := by omega
      have hs2 : ((R : Nat) : Int) ≤ ((R : Int) + q) / 2 := by omega
      go_wp2_with (go_at_call 117; refine (CD.out _).mono ?_; rintro e w2 ⟨rfl, m, rfl⟩)
      have hI : isq V = R := isq_is (newton_stop r1 (by rw [HQ.out]; exact hs)) R3.out
      clear hs1 hs2
      go_ret
      exact ⟨ret_int (by rw [hI]), hB'.out.trans (drawn_below wr m hB'.out.size)⟩
    · have hs1 : ((R + q : Nat) : Int) / 2 < (R : Int) := by omega
      have hs2 : ((R : Int) + q) / 2 < ((R : Nat) : Int) := by omega
      go_wp2_with (go_at_call 117; refine (CD.out _).mono ?_; rintro e w2 ⟨rfl, m, rfl⟩)
      go_roundw
      case rel => exact ⟨(R + q) / 2, by go_num, root_pos r1 H0.out HQ.out, by omega, by rw [← HQ.out]; exact newton_above r1, RootW.later ⟨⟨c0, c1⟩, hB'.out⟩ (drawn_below wr m (Nat.le_refl _))⟩
      case measure => simp [intOf]; omega

end Go.Proofs.YtebfhjndgfcijaaGreatDoor

namespace Go.Proofs.YtebfhjndgfcijaaGreatDoor
open Go Go.RowKit

/-- A wide number in a box that is there. -/
def BoxAt (W : World) (b : Nat) (v u : Int) : Prop := W.cell? ⟨b, 0, none⟩ = some (.int .i64 v) ∧ W.cell? ⟨b, 1, none⟩ = some (.int .u64 u)
theorem box_later {W W' : World} {b : Nat} {v u : Int} (hb : Below W.heap.size W W') (h : BoxAt W b v u) : BoxAt W' b v u := ⟨cell_later hb h.1, cell_later hb h.2⟩
theorem box_alloc {W : World} {b : Nat} {v u : Int} (h : BoxAt W b v u) (o : Obj) : BoxAt (W.alloc o) b v u := ⟨alloc_cell h.1, alloc_cell h.2⟩
theorem box_drew {W : World} {b : Nat} {v u : Int} (h : BoxAt W b v u) : BoxAt W.drew b v u := h
theorem box_set {W : World} {b : Nat} {v u : Int} (h : BoxAt W b v u) {a : Addr} (x : Value) (ha : b < a.block) : BoxAt (W.setCell a x) b v u :=
  ⟨(World.cell?_setCell_other _ _ _ _ (fun e => Nat.ne_of_lt ha (congrArg Addr.block e).symm)).trans h.1, (World.cell?_setCell_other _ _ _ _ (fun e => Nat.ne_of_lt ha (congrArg Addr.block e).symm)).trans h.2⟩
theorem box_and {w W : World} {b : Nat} {v u : Int} (h : BoxAt W b v u) (k : Below w.heap.size w W) : W.cell? ⟨b, 0, none⟩ = some (.int .i64 v) ∧ W.cell? ⟨b, 1, none⟩ = some (.int .u64 u) ∧ Below w.heap.size w W := ⟨h.1, h.2, k⟩

set_option maxRecDepth 100000 in
set_option maxHeartbeats 1000000 in
theorem root_walk (v1 v2 p1 p2 n1 n2 r1 r2 s tw gap s1 : Int) (K : Nat) (B : Bool) (E : Ending) (w : World) (hcf : ∀ args w, (callFunc K args).run Tryz.prog w = .ok (.enter K args) w)
    (cw : ∀ w, Calls Tryz.prog 126 #[.agg #[.int .i64 v1, .int .u64 v2]] w fun e w' => e = .returned (.int .i64 s) ∧ Below w.heap.size w w')
    (cp : ∀ w, Calls Tryz.prog 39 #[.int .i64 s, .int .i64 s] w fun e w' => e = .returned (.agg #[.int .i64 p1, .int .u64 p2]) ∧ Below w.heap.size w w')
    (cn : ∀ w, Calls Tryz.prog 44 #[.agg #[.int .i64 p1, .int .u64 p2]] w fun e w' => e = .returned (.agg #[.int .i64 n1, .int .u64 n2]) ∧ Below w.heap.size w w')
    (ca : ∀ w, Calls Tryz.prog 40 #[.agg #[.int .i64 v1, .int .u64 v2], .agg #[.int .i64 n1, .int .u64 n2]] w fun e w' => e = .returned (.agg #[.int .i64 r1, .int .u64 r2]) ∧ Below w.heap.size w w')
    (cs : ∀ w, Calls Tryz.prog 41 #[.int .i64 s] w fun e w' => e = .returned (.int .u64 s) ∧ w = w')
    (t1 : IntKind.u64.wrap (2 * s) = tw) (t2 : IntKind.u64.wrap (tw + 1) = gap) (t3 : wrap64 (s + 1) = s1)
    (cu : ∀ w, Calls Tryz.prog K #[.bool false, .int .u64 r2, .int .u64 gap] w fun e w' => e = .returned (.bool B) ∧ w = w')
    (hE : (∃ z, E = .returned (.int .i64 z)) ∨ (∃ n, E = flt n))
    (cf : ∀ w, Calls Tryz.prog 65 #[.int .i64 (if B then s1 else s)] w fun e w' => e = E ∧ w = w') :
    Calls Tryz.prog 81 #[.agg #[.int .i64 v1, .int .u64 v2], .func (.func K) #[] #[]] w fun e w' => e = E ∧ Below w.heap.size w w' := by
  have CW := Lib.hid cw
  have CP := Lib.hid cp
  have CN := Lib.hid cn
  have CA := Lib.hid ca
  have CS := Lib.hid cs
  have CU := Lib.hid cu
  have CF := Lib.hid cf
  have HE := Lib.hid hE
  clear cw cp cn ca cs cu cf hE
  go_enter Tryz.func81, Tryz.ntmps81
  go_upto_region 2 with (go_at_call 126; refine (CW.out _).mono ?_; rintro e w1 ⟨rfl, hb1⟩; have k0 : w1.cell? ⟨w.heap.size, 0, none⟩ = some (.int .i64 v1) := cell_later hb1 (by simp [go_sem]); have k1 : w1.cell? ⟨w.heap.size, 1, none⟩ = some (.int .u64 v2) := cell_later hb1 (by simp [go_sem]))
  have hB1 : Below w.heap.size w w1 := ((Below.refl w.heap.size w).alloc (Nat.le_refl _) _).trans (hb1.mono (by simp))
  have q1 : w.heap.size < w1.heap.size := World.block_lt_of_cell? _ _ k0
  have hbox : BoxAt w1 w.heap.size v1 v2 := ⟨k0, k1⟩
  clear hb1
  go_cut [6] (fun s6 wx => ∃ g : Nat, s6 = .pointer (some ⟨g, 0, none⟩) ∧ WideAt wx g r1 r2 ∧ Below w.heap.size w wx)
  case first =>
    clear CW CS CU CF HE t1 t2 t3
    go_region_held3 (fun w' => w'.cell? ⟨w.heap.size, 0, none⟩ = some (.int .i64 v1) ∧ w'.cell? ⟨w.heap.size, 1, none⟩ = some (.int .u64 v2) ∧ Below w.heap.size w w')
      ((refine box_and ?_ ?_; all_goals (repeat' (first | assumption | (with_reducible refine Below.drew ?_) | (with_reducible refine box_drew ?_) | (with_reducible refine ka ?_ _) | (with_reducible refine box_alloc ?_ _) | (with_reducible refine ks ?_ _ (by (try simp only); omega)) | (with_reducible refine box_set ?_ _ (by (try simp only); omega)) | (with_reducible refine box_later (by assumption) ?_) | (refine kc ?_ (by assumption))))))
      (first | (go_at_call 39; refine (CP.out _).mono ?_; rintro e w2 ⟨rfl, hb2⟩; have q2 : w1.heap.size ≤ w2.heap.size := (by first | exact hb2.size | exact Nat.le_trans (by simp) hb2.size); (try have m21 : WideAt w2 w1.heap.size 0 0 := new_later hb2 (new_alloc _))) | (go_at_call 44; refine (CN.out _).mono ?_; rintro e w3 ⟨rfl, hb3⟩; have q3 : w2.heap.size ≤ w3.heap.size := (by first | exact hb3.size | exact Nat.le_trans (by simp) hb3.size); (try have m32 : WideAt w3 w2.heap.size 0 0 := new_later hb3 (new_alloc _)); (try have m31 : WideAt w3 w1.heap.size 0 0 := new_later hb3 m21)) | (go_at_call 40; refine (CA.out _).mono ?_; rintro e w4 ⟨rfl, hb4⟩; have q4 : w3.heap.size ≤ w4.heap.size := (by first | exact hb4.size | exact Nat.le_trans (by simp) hb4.size); (try (have n6 : WideAt w4 w3.heap.size 0 0 := new_later hb4 (new_alloc _); have nn := n6; obtain ⟨j0, j1, j2, j3, j4⟩ := n6)); (try (have n6 : WideAt w4 w2.heap.size 0 0 := new_later hb4 m32; have nn := n6; obtain ⟨j0, j1, j2, j3, j4⟩ := n6)); (try (have n6 : WideAt w4 w1.heap.size 0 0 := new_later hb4 m31; have nn := n6; obtain ⟨j0, j1, j2, j3, j4⟩ := n6))))
    all_goals (go_wp2_with fail; go_meet)
    · rename_i hh
      exact ⟨w4.heap.size, rfl, ⟨by simp [go_sem], by simp [go_sem], by simp [go_sem], by simp [go_sem], by simp⟩, hh.2.2⟩
    · rename_i hh
      exact ⟨_, rfl, set_new r1 r2 nn, hh.2.2⟩
    · rename_i hh
      exact ⟨_, rfl, set_new r1 r2 nn, hh.2.2⟩
    · rename_i hh
      exact ⟨_, rfl, set_new r1 r2 nn, hh.2.2⟩
  case rest =>
    obtain ⟨g, rfl, hw, hB⟩ := hcut
    clear CW CP CN CA hB1 k0 k1 q1
    obtain ⟨j0, j1, j2, j3, j4⟩ := hw
    have hB' := Lib.hid hB.drew
    clear hB
    go_upto_region 3 with fail
    go_region_held3 (fun w' => w'.cell? ⟨g, 1, none⟩ = some (.int .u64 r2) ∧ Hid (Below w.heap.size w w'))
      (exact ⟨j1, hB'⟩)
      (first | (go_at_call 41; refine (CS.out _).mono ?_; rintro e w' ⟨rfl, rfl⟩) | (with_reducible refine (CU.out _).mono ?_; rintro e w' ⟨rfl, rfl⟩))
    clear CS CU t1 t2 j0 j1 j2 j3 j4
    cases B
    · simp only [Bool.false_eq_true, if_false] at CF
      go_wp2_with fail
      refine (CF.out _).mono ?_
      rintro e w' ⟨he, rfl⟩
      rcases HE.out with ⟨z, hz⟩ | ⟨n, hz⟩ <;> (subst he; subst hz)
      · go_wp2
        go_ret
        exact ⟨rfl, hB'.out⟩
      · exact ⟨rfl, rfl, hB'.out⟩
    · simp only [if_true] at CF
      go_wp2_with fail
      refine (CF.out _).mono ?_
      rintro e w' ⟨he, rfl⟩
      rcases HE.out with ⟨z, hz⟩ | ⟨n, hz⟩ <;> (subst he; subst hz)
      · go_wp2
        go_ret
        exact ⟨rfl, hB'.out⟩
      · exact ⟨rfl, rfl, hB'.out⟩

end Go.Proofs.YtebfhjndgfcijaaGreatDoor

namespace Go.Proofs.YtebfhjndgfcijaaGreatDoor
open Go Go.RowKit

set_option maxHeartbeats 400000 in
theorem whole_zero (w : World) :
    Calls Tryz.prog 126 #[.agg #[.int .i64 0, .int .u64 0]] w fun e w' => e = .returned (.int .i64 0) ∧ Below w.heap.size w w' := by
  go_enter Tryz.func126, Tryz.ntmps126
  go_wp2
  go_ret
  exact ⟨rfl, (Below.refl _ _).alloc (Nat.le_refl _) _⟩

theorem pow_lt {V n k R : Nat} (hV : V < 2 ^ n) (hn : n ≤ k + k) (hR : 2 ^ k = R) : V < (R + 1) * (R + 1) := by
  have h1 := Nat.pow_le_pow_right (show 0 < 2 by omega) hn
  rw [Nat.pow_add, hR] at h1
  have h2 := sq_mono (show R ≤ R + 1 by omega)
  omega

theorem bitLen_lt {h : Nat} (hh : h < 2 ^ 64) : h < 2 ^ Lib.bitLen h := by
  by_cases h0 : h = 0
  · subst h0
    exact Nat.two_pow_pos _
  · obtain ⟨n, hn, _, _, h3⟩ := bitLen_bd 64 h hh (by omega) h0
    rw [hn]
    exact h3

theorem whole_any (V : Nat) (w : World) (hV : V < 19807040628566084398385987584) :
    Calls Tryz.prog 126 #[.agg #[.int .i64 (hiOf V), .int .u64 (loOf V)]] w fun e w' => e = .returned (.int .i64 (isq V)) ∧ Below w.heap.size w w' := by
  obtain ⟨h, hh⟩ : ∃ h, V / 18446744073709551616 = h := ⟨_, rfl⟩
  obtain ⟨l, hl⟩ : ∃ l, V % 18446744073709551616 = l := ⟨_, rfl⟩
  have e1 : hiOf V = h := by unfold hiOf; omega
  have e2 : loOf V = l := by unfold loOf; omega
  have e3 : V = h * 18446744073709551616 + l := by omega
  have h1 : h < 1073741824 := by omega
  have h2 : l < 18446744073709551616 := by omega
  rw [e1, e2]
  clear hh hl e1 e2 hV
  by_cases h0 : V = 0
  · have : h = 0 := by omega
    subst this
    have : l = 0 := by omega
    subst this
    have hi : isq V = 0 := isq_is (by omega) (by omega)
    rw [hi]
    exact whole_zero w
  · have hcl := Lib.bitLen_le l 64 (by omega) h2
    have hch := Lib.bitLen_le h 30 (by omega) h1
    have s1 := bitLen_lt (h := l) h2
    have s2 := bitLen_lt (h := h) (by omega)
    obtain ⟨n0, hn0⟩ : ∃ n, Lib.bitLen l = n := ⟨_, rfl⟩
    obtain ⟨n1, hn1⟩ : ∃ n, Lib.bitLen h = n := ⟨_, rfl⟩
    rw [hn0] at hcl s1
    rw [hn1] at hch s2
    have cl : ∀ w, Calls Tryz.prog 142 #[.int .u64 l] w fun e w' => e = .returned (.int .i64 n0) ∧ w' = w := fun w => by
      have := Tryz.bits_Len64 (l : Int) w (by omega) (by omega)
      rw [Int.toNat_natCast, hn0] at this
      exact this
    have ch : ∀ w, Calls Tryz.prog 142 #[.int .u64 h] w fun e w' => e = .returned (.int .i64 n1) ∧ w' = w := fun w => by
      have := Tryz.bits_Len64 (h : Int) w (by omega) (by omega)
      rw [Int.toNat_natCast, hn1] at this
      exact this
    by_cases hz : h = 0
    · have hk : (n0 + 1) / 2 ≤ 47 := by omega
      have hp := Nat.pow_le_pow_right (show 0 < 2 by omega) hk
      exact whole_one V h l n0 ((n0 + 1) / 2) _ w e3 (by omega) h1 h2 hcl rfl hk cl rfl (Nat.two_pow_pos _) (by omega)
        (pow_lt (n := n0) (by omega) (by omega) rfl) hz
    · have hk : (n1 + 65) / 2 ≤ 47 := by omega
      have hp := Nat.pow_le_pow_right (show 0 < 2 by omega) hk
      exact whole_two V h l n1 ((n1 + 65) / 2) _ n0 w e3 (by omega) h1 h2 (by omega) rfl hk cl ch rfl (Nat.two_pow_pos _) (by omega)
        (pow_lt (n := n1 + 64) (by rw [Nat.pow_add]; omega) (by omega) rfl) (by omega)

/-- The rounded root. -/
noncomputable def rootS (how : Int) (V : Nat) : Int := (isq V : Int) + if upB how false ((V : Int) - (isq V : Int) * (isq V : Int)) (2 * (isq V : Int) + 1) then 1 else 0

theorem isq_bd {V : Nat} (hV : V < 19807040628566084398385987584) : isq V < 140737488355328 :=
  sq_lt (Nat.lt_of_le_of_lt (isq_le V) (by omega))

theorem up_at (how : Int) (h0 : 0 ≤ how) (h1 : how ≤ 3) (r g : Int) (r0 : 0 ≤ r) (r1 : r < g) (hg : g ≤ 9223372036854775807) (B : Bool) (hB : upB how false r g = B) :
    ∀ w, Calls Tryz.prog (wayFn how) #[.bool false, .int .u64 r, .int .u64 g] w fun e w' => e = .returned (.bool B) ∧ w = w' := by
  intro w
  rw [← hB]
  exact up_any how h0 h1 false r g r0 r1 hg w

theorem root_call (how : Int) (V m s : Nat) (r : Int) (w : World) (h0 : 0 ≤ how) (h1 : how ≤ 3) (hV : V < 19807040628566084398385987584) (hs : s < 140737488355328) (hm : (s : Int) * (s : Int) = (m : Int)) (hmV : m ≤ V) (hr : (V : Int) - m = r)
    (r0 : 0 ≤ r) (r1 : r < 2 * (s : Int) + 1) (B : Bool) (E : Ending) (hE : (∃ z, E = .returned (.int .i64 z)) ∨ (∃ n, E = flt n))
    (cu : ∀ w, Calls Tryz.prog (wayFn how) #[.bool false, .int .u64 r, .int .u64 (2 * (s : Int) + 1)] w fun e w' => e = .returned (.bool B) ∧ w = w')
    (cw : ∀ w, Calls Tryz.prog 126 #[.agg #[.int .i64 (hiOf V), .int .u64 (loOf V)]] w fun e w' => e = .returned (.int .i64 s) ∧ Below w.heap.size w w')
    (cf : ∀ w, Calls Tryz.prog 65 #[.int .i64 (if B then (s : Int) + 1 else (s : Int))] w fun e w' => e = E ∧ w = w') :
    Calls Tryz.prog 81 #[.agg #[.int .i64 (hiOf V), .int .u64 (loOf V)], .func (.func (wayFn how)) #[] #[]] w fun e w' => e = E ∧ Below w.heap.size w w' := by
  have cp := fun w => product_any (s : Int) (s : Int) w (by omega) (by omega) (by omega) (by omega)
  rw [hm] at cp
  have cn := fun w => negative_any (m : Int) w (by omega) (by omega)
  have ca := fun w => plus_any (V : Int) (-(m : Int)) w (by omega) (by omega)
  have er : (V : Int) + -(m : Int) = r := by omega
  rw [er] at ca
  obtain ⟨f1, f2⟩ := hi_small r r0 (by omega)
  rw [f1, f2] at ca
  have cs := fun w => size_any (s : Int) w (by omega) (by omega)
  have f3 : (((s : Int).natAbs : Nat) : Int) = (s : Int) := by omega
  rw [f3] at cs
  have t1 : IntKind.u64.wrap (2 * (s : Int)) = 2 * (s : Int) := by rw [IntKind.wrap_u64]; omega
  have t2 : IntKind.u64.wrap (2 * (s : Int) + 1) = 2 * (s : Int) + 1 := by rw [IntKind.wrap_u64]; omega
  have t3 : wrap64 ((s : Int) + 1) = (s : Int) + 1 := by unfold wrap64; omega
  exact root_walk _ _ _ _ _ _ _ _ _ _ _ _ _ B E w (way_enters how h0 h1) cw cp cn ca cs t1 t2 t3 cu hE cf

theorem root_facts (V : Nat) (hV : V < 19807040628566084398385987584) : ∃ m s : Nat, isq V = s ∧ (s : Int) * (s : Int) = (m : Int) ∧ s < 140737488355328 ∧ m ≤ V ∧ 0 ≤ (V : Int) - m ∧ (V : Int) - m < 2 * (s : Int) + 1 := by
  have hb := isq_bd hV
  have a0 := isq_le V
  have a1 := isq_lt V
  obtain ⟨s, hs⟩ : ∃ s, isq V = s := ⟨_, rfl⟩
  rw [hs] at hb a0 a1
  have e2 : (s + 1) * (s + 1) = s * s + s + s + 1 := by grind
  rw [e2] at a1
  refine ⟨s * s, s, hs, by rw [Int.natCast_mul], hb, a0, ?_, ?_⟩
  · omega
  · omega

theorem root_any (how : Int) (V : Nat) (w : World) (h0 : 0 ≤ how) (h1 : how ≤ 3) (hV : V < 19807040628566084398385987584) :
    (Vld (rootS how V) → Calls Tryz.prog 81 #[.agg #[.int .i64 (hiOf V), .int .u64 (loOf V)], .func (.func (wayFn how)) #[] #[]] w fun e w' => e = .returned (.int .i64 (rootS how V)) ∧ Below w.heap.size w w') ∧
    (¬ Vld (rootS how V) → Calls Tryz.prog 81 #[.agg #[.int .i64 (hiOf V), .int .u64 (loOf V)], .func (.func (wayFn how)) #[] #[]] w fun e w' => e = flt 4 ∧ Below w.heap.size w w') := by
  have cw := fun w => whole_any V w hV
  obtain ⟨m, s, hs, hm, hb, hmV, r0, r1⟩ := root_facts V hV
  rw [hs] at cw
  have hg : 2 * (s : Int) + 1 ≤ 9223372036854775807 := by omega
  obtain ⟨B, hB⟩ : ∃ B, upB how false ((V : Int) - m) (2 * (s : Int) + 1) = B := ⟨_, rfl⟩
  have hR : rootS how V = if B then (s : Int) + 1 else (s : Int) := by
    unfold rootS
    rw [hs, hm, hB]
    cases B <;> simp
  rw [hR]
  have cu := up_at how h0 h1 ((V : Int) - m) (2 * (s : Int) + 1) r0 r1 hg B hB
  exact ⟨fun hv => root_call how V m s _ w h0 h1 hV hb hm hmV rfl r0 r1 B _ (.inl ⟨_, rfl⟩) cu cw (fun w => fitting_ok _ w hv), fun hv => root_call how V m s _ w h0 h1 hV hb hm hmV rfl r0 r1 B _ (.inr ⟨_, rfl⟩) cu cw (fun w => fitting_bad _ w hv)⟩

end Go.Proofs.YtebfhjndgfcijaaGreatDoor

namespace Go.Proofs.YtebfhjndgfcijaaGreatDoor
open Go Go.RowKit

/-- What Root gives: the value and the error. -/
noncomputable def rootfS (a how : Int) : Int × Int :=
  if Vld a ∧ 0 ≤ how ∧ how ≤ 3 then (if a < 0 then (0, 11) else (rootS how (a.natAbs * 65536), 0)) else (0, 2)

theorem rootS_vld (a how : Int) (hv : Vld a) : Vld (rootS how (a.natAbs * 65536)) ∧ 0 ≤ rootS how (a.natAbs * 65536) := by
  unfold Vld at hv
  have h := sq_lt (a := isq (a.natAbs * 65536)) (b := 4294967296) (Nat.lt_of_le_of_lt (isq_le _) (by omega))
  unfold rootS Vld
  split <;> omega

end Go.Proofs.YtebfhjndgfcijaaGreatDoor
