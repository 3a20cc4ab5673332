/- The contract of package fixed's root: the rounded root of a number below 2 to the power of 94, or the fault ErrRange. -/
import Derived.Test.YtfpfpmacobkmhaaGreatDoorRoot
import Derived.Test.YtfpfpmacobkmhaaGreatDoorRead
namespace Go.Proofs.YtfpfpmacobkmhaaGreatDoor
open Go Go.RowKit

/-- A wide number in a box that is there. -/
def BoxAt (W : World) (b : Nat) (v u : Int) : Prop := W.cell? ⟨b, 0, none⟩ = some (.int .i64 v) ∧ W.cell? ⟨b, 1, none⟩ = some (.int .u64 u)
theorem box_later {W W' : World} {b : Nat} {v u : Int} (hb : Below W.heap.size W W') (h : BoxAt W b v u) : BoxAt W' b v u := ⟨cell_later hb h.1, cell_later hb h.2⟩
theorem box_alloc {W : World} {b : Nat} {v u : Int} (h : BoxAt W b v u) (o : Obj) : BoxAt (W.alloc o) b v u := ⟨alloc_cell h.1, alloc_cell h.2⟩
theorem box_drew {W : World} {b : Nat} {v u : Int} (h : BoxAt W b v u) : BoxAt W.drew b v u := h
theorem box_set {W : World} {b : Nat} {v u : Int} (h : BoxAt W b v u) {a : Addr} (x : Value) (ha : b < a.block) : BoxAt (W.setCell a x) b v u :=
  ⟨(World.cell?_setCell_other _ _ _ _ (fun e => Nat.ne_of_lt ha (congrArg Addr.block e).symm)).trans h.1, (World.cell?_setCell_other _ _ _ _ (fun e => Nat.ne_of_lt ha (congrArg Addr.block e).symm)).trans h.2⟩
theorem box_and {w W : World} {b : Nat} {v u : Int} (h : BoxAt W b v u) (k : Below w.heap.size w W) : W.cell? ⟨b, 0, none⟩ = some (.int .i64 v) ∧ W.cell? ⟨b, 1, none⟩ = some (.int .u64 u) ∧ Below w.heap.size w W := ⟨h.1, h.2, k⟩

set_option maxRecDepth 100000 in
set_option maxHeartbeats 1000000 in
theorem root_walk (v1 v2 p1 p2 n1 n2 r1 r2 s tw gap s1 : Int) (K : Nat) (B : Bool) (E : Ending) (w : World) (hcf : ∀ args w, (callFunc K args).run Tryz.prog w = .ok (.enter K args) w)
    (cw : ∀ w, Calls Tryz.prog 82 #[.agg #[.int .i64 v1, .int .u64 v2]] w fun e w' => e = .returned (.int .i64 s) ∧ Below w.heap.size w w')
    (cp : ∀ w, Calls Tryz.prog 29 #[.int .i64 s, .int .i64 s] w fun e w' => e = .returned (.agg #[.int .i64 p1, .int .u64 p2]) ∧ Below w.heap.size w w')
    (cn : ∀ w, Calls Tryz.prog 58 #[.agg #[.int .i64 p1, .int .u64 p2]] w fun e w' => e = .returned (.agg #[.int .i64 n1, .int .u64 n2]) ∧ Below w.heap.size w w')
    (ca : ∀ w, Calls Tryz.prog 78 #[.agg #[.int .i64 v1, .int .u64 v2], .agg #[.int .i64 n1, .int .u64 n2]] w fun e w' => e = .returned (.agg #[.int .i64 r1, .int .u64 r2]) ∧ Below w.heap.size w w')
    (cs : ∀ w, Calls Tryz.prog 57 #[.int .i64 s] w fun e w' => e = .returned (.int .u64 s) ∧ w = w')
    (t1 : IntKind.u64.wrap (2 * s) = tw) (t2 : IntKind.u64.wrap (tw + 1) = gap) (t3 : wrap64 (s + 1) = s1)
    (cu : ∀ w, Calls Tryz.prog K #[.bool false, .int .u64 r2, .int .u64 gap] w fun e w' => e = .returned (.bool B) ∧ w = w')
    (hE : (∃ z, E = .returned (.int .i64 z)) ∨ (∃ n, E = flt n))
    (cf : ∀ w, Calls Tryz.prog 39 #[.int .i64 (if B then s1 else s)] w fun e w' => e = E ∧ w = w') :
    Calls Tryz.prog 52 #[.agg #[.int .i64 v1, .int .u64 v2], .func (.func K) #[] #[]] w fun e w' => e = E ∧ Below w.heap.size w w' := by
  have CW := Lib.hid cw
  have CP := Lib.hid cp
  have CN := Lib.hid cn
  have CA := Lib.hid ca
  have CS := Lib.hid cs
  have CU := Lib.hid cu
  have CF := Lib.hid cf
  have HE := Lib.hid hE
  clear cw cp cn ca cs cu cf hE
  go_enter Tryz.func52, Tryz.ntmps52
  go_upto_region 2 with (go_at_call 82; refine (CW.out _).mono ?_; rintro e w1 ⟨rfl, hb1⟩; have k0 : w1.cell? ⟨w.heap.size, 0, none⟩ = some (.int .i64 v1) := cell_later hb1 (by simp [go_sem]); have k1 : w1.cell? ⟨w.heap.size, 1, none⟩ = some (.int .u64 v2) := cell_later hb1 (by simp [go_sem]))
  have hB1 : Below w.heap.size w w1 := ((Below.refl w.heap.size w).alloc (Nat.le_refl _) _).trans (hb1.mono (by simp))
  have q1 : w.heap.size < w1.heap.size := World.block_lt_of_cell? _ _ k0
  have hbox : BoxAt w1 w.heap.size v1 v2 := ⟨k0, k1⟩
  clear hb1
  go_cut [6] (fun s6 wx => ∃ g : Nat, s6 = .pointer (some ⟨g, 0, none⟩) ∧ WideAt wx g r1 r2 ∧ Below w.heap.size w wx)
  case first =>
    clear CW CS CU CF HE t1 t2 t3
    go_region_held3 (fun w' => w'.cell? ⟨w.heap.size, 0, none⟩ = some (.int .i64 v1) ∧ w'.cell? ⟨w.heap.size, 1, none⟩ = some (.int .u64 v2) ∧ Below w.heap.size w w')
      ((refine box_and ?_ ?_; all_goals (repeat' (first | assumption | (with_reducible refine Below.drew ?_) | (with_reducible refine box_drew ?_) | (with_reducible refine ka ?_ _) | (with_reducible refine box_alloc ?_ _) | (with_reducible refine ks ?_ _ (by (try simp only); omega)) | (with_reducible refine box_set ?_ _ (by (try simp only); omega)) | (with_reducible refine box_later (by assumption) ?_) | (refine kc ?_ (by assumption))))))
      (first | (go_at_call 29; refine (CP.out _).mono ?_; rintro e w2 ⟨rfl, hb2⟩; have q2 : w1.heap.size ≤ w2.heap.size := (by first | exact hb2.size | exact Nat.le_trans (by simp) hb2.size); (try have m21 : WideAt w2 w1.heap.size 0 0 := new_later hb2 (new_alloc _))) | (go_at_call 58; refine (CN.out _).mono ?_; rintro e w3 ⟨rfl, hb3⟩; have q3 : w2.heap.size ≤ w3.heap.size := (by first | exact hb3.size | exact Nat.le_trans (by simp) hb3.size); (try have m32 : WideAt w3 w2.heap.size 0 0 := new_later hb3 (new_alloc _)); (try have m31 : WideAt w3 w1.heap.size 0 0 := new_later hb3 m21)) | (go_at_call 78; refine (CA.out _).mono ?_; rintro e w4 ⟨rfl, hb4⟩; have q4 : w3.heap.size ≤ w4.heap.size := (by first | exact hb4.size | exact Nat.le_trans (by simp) hb4.size); (try (have n6 : WideAt w4 w3.heap.size 0 0 := new_later hb4 (new_alloc _); have nn := n6; obtain ⟨j0, j1, j2, j3, j4⟩ := n6)); (try (have n6 : WideAt w4 w2.heap.size 0 0 := new_later hb4 m32; have nn := n6; obtain ⟨j0, j1, j2, j3, j4⟩ := n6)); (try (have n6 : WideAt w4 w1.heap.size 0 0 := new_later hb4 m31; have nn := n6; obtain ⟨j0, j1, j2, j3, j4⟩ := n6))))
    all_goals (go_wp2_with fail; go_meet)
    · rename_i hh
      exact ⟨w4.heap.size, rfl, ⟨by simp [go_sem], by simp [go_sem], by simp [go_sem], by simp [go_sem], by simp⟩, hh.2.2⟩
    · rename_i hh
      exact ⟨_, rfl, set_new r1 r2 nn, hh.2.2⟩
    · rename_i hh
      exact ⟨_, rfl, set_new r1 r2 nn, hh.2.2⟩
    · rename_i hh
      exact ⟨_, rfl, set_new r1 r2 nn, hh.2.2⟩
  case rest =>
    obtain ⟨g, rfl, hw, hB⟩ := hcut
    clear CW CP CN CA hB1 k0 k1 q1
    obtain ⟨j0, j1, j2, j3, j4⟩ := hw
    have hB' := Lib.hid hB.drew
    clear hB
    go_upto_region 3 with fail
    go_region_held3 (fun w' => w'.cell? ⟨g, 1, none⟩ = some (.int .u64 r2) ∧ Hid (Below w.heap.size w w'))
      (exact ⟨j1, hB'⟩)
      (first | (go_at_call 57; refine (CS.out _).mono ?_; rintro e w' ⟨rfl, rfl⟩) | (with_reducible refine (CU.out _).mono ?_; rintro e w' ⟨rfl, rfl⟩))
    clear CS CU t1 t2 j0 j1 j2 j3 j4
    cases B
    · simp only [Bool.false_eq_true, if_false] at CF
      go_wp2_with fail
      refine (CF.out _).mono ?_
      rintro e w' ⟨he, rfl⟩
      rcases HE.out with ⟨z, hz⟩ | ⟨n, hz⟩ <;> (subst he; subst hz)
      · go_wp2
        go_ret
        exact ⟨rfl, hB'.out⟩
      · exact ⟨rfl, rfl, hB'.out⟩
    · simp only [if_true] at CF
      go_wp2_with fail
      refine (CF.out _).mono ?_
      rintro e w' ⟨he, rfl⟩
      rcases HE.out with ⟨z, hz⟩ | ⟨n, hz⟩ <;> (subst he; subst hz)
      · go_wp2
        go_ret
        exact ⟨rfl, hB'.out⟩
      · exact ⟨rfl, rfl, hB'.out⟩

end Go.Proofs.YtfpfpmacobkmhaaGreatDoor
