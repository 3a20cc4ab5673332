/- The contracts of package fixed's attempt at its four types: what a computation returns is returned with the error 0; a fault on the way becomes the error, with the zero value. No conditions. -/
import Derived.Test.YtebfhjndgfcijaaGreatDoorOvs
import Derived.Recover
import Derived.Defers
import Derived.Laws.Pointers
import Derived.Deep.RegionWith
import Derived.Deep.RegionHeld3
import Derived.Deep.RegionHeld2
namespace Go.Proofs.YtebfhjndgfcijaaGreatDoor
open Go Go.RowKit

theorem assert_fault (v : Value) (w : World) : (Instr.typeAssert (.iface 62 v) 20 62 true).run Tryz.prog w = .ok (.tuple #[v, .bool true]) w := by kernel_rfl

set_option maxHeartbeats 400000 in
theorem cause_fault (n : Int) (w : World) :
    Calls Tryz.prog 98 #[.iface 62 (.int .i64 n)] w fun e w' => e = .returned (.int .i64 n) ∧ w = w' := by
  have ta := fun w => assert_fault (.int .i64 n) w
  go_enter Tryz.func98, Tryz.ntmps98
  go_wp2
  go_ret
  exact ⟨rfl, rfl⟩

set_option maxHeartbeats 400000 in
theorem catch_panicking_fix (p : Addr) (x n : Int) (older : List PanicEntry) (w : World) (hc : w.cell? p = some (.int .i64 x)) (hz : w.frozen? p = false) :
    CallsD Tryz.prog 97 #[.pointer (some p)] (.panicking ({ v := .iface 62 (.int .i64 n), recovered := false } :: older)) w fun e u' w' =>
      e = .returned (.tuple #[]) ∧ u' = .panicking ({ v := .iface 62 (.int .i64 n), recovered := true } :: older) ∧ w' = w.setCell p (.int .i64 n) := by
  refine callsD_of_wpS Tryz.func97 rfl fun c₀ cs hu => ?_
  apply wpS_seq
  apply wpS_region
  simp [wpOpsS, go_sem, recoverD, hu, Tryz.ntmps97, Exit.thenS]
  apply wpS_seq
  apply wpS_region
  simp [wpOpsS, go_sem, Exit.thenS]
  refine wpS_cond (t := true) (by simp [Act.eval, Array.replicate]) ?_
  simp only [if_true]
  refine wpS_of_wp ?_
  go_wp2_with (go_at_call 98; refine (cause_fault n _).mono ?_; rintro e w' ⟨rfl, rfl⟩)
  simp [bodyPostS, results, Tryz.results97]

theorem catch_idle_fix (p : Addr) (w : World) :
    CallsD Tryz.prog 97 #[.pointer (some p)] .returning w fun e u' w' => e = .returned (.tuple #[]) ∧ u' = .returning ∧ w' = w := by
  refine callsD_of_wpS Tryz.func97 rfl fun c₀ cs hu => ?_
  apply wpS_seq
  apply wpS_region
  simp [wpOpsS, go_sem, recoverD, hu, Tryz.ntmps97, Exit.thenS]
  apply wpS_seq
  apply wpS_region
  simp [wpOpsS, go_sem, Exit.thenS]
  refine wpS_cond (t := false) (by simp [Act.eval, Array.replicate]) ?_
  simp only [Bool.false_eq_true, if_false]
  refine wpS_of_wp (wp_skip ?_)
  cases c₀
  simp_all [bodyPostS, results, Tryz.results97]

set_option maxHeartbeats 400000 in
theorem attempt_fix_ok (K : Nat) (cap : Array Value) (v : Value) (w : World) (hcf : ∀ args w, (callFunc K args).run Tryz.prog w = .ok (.enter K args) w)
    (cc : ∀ W, Below w.heap.size w W → Calls Tryz.prog K cap W fun e w' => e = .returned v ∧ Below W.heap.size W w') :
    Calls Tryz.prog 34 #[.func (.func K) #[] cap] w fun e w' => e = .returned (.tuple #[v, .int .i64 0]) ∧ Below w.heap.size w w' := by
  have hmf : ∀ (fn : Fn) (first cap : Array Value) (w : World), (Instr.makeFunc fn first cap).run Tryz.prog w = .ok (.func fn first cap) w := fun _ _ _ _ => rfl
  have CC := Lib.hid (cc (w.alloc (.cells #[.int .i64 0] 24)) ((Below.refl _ _).alloc (Nat.le_refl _) _))
  clear cc
  go_enter_defers Tryz.func34, Tryz.ntmps34
  go_wp2_with (with_reducible refine CC.out.mono ?_; rintro e w1 ⟨rfl, hb⟩; obtain ⟨hc, hf⟩ := bcell hb)
  have k1 := set_same (w := w1) (a := ⟨w.heap.size, 0, none⟩) (x := .int .i64 0) (.int .i64 0) (by rw [hc _ _ (by simp)]; simp [go_sem])
  refine leaves_cons (f := 97) (args := #[.pointer (some ⟨w.heap.size, 0, none⟩)]) (by simp) (by simp [go_sem]) ?_
  refine (catch_idle_fix ⟨w.heap.size, 0, none⟩ _).mono ?_
  rintro e u' w'' ⟨rfl, rfl, rfl⟩
  simp [Leaves, settle, results, Tryz.results34, go_sem, k1]
  exact (((Below.refl w.heap.size w).alloc (Nat.le_refl _) _).trans (hb.mono (by simp))).setCell (by simp) _

set_option maxHeartbeats 400000 in
theorem attempt_fix_bad (K : Nat) (cap : Array Value) (n : Int) (w : World) (hcf : ∀ args w, (callFunc K args).run Tryz.prog w = .ok (.enter K args) w)
    (cc : ∀ W, Below w.heap.size w W → Calls Tryz.prog K cap W fun e w' => e = flt n ∧ Below W.heap.size W w') :
    Calls Tryz.prog 34 #[.func (.func K) #[] cap] w fun e w' => e = .returned (.tuple #[.int .i64 0, .int .i64 n]) ∧ Below w.heap.size w w' := by
  have hmf : ∀ (fn : Fn) (first cap : Array Value) (w : World), (Instr.makeFunc fn first cap).run Tryz.prog w = .ok (.func fn first cap) w := fun _ _ _ _ => rfl
  have CC := Lib.hid (cc (w.alloc (.cells #[.int .i64 0] 24)) ((Below.refl _ _).alloc (Nat.le_refl _) _))
  clear cc
  go_enter_defers Tryz.func34, Tryz.ntmps34
  go_wp2_with (with_reducible refine CC.out.mono ?_; rintro e w1 ⟨rfl, hb⟩; obtain ⟨hc, hf⟩ := bcell hb)
  have k0 : w1.cell? ⟨w.heap.size, 0, none⟩ = some (.int .i64 0) := by rw [hc _ _ (by simp)]; simp [go_sem]
  have k1 := set_same (w := w1) (a := ⟨w.heap.size, 0, none⟩) (x := .int .i64 0) (.int .i64 n) k0
  refine leaves_cons (f := 97) (args := #[.pointer (some ⟨w.heap.size, 0, none⟩)]) (by simp) (by simp [go_sem]) ?_
  refine (catch_panicking_fix ⟨w.heap.size, 0, none⟩ 0 n [] _ k0 (by rw [hf _ _ (by simp)]; simp [go_sem])).mono ?_
  rintro e u' w'' ⟨rfl, rfl, rfl⟩
  simp [Leaves, settle, results, Tryz.results34, go_sem, k1]
  exact (((Below.refl w.heap.size w).alloc (Nat.le_refl _) _).trans (hb.mono (by simp))).setCell (by simp) _

set_option maxHeartbeats 400000 in
theorem catch_panicking_int (p : Addr) (x n : Int) (older : List PanicEntry) (w : World) (hc : w.cell? p = some (.int .i64 x)) (hz : w.frozen? p = false) :
    CallsD Tryz.prog 128 #[.pointer (some p)] (.panicking ({ v := .iface 62 (.int .i64 n), recovered := false } :: older)) w fun e u' w' =>
      e = .returned (.tuple #[]) ∧ u' = .panicking ({ v := .iface 62 (.int .i64 n), recovered := true } :: older) ∧ w' = w.setCell p (.int .i64 n) := by
  refine callsD_of_wpS Tryz.func128 rfl fun c₀ cs hu => ?_
  apply wpS_seq
  apply wpS_region
  simp [wpOpsS, go_sem, recoverD, hu, Tryz.ntmps128, Exit.thenS]
  apply wpS_seq
  apply wpS_region
  simp [wpOpsS, go_sem, Exit.thenS]
  refine wpS_cond (t := true) (by simp [Act.eval, Array.replicate]) ?_
  simp only [if_true]
  refine wpS_of_wp ?_
  go_wp2_with (go_at_call 98; refine (cause_fault n _).mono ?_; rintro e w' ⟨rfl, rfl⟩)
  simp [bodyPostS, results, Tryz.results128]

theorem catch_idle_int (p : Addr) (w : World) :
    CallsD Tryz.prog 128 #[.pointer (some p)] .returning w fun e u' w' => e = .returned (.tuple #[]) ∧ u' = .returning ∧ w' = w := by
  refine callsD_of_wpS Tryz.func128 rfl fun c₀ cs hu => ?_
  apply wpS_seq
  apply wpS_region
  simp [wpOpsS, go_sem, recoverD, hu, Tryz.ntmps128, Exit.thenS]
  apply wpS_seq
  apply wpS_region
  simp [wpOpsS, go_sem, Exit.thenS]
  refine wpS_cond (t := false) (by simp [Act.eval, Array.replicate]) ?_
  simp only [Bool.false_eq_true, if_false]
  refine wpS_of_wp (wp_skip ?_)
  cases c₀
  simp_all [bodyPostS, results, Tryz.results128]

set_option maxHeartbeats 400000 in
theorem attempt_int_ok (K : Nat) (cap : Array Value) (v : Value) (w : World) (hcf : ∀ args w, (callFunc K args).run Tryz.prog w = .ok (.enter K args) w)
    (cc : ∀ W, Below w.heap.size w W → Calls Tryz.prog K cap W fun e w' => e = .returned v ∧ Below W.heap.size W w') :
    Calls Tryz.prog 88 #[.func (.func K) #[] cap] w fun e w' => e = .returned (.tuple #[v, .int .i64 0]) ∧ Below w.heap.size w w' := by
  have hmf : ∀ (fn : Fn) (first cap : Array Value) (w : World), (Instr.makeFunc fn first cap).run Tryz.prog w = .ok (.func fn first cap) w := fun _ _ _ _ => rfl
  have CC := Lib.hid (cc (w.alloc (.cells #[.int .i64 0] 24)) ((Below.refl _ _).alloc (Nat.le_refl _) _))
  clear cc
  go_enter_defers Tryz.func88, Tryz.ntmps88
  go_wp2_with (with_reducible refine CC.out.mono ?_; rintro e w1 ⟨rfl, hb⟩; obtain ⟨hc, hf⟩ := bcell hb)
  have k1 := set_same (w := w1) (a := ⟨w.heap.size, 0, none⟩) (x := .int .i64 0) (.int .i64 0) (by rw [hc _ _ (by simp)]; simp [go_sem])
  refine leaves_cons (f := 128) (args := #[.pointer (some ⟨w.heap.size, 0, none⟩)]) (by simp) (by simp [go_sem]) ?_
  refine (catch_idle_int ⟨w.heap.size, 0, none⟩ _).mono ?_
  rintro e u' w'' ⟨rfl, rfl, rfl⟩
  simp [Leaves, settle, results, Tryz.results88, go_sem, k1]
  exact (((Below.refl w.heap.size w).alloc (Nat.le_refl _) _).trans (hb.mono (by simp))).setCell (by simp) _

set_option maxHeartbeats 400000 in
theorem attempt_int_bad (K : Nat) (cap : Array Value) (n : Int) (w : World) (hcf : ∀ args w, (callFunc K args).run Tryz.prog w = .ok (.enter K args) w)
    (cc : ∀ W, Below w.heap.size w W → Calls Tryz.prog K cap W fun e w' => e = flt n ∧ Below W.heap.size W w') :
    Calls Tryz.prog 88 #[.func (.func K) #[] cap] w fun e w' => e = .returned (.tuple #[.int .i64 0, .int .i64 n]) ∧ Below w.heap.size w w' := by
  have hmf : ∀ (fn : Fn) (first cap : Array Value) (w : World), (Instr.makeFunc fn first cap).run Tryz.prog w = .ok (.func fn first cap) w := fun _ _ _ _ => rfl
  have CC := Lib.hid (cc (w.alloc (.cells #[.int .i64 0] 24)) ((Below.refl _ _).alloc (Nat.le_refl _) _))
  clear cc
  go_enter_defers Tryz.func88, Tryz.ntmps88
  go_wp2_with (with_reducible refine CC.out.mono ?_; rintro e w1 ⟨rfl, hb⟩; obtain ⟨hc, hf⟩ := bcell hb)
  have k0 : w1.cell? ⟨w.heap.size, 0, none⟩ = some (.int .i64 0) := by rw [hc _ _ (by simp)]; simp [go_sem]
  have k1 := set_same (w := w1) (a := ⟨w.heap.size, 0, none⟩) (x := .int .i64 0) (.int .i64 n) k0
  refine leaves_cons (f := 128) (args := #[.pointer (some ⟨w.heap.size, 0, none⟩)]) (by simp) (by simp [go_sem]) ?_
  refine (catch_panicking_int ⟨w.heap.size, 0, none⟩ 0 n [] _ k0 (by rw [hf _ _ (by simp)]; simp [go_sem])).mono ?_
  rintro e u' w'' ⟨rfl, rfl, rfl⟩
  simp [Leaves, settle, results, Tryz.results88, go_sem, k1]
  exact (((Below.refl w.heap.size w).alloc (Nat.le_refl _) _).trans (hb.mono (by simp))).setCell (by simp) _

set_option maxHeartbeats 400000 in
theorem catch_panicking_bool (p : Addr) (x n : Int) (older : List PanicEntry) (w : World) (hc : w.cell? p = some (.int .i64 x)) (hz : w.frozen? p = false) :
    CallsD Tryz.prog 129 #[.pointer (some p)] (.panicking ({ v := .iface 62 (.int .i64 n), recovered := false } :: older)) w fun e u' w' =>
      e = .returned (.tuple #[]) ∧ u' = .panicking ({ v := .iface 62 (.int .i64 n), recovered := true } :: older) ∧ w' = w.setCell p (.int .i64 n) := by
  refine callsD_of_wpS Tryz.func129 rfl fun c₀ cs hu => ?_
  apply wpS_seq
  apply wpS_region
  simp [wpOpsS, go_sem, recoverD, hu, Tryz.ntmps129, Exit.thenS]
  apply wpS_seq
  apply wpS_region
  simp [wpOpsS, go_sem, Exit.thenS]
  refine wpS_cond (t := true) (by simp [Act.eval, Array.replicate]) ?_
  simp only [if_true]
  refine wpS_of_wp ?_
  go_wp2_with (go_at_call 98; refine (cause_fault n _).mono ?_; rintro e w' ⟨rfl, rfl⟩)
  simp [bodyPostS, results, Tryz.results129]

theorem catch_idle_bool (p : Addr) (w : World) :
    CallsD Tryz.prog 129 #[.pointer (some p)] .returning w fun e u' w' => e = .returned (.tuple #[]) ∧ u' = .returning ∧ w' = w := by
  refine callsD_of_wpS Tryz.func129 rfl fun c₀ cs hu => ?_
  apply wpS_seq
  apply wpS_region
  simp [wpOpsS, go_sem, recoverD, hu, Tryz.ntmps129, Exit.thenS]
  apply wpS_seq
  apply wpS_region
  simp [wpOpsS, go_sem, Exit.thenS]
  refine wpS_cond (t := false) (by simp [Act.eval, Array.replicate]) ?_
  simp only [Bool.false_eq_true, if_false]
  refine wpS_of_wp (wp_skip ?_)
  cases c₀
  simp_all [bodyPostS, results, Tryz.results129]

set_option maxHeartbeats 400000 in
theorem attempt_bool_ok (K : Nat) (cap : Array Value) (v : Value) (w : World) (hcf : ∀ args w, (callFunc K args).run Tryz.prog w = .ok (.enter K args) w)
    (cc : ∀ W, Below w.heap.size w W → Calls Tryz.prog K cap W fun e w' => e = .returned v ∧ Below W.heap.size W w') :
    Calls Tryz.prog 93 #[.func (.func K) #[] cap] w fun e w' => e = .returned (.tuple #[v, .int .i64 0]) ∧ Below w.heap.size w w' := by
  have hmf : ∀ (fn : Fn) (first cap : Array Value) (w : World), (Instr.makeFunc fn first cap).run Tryz.prog w = .ok (.func fn first cap) w := fun _ _ _ _ => rfl
  have CC := Lib.hid (cc (w.alloc (.cells #[.int .i64 0] 24)) ((Below.refl _ _).alloc (Nat.le_refl _) _))
  clear cc
  go_enter_defers Tryz.func93, Tryz.ntmps93
  go_wp2_with (with_reducible refine CC.out.mono ?_; rintro e w1 ⟨rfl, hb⟩; obtain ⟨hc, hf⟩ := bcell hb)
  have k1 := set_same (w := w1) (a := ⟨w.heap.size, 0, none⟩) (x := .int .i64 0) (.int .i64 0) (by rw [hc _ _ (by simp)]; simp [go_sem])
  refine leaves_cons (f := 129) (args := #[.pointer (some ⟨w.heap.size, 0, none⟩)]) (by simp) (by simp [go_sem]) ?_
  refine (catch_idle_bool ⟨w.heap.size, 0, none⟩ _).mono ?_
  rintro e u' w'' ⟨rfl, rfl, rfl⟩
  simp [Leaves, settle, results, Tryz.results93, go_sem, k1]
  exact (((Below.refl w.heap.size w).alloc (Nat.le_refl _) _).trans (hb.mono (by simp))).setCell (by simp) _

set_option maxHeartbeats 400000 in
theorem attempt_bool_bad (K : Nat) (cap : Array Value) (n : Int) (w : World) (hcf : ∀ args w, (callFunc K args).run Tryz.prog w = .ok (.enter K args) w)
    (cc : ∀ W, Below w.heap.size w W → Calls Tryz.prog K cap W fun e w' => e = flt n ∧ Below W.heap.size W w') :
    Calls Tryz.prog 93 #[.func (.func K) #[] cap] w fun e w' => e = .returned (.tuple #[.bool false, .int .i64 n]) ∧ Below w.heap.size w w' := by
  have hmf : ∀ (fn : Fn) (first cap : Array Value) (w : World), (Instr.makeFunc fn first cap).run Tryz.prog w = .ok (.func fn first cap) w := fun _ _ _ _ => rfl
  have CC := Lib.hid (cc (w.alloc (.cells #[.int .i64 0] 24)) ((Below.refl _ _).alloc (Nat.le_refl _) _))
  clear cc
  go_enter_defers Tryz.func93, Tryz.ntmps93
  go_wp2_with (with_reducible refine CC.out.mono ?_; rintro e w1 ⟨rfl, hb⟩; obtain ⟨hc, hf⟩ := bcell hb)
  have k0 : w1.cell? ⟨w.heap.size, 0, none⟩ = some (.int .i64 0) := by rw [hc _ _ (by simp)]; simp [go_sem]
  have k1 := set_same (w := w1) (a := ⟨w.heap.size, 0, none⟩) (x := .int .i64 0) (.int .i64 n) k0
  refine leaves_cons (f := 129) (args := #[.pointer (some ⟨w.heap.size, 0, none⟩)]) (by simp) (by simp [go_sem]) ?_
  refine (catch_panicking_bool ⟨w.heap.size, 0, none⟩ 0 n [] _ k0 (by rw [hf _ _ (by simp)]; simp [go_sem])).mono ?_
  rintro e u' w'' ⟨rfl, rfl, rfl⟩
  simp [Leaves, settle, results, Tryz.results93, go_sem, k1]
  exact (((Below.refl w.heap.size w).alloc (Nat.le_refl _) _).trans (hb.mono (by simp))).setCell (by simp) _

set_option maxHeartbeats 400000 in
theorem catch_panicking_spot (p : Addr) (x n : Int) (older : List PanicEntry) (w : World) (hc : w.cell? p = some (.int .i64 x)) (hz : w.frozen? p = false) :
    CallsD Tryz.prog 124 #[.pointer (some p)] (.panicking ({ v := .iface 62 (.int .i64 n), recovered := false } :: older)) w fun e u' w' =>
      e = .returned (.tuple #[]) ∧ u' = .panicking ({ v := .iface 62 (.int .i64 n), recovered := true } :: older) ∧ w' = w.setCell p (.int .i64 n) := by
  refine callsD_of_wpS Tryz.func124 rfl fun c₀ cs hu => ?_
  apply wpS_seq
  apply wpS_region
  simp [wpOpsS, go_sem, recoverD, hu, Tryz.ntmps124, Exit.thenS]
  apply wpS_seq
  apply wpS_region
  simp [wpOpsS, go_sem, Exit.thenS]
  refine wpS_cond (t := true) (by simp [Act.eval, Array.replicate]) ?_
  simp only [if_true]
  refine wpS_of_wp ?_
  go_wp2_with (go_at_call 98; refine (cause_fault n _).mono ?_; rintro e w' ⟨rfl, rfl⟩)
  simp [bodyPostS, results, Tryz.results124]

theorem catch_idle_spot (p : Addr) (w : World) :
    CallsD Tryz.prog 124 #[.pointer (some p)] .returning w fun e u' w' => e = .returned (.tuple #[]) ∧ u' = .returning ∧ w' = w := by
  refine callsD_of_wpS Tryz.func124 rfl fun c₀ cs hu => ?_
  apply wpS_seq
  apply wpS_region
  simp [wpOpsS, go_sem, recoverD, hu, Tryz.ntmps124, Exit.thenS]
  apply wpS_seq
  apply wpS_region
  simp [wpOpsS, go_sem, Exit.thenS]
  refine wpS_cond (t := false) (by simp [Act.eval, Array.replicate]) ?_
  simp only [Bool.false_eq_true, if_false]
  refine wpS_of_wp (wp_skip ?_)
  cases c₀
  simp_all [bodyPostS, results, Tryz.results124]

set_option maxHeartbeats 400000 in
theorem attempt_spot_ok (K : Nat) (cap : Array Value) (x y : Int) (w : World) (hcf : ∀ args w, (callFunc K args).run Tryz.prog w = .ok (.enter K args) w)
    (cc : ∀ W, Below w.heap.size w W → Calls Tryz.prog K cap W fun e w' => e = .returned (.agg #[.int .i64 x, .int .i64 y]) ∧ Below W.heap.size W w') :
    Calls Tryz.prog 60 #[.func (.func K) #[] cap] w fun e w' => e = .returned (.tuple #[.agg #[.int .i64 x, .int .i64 y], .int .i64 0]) ∧ Below w.heap.size w w' := by
  have hmf : ∀ (fn : Fn) (first cap : Array Value) (w : World), (Instr.makeFunc fn first cap).run Tryz.prog w = .ok (.func fn first cap) w := fun _ _ _ _ => rfl
  have CC := Lib.hid (cc ((w.alloc (.cells #[.int .i64 0, .int .i64 0] 33)).alloc (.cells #[.int .i64 0] 24)) (((Below.refl _ _).alloc (Nat.le_refl _) _).alloc (by simp) _))
  clear cc
  go_enter_defers Tryz.func60, Tryz.ntmps60
  go_wp2_with (with_reducible refine CC.out.mono ?_; rintro e w1 ⟨rfl, hb⟩; obtain ⟨hc, hf⟩ := bcell hb)
  have c0 : w1.cell? ⟨w.heap.size, 0, none⟩ = some (.int .i64 0) := by rw [hc _ _ (by simp; omega)]; simp [go_sem]
  have c1 : w1.cell? ⟨w.heap.size, 1, none⟩ = some (.int .i64 0) := by rw [hc _ _ (by simp; omega)]; simp [go_sem]
  have c2 : w1.cell? ⟨w.heap.size + 1, 0, none⟩ = some (.int .i64 0) := by rw [hc _ _ (by simp)]; simp [go_sem]
  obtain ⟨k0, k1⟩ := set_pair (w := w1) (b := w.heap.size) (.int .i64 x) (.int .i64 y) c0 c1
  have k2 := set_same (w := (w1.setCell ⟨w.heap.size, 0, none⟩ (.int .i64 x)).setCell ⟨w.heap.size, 1, none⟩ (.int .i64 y)) (a := ⟨w.heap.size + 1, 0, none⟩) (x := .int .i64 0) (.int .i64 0)
    ((World.cell?_setCell_other _ _ _ _ (by simp)).trans ((World.cell?_setCell_other _ _ _ _ (by simp)).trans c2))
  refine leaves_cons (f := 124) (args := #[.pointer (some ⟨w.heap.size + 1, 0, none⟩)]) (by simp) (by simp [go_sem]) ?_
  refine (catch_idle_spot ⟨w.heap.size + 1, 0, none⟩ _).mono ?_
  rintro e u' w'' ⟨rfl, rfl, rfl⟩
  simp [Leaves, settle, results, Tryz.results60, go_sem, k0, k1, k2]
  exact (((((((Below.refl w.heap.size w).alloc (Nat.le_refl _) _).alloc (by simp) _).trans (hb.mono (by simp; omega))).setCell (by simp) _).setCell (by simp) _).setCell (by simp) _)

set_option maxHeartbeats 400000 in
theorem attempt_spot_bad (K : Nat) (cap : Array Value) (n : Int) (w : World) (hcf : ∀ args w, (callFunc K args).run Tryz.prog w = .ok (.enter K args) w)
    (cc : ∀ W, Below w.heap.size w W → Calls Tryz.prog K cap W fun e w' => e = flt n ∧ Below W.heap.size W w') :
    Calls Tryz.prog 60 #[.func (.func K) #[] cap] w fun e w' => e = .returned (.tuple #[.agg #[.int .i64 0, .int .i64 0], .int .i64 n]) ∧ Below w.heap.size w w' := by
  have hmf : ∀ (fn : Fn) (first cap : Array Value) (w : World), (Instr.makeFunc fn first cap).run Tryz.prog w = .ok (.func fn first cap) w := fun _ _ _ _ => rfl
  have CC := Lib.hid (cc ((w.alloc (.cells #[.int .i64 0, .int .i64 0] 33)).alloc (.cells #[.int .i64 0] 24)) (((Below.refl _ _).alloc (Nat.le_refl _) _).alloc (by simp) _))
  clear cc
  go_enter_defers Tryz.func60, Tryz.ntmps60
  go_wp2_with (with_reducible refine CC.out.mono ?_; rintro e w1 ⟨rfl, hb⟩; obtain ⟨hc, hf⟩ := bcell hb)
  have c0 : w1.cell? ⟨w.heap.size, 0, none⟩ = some (.int .i64 0) := by rw [hc _ _ (by simp; omega)]; simp [go_sem]
  have c1 : w1.cell? ⟨w.heap.size, 1, none⟩ = some (.int .i64 0) := by rw [hc _ _ (by simp; omega)]; simp [go_sem]
  have c2 : w1.cell? ⟨w.heap.size + 1, 0, none⟩ = some (.int .i64 0) := by rw [hc _ _ (by simp)]; simp [go_sem]
  have k2 := set_same (w := w1) (a := ⟨w.heap.size + 1, 0, none⟩) (x := .int .i64 0) (.int .i64 n) c2
  refine leaves_cons (f := 124) (args := #[.pointer (some ⟨w.heap.size + 1, 0, none⟩)]) (by simp) (by simp [go_sem]) ?_
  refine (catch_panicking_spot ⟨w.heap.size + 1, 0, none⟩ 0 n [] _ c2 (by rw [hf _ _ (by simp)]; simp [go_sem])).mono ?_
  rintro e u' w'' ⟨rfl, rfl, rfl⟩
  simp [Leaves, settle, results, Tryz.results60, go_sem, c0, c1, k2]
  exact ((((Below.refl w.heap.size w).alloc (Nat.le_refl _) _).alloc (by simp) _).trans (hb.mono (by simp; omega))).setCell (by simp) _

end Go.Proofs.YtebfhjndgfcijaaGreatDoor

namespace Go.Proofs.YtebfhjndgfcijaaGreatDoor
open Go Go.RowKit

set_option maxHeartbeats 400000 in
theorem need_ok (n b : Nat) (x : Nat → Int) (w : World) (hn : n ≤ 9223372036854775807) (hc : ∀ k, k < n → w.cell? ⟨b, k, none⟩ = some (.int .i64 (x k))) (hv : ∀ k, k < n → Vld (x k)) :
    Calls Tryz.prog 62 #[.slice (some ⟨b, 0, none⟩) n n] w fun e w' => e = .returned (.tuple #[]) ∧ w = w' := by
  have HC := Lib.hid hc
  have HV := Lib.hid hv
  clear hc hv
  go_enter Tryz.func62, Tryz.ntmps62
  go_wp2_with fail
  go_loop [6] (fun i => ∃ k : Nat, k ≤ n ∧ i = .int .i64 k) (fun i => n - (intOf i).toNat)
  case atStart => exact ⟨0, Nat.zero_le _, rfl⟩
  case round =>
    obtain ⟨k, hk, rfl⟩ := hrel
    by_cases hlt : k < n
    · have hcell := HC.out k hlt
      have hvk := Lib.hid (HV.out k hlt)
      go_wp2_with (go_at_call 54; refine (check_ok _ _ hvk.out).mono ?_; rintro e w' ⟨rfl, rfl⟩)
      go_round
      case rel => exact ⟨k + 1, by omega, by go_num⟩
      case measure => simp [intOf]; omega
    · go_wp2_with fail
      go_end0
      exact ⟨rfl, rfl⟩

set_option maxHeartbeats 400000 in
theorem need_bad (n b j : Nat) (x : Nat → Int) (w : World) (hn : n ≤ 9223372036854775807) (hj : j < n) (hc : ∀ k, k < n → w.cell? ⟨b, k, none⟩ = some (.int .i64 (x k))) (hv : ∀ k, k < j → Vld (x k)) (hb : ¬ Vld (x j)) :
    Calls Tryz.prog 62 #[.slice (some ⟨b, 0, none⟩) n n] w fun e w' => e = flt 2 ∧ w = w' := by
  have HC := Lib.hid hc
  have HV := Lib.hid hv
  have HB := Lib.hid hb
  clear hc hv hb
  go_enter Tryz.func62, Tryz.ntmps62
  go_wp2_with fail
  go_loop [6] (fun i => ∃ k : Nat, k ≤ j ∧ i = .int .i64 k) (fun i => j - (intOf i).toNat)
  case atStart => exact ⟨0, Nat.zero_le _, rfl⟩
  case round =>
    obtain ⟨k, hk, rfl⟩ := hrel
    have hlt : k < n := by omega
    have hcell := HC.out k hlt
    by_cases hkj : k < j
    · have hvk := Lib.hid (HV.out k hkj)
      go_wp2_with (go_at_call 54; refine (check_ok _ _ hvk.out).mono ?_; rintro e w' ⟨rfl, rfl⟩)
      go_round
      case rel => exact ⟨k + 1, by omega, by go_num⟩
      case measure => simp [intOf]; omega
    · obtain rfl : j = k := by omega
      go_wp2_with (go_at_call 54; refine (check_bad _ _ HB.out).mono ?_; rintro e w' ⟨rfl, rfl⟩)
      exact ⟨rfl, rfl, rfl⟩

/-- attempt, both ways in one: a value with the error 0, or the value 0 with an error. -/
theorem attempt_fix (K : Nat) (cap : Array Value) (r : Int × Int) (w : World) (hcf : ∀ args w, (callFunc K args).run Tryz.prog w = .ok (.enter K args) w)
    (cc : (r.2 = 0 ∧ ∀ W, Below w.heap.size w W → Calls Tryz.prog K cap W fun e w' => e = .returned (.int .i64 r.1) ∧ Below W.heap.size W w') ∨
      (r.1 = 0 ∧ ∀ W, Below w.heap.size w W → Calls Tryz.prog K cap W fun e w' => e = flt r.2 ∧ Below W.heap.size W w')) :
    Calls Tryz.prog 34 #[.func (.func K) #[] cap] w fun e w' => e = .returned (.tuple #[.int .i64 r.1, .int .i64 r.2]) ∧ Below w.heap.size w w' := by
  rcases cc with ⟨h, cc⟩ | ⟨h, cc⟩
  · rw [h]; exact attempt_fix_ok K cap _ w hcf cc
  · rw [h]; exact attempt_fix_bad K cap _ w hcf cc

/-- attempt, both ways in one: a value with the error 0, or the value 0 with an error. -/
theorem attempt_int (K : Nat) (cap : Array Value) (r : Int × Int) (w : World) (hcf : ∀ args w, (callFunc K args).run Tryz.prog w = .ok (.enter K args) w)
    (cc : (r.2 = 0 ∧ ∀ W, Below w.heap.size w W → Calls Tryz.prog K cap W fun e w' => e = .returned (.int .i64 r.1) ∧ Below W.heap.size W w') ∨
      (r.1 = 0 ∧ ∀ W, Below w.heap.size w W → Calls Tryz.prog K cap W fun e w' => e = flt r.2 ∧ Below W.heap.size W w')) :
    Calls Tryz.prog 88 #[.func (.func K) #[] cap] w fun e w' => e = .returned (.tuple #[.int .i64 r.1, .int .i64 r.2]) ∧ Below w.heap.size w w' := by
  rcases cc with ⟨h, cc⟩ | ⟨h, cc⟩
  · rw [h]; exact attempt_int_ok K cap _ w hcf cc
  · rw [h]; exact attempt_int_bad K cap _ w hcf cc

/-- attempt at a spot, both ways in one. -/
theorem attempt_spot (K : Nat) (cap : Array Value) (x y n : Int) (w : World) (hcf : ∀ args w, (callFunc K args).run Tryz.prog w = .ok (.enter K args) w)
    (cc : (n = 0 ∧ ∀ W, Below w.heap.size w W → Calls Tryz.prog K cap W fun e w' => e = .returned (.agg #[.int .i64 x, .int .i64 y]) ∧ Below W.heap.size W w') ∨
      ((x = 0 ∧ y = 0) ∧ ∀ W, Below w.heap.size w W → Calls Tryz.prog K cap W fun e w' => e = flt n ∧ Below W.heap.size W w')) :
    Calls Tryz.prog 60 #[.func (.func K) #[] cap] w fun e w' => e = .returned (.tuple #[.agg #[.int .i64 x, .int .i64 y], .int .i64 n]) ∧ Below w.heap.size w w' := by
  rcases cc with ⟨h, cc⟩ | ⟨⟨h, h'⟩, cc⟩
  · rw [h]; exact attempt_spot_ok K cap _ _ w hcf cc
  · rw [h, h']; exact attempt_spot_bad K cap _ w hcf cc

/-- attempt at a bool, both ways in one. -/
theorem attempt_bool (K : Nat) (cap : Array Value) (b : Bool) (n : Int) (w : World) (hcf : ∀ args w, (callFunc K args).run Tryz.prog w = .ok (.enter K args) w)
    (cc : (n = 0 ∧ ∀ W, Below w.heap.size w W → Calls Tryz.prog K cap W fun e w' => e = .returned (.bool b) ∧ Below W.heap.size W w') ∨
      (b = false ∧ ∀ W, Below w.heap.size w W → Calls Tryz.prog K cap W fun e w' => e = flt n ∧ Below W.heap.size W w')) :
    Calls Tryz.prog 93 #[.func (.func K) #[] cap] w fun e w' => e = .returned (.tuple #[.bool b, .int .i64 n]) ∧ Below w.heap.size w w' := by
  rcases cc with ⟨h, cc⟩ | ⟨h, cc⟩
  · rw [h]; exact attempt_bool_ok K cap _ w hcf cc
  · rw [h]; exact attempt_bool_bad K cap _ w hcf cc

end Go.Proofs.YtebfhjndgfcijaaGreatDoor

namespace Go.Proofs.YtebfhjndgfcijaaGreatDoor
open Go Go.RowKit

theorem vld_mul {a b : Int} (ha : Vld a) (hb : Vld b) : -170141183460469231731687303715884105728 < a * b ∧ a * b < 170141183460469231731687303715884105728 := by
  obtain ⟨a0, a1⟩ := ha
  obtain ⟨b0, b1⟩ := hb
  have h := natAbs_mul_lt (a := a) (b := b) (by omega) (by omega) (by omega) (by omega)
  have e := Int.natAbs_mul a b
  omega

theorem alloc_cell {w : World} {o : Obj} {a : Addr} {v : Value} (h : w.cell? a = some v) : (w.alloc o).cell? a = some v :=
  cell_later ((Below.refl _ w).alloc (Nat.le_refl _) o) h

/-- What does not happen; and a contract that ends in a fault, with a second way that no run takes: for a region that draws its order, which asks that one way goes on. -/
def Never : Prop := False
theorem or_never {P : Program} {f : FuncId} {args : Array Value} {w : World} {R R' : Ending → World → Prop} (h : Calls P f args w R) : Calls P f args w fun e w' => R e w' ∨ (Never ∧ R' e w') :=
  h.mono fun _ _ h => .inl h

theorem old_block {w : World} {B : Nat} {v : Value} (h : w.cell? ⟨B, 0, none⟩ = some v) : B < w.heap.size := by
  exact World.block_lt_of_cell? _ _ h

theorem need1_cells (a : Int) (B : Nat) (w : World) (h0 : w.cell? ⟨B, 0, none⟩ = some (.int .i64 a)) :
    ∀ k, k < 1 → w.cell? ⟨B, k, none⟩ = some (.int .i64 ((fun _ => a) k)) := fun k hk => by
  rcases k with _ | k
  · exact h0
  · omega

theorem need1_ok (a : Int) (B : Nat) (w : World) (hv : Vld a) (h0 : w.cell? ⟨B, 0, none⟩ = some (.int .i64 a)) :
    Calls Tryz.prog 62 #[.slice (some ⟨B, 0, none⟩) 1 1] w fun e w' => e = .returned (.tuple #[]) ∧ w = w' :=
  need_ok 1 B (fun _ => a) w (by omega) (need1_cells a B w h0) (fun k hk => by
    rcases k with _ | k
    · exact hv
    · omega)

theorem need1_bad (a : Int) (B : Nat) (w : World) (hv : ¬ (Vld a)) (h0 : w.cell? ⟨B, 0, none⟩ = some (.int .i64 a)) :
    Calls Tryz.prog 62 #[.slice (some ⟨B, 0, none⟩) 1 1] w fun e w' => e = flt 2 ∧ w = w' := by
  have hc := need1_cells a B w h0
  by_cases g0 : Vld a
  case neg =>
    exact need_bad 1 B 0 (fun _ => a) w (by omega) (by omega) hc (fun k hk => by
      rcases k with _ | k
      · omega
      · omega) g0
  exact absurd (g0) hv

theorem need2_cells (a b : Int) (B : Nat) (w : World) (h0 : w.cell? ⟨B, 0, none⟩ = some (.int .i64 a)) (h1 : w.cell? ⟨B, 1, none⟩ = some (.int .i64 b)) :
    ∀ k, k < 2 → w.cell? ⟨B, k, none⟩ = some (.int .i64 ((fun k => if k = 0 then a else b) k)) := fun k hk => by
  rcases k with _ | _ | k
  · exact h0
  · exact h1
  · omega

theorem need2_ok (a b : Int) (B : Nat) (w : World) (hv : Vld a ∧ Vld b) (h0 : w.cell? ⟨B, 0, none⟩ = some (.int .i64 a)) (h1 : w.cell? ⟨B, 1, none⟩ = some (.int .i64 b)) :
    Calls Tryz.prog 62 #[.slice (some ⟨B, 0, none⟩) 2 2] w fun e w' => e = .returned (.tuple #[]) ∧ w = w' :=
  need_ok 2 B (fun k => if k = 0 then a else b) w (by omega) (need2_cells a b B w h0 h1) (fun k hk => by
    rcases k with _ | _ | k
    · exact hv.1
    · exact hv.2
    · omega)

theorem need2_bad (a b : Int) (B : Nat) (w : World) (hv : ¬ (Vld a ∧ Vld b)) (h0 : w.cell? ⟨B, 0, none⟩ = some (.int .i64 a)) (h1 : w.cell? ⟨B, 1, none⟩ = some (.int .i64 b)) :
    Calls Tryz.prog 62 #[.slice (some ⟨B, 0, none⟩) 2 2] w fun e w' => e = flt 2 ∧ w = w' := by
  have hc := need2_cells a b B w h0 h1
  by_cases g0 : Vld a
  case neg =>
    exact need_bad 2 B 0 (fun k => if k = 0 then a else b) w (by omega) (by omega) hc (fun k hk => by
      rcases k with _ | k
      · omega
      · omega) g0
  by_cases g1 : Vld b
  case neg =>
    exact need_bad 2 B 1 (fun k => if k = 0 then a else b) w (by omega) (by omega) hc (fun k hk => by
      rcases k with _ | k
      · exact g0
      · omega) g1
  exact absurd (⟨g0, g1⟩) hv

theorem need3_cells (a b c : Int) (B : Nat) (w : World) (h0 : w.cell? ⟨B, 0, none⟩ = some (.int .i64 a)) (h1 : w.cell? ⟨B, 1, none⟩ = some (.int .i64 b)) (h2 : w.cell? ⟨B, 2, none⟩ = some (.int .i64 c)) :
    ∀ k, k < 3 → w.cell? ⟨B, k, none⟩ = some (.int .i64 ((fun k => if k = 0 then a else if k = 1 then b else c) k)) := fun k hk => by
  rcases k with _ | _ | _ | k
  · exact h0
  · exact h1
  · exact h2
  · omega

theorem need3_ok (a b c : Int) (B : Nat) (w : World) (hv : Vld a ∧ Vld b ∧ Vld c) (h0 : w.cell? ⟨B, 0, none⟩ = some (.int .i64 a)) (h1 : w.cell? ⟨B, 1, none⟩ = some (.int .i64 b)) (h2 : w.cell? ⟨B, 2, none⟩ = some (.int .i64 c)) :
    Calls Tryz.prog 62 #[.slice (some ⟨B, 0, none⟩) 3 3] w fun e w' => e = .returned (.tuple #[]) ∧ w = w' :=
  need_ok 3 B (fun k => if k = 0 then a else if k = 1 then b else c) w (by omega) (need3_cells a b c B w h0 h1 h2) (fun k hk => by
    rcases k with _ | _ | _ | k
    · exact hv.1
    · exact hv.2.1
    · exact hv.2.2
    · omega)

theorem need3_bad (a b c : Int) (B : Nat) (w : World) (hv : ¬ (Vld a ∧ Vld b ∧ Vld c)) (h0 : w.cell? ⟨B, 0, none⟩ = some (.int .i64 a)) (h1 : w.cell? ⟨B, 1, none⟩ = some (.int .i64 b)) (h2 : w.cell? ⟨B, 2, none⟩ = some (.int .i64 c)) :
    Calls Tryz.prog 62 #[.slice (some ⟨B, 0, none⟩) 3 3] w fun e w' => e = flt 2 ∧ w = w' := by
  have hc := need3_cells a b c B w h0 h1 h2
  by_cases g0 : Vld a
  case neg =>
    exact need_bad 3 B 0 (fun k => if k = 0 then a else if k = 1 then b else c) w (by omega) (by omega) hc (fun k hk => by
      rcases k with _ | k
      · omega
      · omega) g0
  by_cases g1 : Vld b
  case neg =>
    exact need_bad 3 B 1 (fun k => if k = 0 then a else if k = 1 then b else c) w (by omega) (by omega) hc (fun k hk => by
      rcases k with _ | k
      · exact g0
      · omega) g1
  by_cases g2 : Vld c
  case neg =>
    exact need_bad 3 B 2 (fun k => if k = 0 then a else if k = 1 then b else c) w (by omega) (by omega) hc (fun k hk => by
      rcases k with _ | _ | k
      · exact g0
      · exact g1
      · omega) g2
  exact absurd (⟨g0, g1, g2⟩) hv

theorem need4_cells (a b c d : Int) (B : Nat) (w : World) (h0 : w.cell? ⟨B, 0, none⟩ = some (.int .i64 a)) (h1 : w.cell? ⟨B, 1, none⟩ = some (.int .i64 b)) (h2 : w.cell? ⟨B, 2, none⟩ = some (.int .i64 c)) (h3 : w.cell? ⟨B, 3, none⟩ = some (.int .i64 d)) :
    ∀ k, k < 4 → w.cell? ⟨B, k, none⟩ = some (.int .i64 ((fun k => if k = 0 then a else if k = 1 then b else if k = 2 then c else d) k)) := fun k hk => by
  rcases k with _ | _ | _ | _ | k
  · exact h0
  · exact h1
  · exact h2
  · exact h3
  · omega

theorem need4_ok (a b c d : Int) (B : Nat) (w : World) (hv : Vld a ∧ Vld b ∧ Vld c ∧ Vld d) (h0 : w.cell? ⟨B, 0, none⟩ = some (.int .i64 a)) (h1 : w.cell? ⟨B, 1, none⟩ = some (.int .i64 b)) (h2 : w.cell? ⟨B, 2, none⟩ = some (.int .i64 c)) (h3 : w.cell? ⟨B, 3, none⟩ = some (.int .i64 d)) :
    Calls Tryz.prog 62 #[.slice (some ⟨B, 0, none⟩) 4 4] w fun e w' => e = .returned (.tuple #[]) ∧ w = w' :=
  need_ok 4 B (fun k => if k = 0 then a else if k = 1 then b else if k = 2 then c else d) w (by omega) (need4_cells a b c d B w h0 h1 h2 h3) (fun k hk => by
    rcases k with _ | _ | _ | _ | k
    · exact hv.1
    · exact hv.2.1
    · exact hv.2.2.1
    · exact hv.2.2.2
    · omega)

theorem need4_bad (a b c d : Int) (B : Nat) (w : World) (hv : ¬ (Vld a ∧ Vld b ∧ Vld c ∧ Vld d)) (h0 : w.cell? ⟨B, 0, none⟩ = some (.int .i64 a)) (h1 : w.cell? ⟨B, 1, none⟩ = some (.int .i64 b)) (h2 : w.cell? ⟨B, 2, none⟩ = some (.int .i64 c)) (h3 : w.cell? ⟨B, 3, none⟩ = some (.int .i64 d)) :
    Calls Tryz.prog 62 #[.slice (some ⟨B, 0, none⟩) 4 4] w fun e w' => e = flt 2 ∧ w = w' := by
  have hc := need4_cells a b c d B w h0 h1 h2 h3
  by_cases g0 : Vld a
  case neg =>
    exact need_bad 4 B 0 (fun k => if k = 0 then a else if k = 1 then b else if k = 2 then c else d) w (by omega) (by omega) hc (fun k hk => by
      rcases k with _ | k
      · omega
      · omega) g0
  by_cases g1 : Vld b
  case neg =>
    exact need_bad 4 B 1 (fun k => if k = 0 then a else if k = 1 then b else if k = 2 then c else d) w (by omega) (by omega) hc (fun k hk => by
      rcases k with _ | k
      · exact g0
      · omega) g1
  by_cases g2 : Vld c
  case neg =>
    exact need_bad 4 B 2 (fun k => if k = 0 then a else if k = 1 then b else if k = 2 then c else d) w (by omega) (by omega) hc (fun k hk => by
      rcases k with _ | _ | k
      · exact g0
      · exact g1
      · omega) g2
  by_cases g3 : Vld d
  case neg =>
    exact need_bad 4 B 3 (fun k => if k = 0 then a else if k = 1 then b else if k = 2 then c else d) w (by omega) (by omega) hc (fun k hk => by
      rcases k with _ | _ | _ | k
      · exact g0
      · exact g1
      · exact g2
      · omega) g3
  exact absurd (⟨g0, g1, g2, g3⟩) hv

end Go.Proofs.YtebfhjndgfcijaaGreatDoor
