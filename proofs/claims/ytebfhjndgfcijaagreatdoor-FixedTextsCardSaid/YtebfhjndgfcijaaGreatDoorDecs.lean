/- The contract of package fixed's decimals: an iterator of the decimal digits of part / 65536. -/
import Derived.Test.YtebfhjndgfcijaaGreatDoorRead
namespace Go.Proofs.YtebfhjndgfcijaaGreatDoor
open Go Go.RowKit Go.Shelf
attribute [local go_sem] Oper.semAt_some

/-- A decimal digit. -/
abbrev D10 := { x : Nat // x < 10 }

/-- The digits of r / 65536, so many at most. -/
def decs : Nat → Nat → List D10
  | 0, _ => []
  | f + 1, r => if r = 0 then [] else ⟨r * 10 / 65536 % 10, Nat.mod_lt _ (by decide)⟩ :: decs f (r * 10 % 65536)
/-- All of them. -/
def dL (r : Nat) : List D10 := decs 17 r

theorem decs_more : ∀ (f r : Nat), r < 65536 → r * 2 ^ f % 65536 = 0 → decs f r = decs (f + 1) r := by
  intro f
  induction f with
  | zero =>
    intro r h0 h1
    have : r = 0 := by rw [Nat.pow_zero, Nat.mul_one] at h1; omega
    subst this
    rfl
  | succ f ih =>
    intro r h0 h1
    show (if r = 0 then [] else _ :: decs f (r * 10 % 65536)) = (if r = 0 then [] else _ :: decs (f + 1) (r * 10 % 65536))
    by_cases h : r = 0
    · rw [if_pos h, if_pos h]
    · rw [if_neg h, if_neg h, ih (r * 10 % 65536) (Nat.mod_lt _ (by decide))]
      rw [Nat.mod_mul_mod, show r * 10 * 2 ^ f = r * 2 ^ (f + 1) * 5 by rw [Nat.pow_succ]; grind, Nat.mul_mod, h1, Nat.zero_mul]

theorem dL_step (r : Nat) (_h0 : r < 65536) : dL r = if r = 0 then [] else ⟨r * 10 / 65536 % 10, Nat.mod_lt _ (by decide)⟩ :: dL (r * 10 % 65536) := by
  show (if r = 0 then [] else _ :: decs 16 (r * 10 % 65536)) = (if r = 0 then [] else _ :: decs 17 (r * 10 % 65536))
  rw [decs_more 16 (r * 10 % 65536) (Nat.mod_lt _ (by decide))]
  rw [show (2 : Nat) ^ 16 = 65536 by decide]
  exact Nat.mul_mod_left _ _

theorem decs_length : ∀ f r : Nat, (decs f r).length ≤ f := by
  intro f
  induction f with
  | zero => intro r; exact Nat.le_refl _
  | succ f ih =>
    intro r
    unfold decs
    split
    · exact Nat.zero_le _
    · rw [List.length_cons]; have := ih (r * 10 % 65536); omega
theorem dL_length (r : Nat) : (dL r).length ≤ 17 := decs_length 17 r

theorem decimals_any (p : Int) (w : World) :
    CallsIn Fence.wide 2 Tryz.prog 56 #[.int .u64 p] w fun e w' => e = .returned (.func (.func 123) #[] #[.pointer (some ⟨w.heap.size, 0, none⟩)]) ∧ w' = w.alloc (.cells #[.int .u64 p] 66) := by
  refine callsIn_wide.2 ?_
  have hmf : ∀ (fn : Fn) (first cap : Array Value) (w : World), (Instr.makeFunc fn first cap).run Tryz.prog w = .ok (.func fn first cap) w := fun _ _ _ _ => rfl
  go_enter Tryz.func56, Tryz.ntmps56
  go_wp2
  go_ret
  exact ⟨rfl, rfl⟩

set_option maxRecDepth 100000 in
set_option maxHeartbeats 2000000 in
/-- The iterator's own walk: it hands on digit by digit, as long as the loop's body says yes. D: the digits, in a letter. -/
theorem decimals1_gen (D : Nat → List D10) (hnil : D 0 = []) (hcons : ∀ r, r < 65536 → r ≠ 0 → ∃ x : D10, (x.1 : Int) = (r * 10 / 65536 : Nat) ∧ D r = x :: D (r * 10 % 65536))
    (n : Nat) (_hn : 1 ≤ n) (l Bs p : Nat) (hp : p < 65536) (J Jx : List D10 → World → Prop)
    (hY : ∀ pre x W, J pre W → pre.length < (D p).length → YieldAt Fence.wide (n - 1) Tryz.prog l #[.int .u8 (48 + (x.1 : Int))] W fun e W' =>
      (e = .returned (.bool true) ∧ J (pre ++ [x]) W' ∧ KeepsBox Bs W W') ∨ (e = .returned (.bool false) ∧ Jx (pre ++ [x]) W'))
    (W : World) (hBs : W.cell? ⟨Bs, 0, none⟩ = some (.int .u64 p)) (h0 : J [] W) :
    CallsIn Fence.wide n Tryz.prog 123 #[.func (.yield l) #[] #[], .pointer (some ⟨Bs, 0, none⟩)] W fun e W' => (∃ v, e = .returned v) ∧
      ((∃ ys, ys = D p ∧ J ys W') ∨ (∃ pre, pre <+: D p ∧ Jx pre W')) := by
  refine callsIn_of_wp Tryz.func123 rfl trivial ?_ rfl
  simp only [Tryz.ntmps123, List.size_toArray, List.length_cons, List.length_nil, Nat.reduceAdd, Nat.reduceSub, Array.replicate_succ, Array.replicate_zero, List.push_toArray, List.append_toArray, List.nil_append, List.cons_append]
  obtain ⟨M, hM⟩ : ∃ M : Nat → Nat, ∀ r, M r = (D (r / 10)).length := ⟨_, fun _ => rfl⟩
  have HM := Lib.hid hM
  have HC := Lib.hid hcons
  have HN := Lib.hid hnil
  have HP := Lib.hid hp
  obtain ⟨P, hP⟩ : ∃ P : Int, (p : Int) = P := ⟨_, rfl⟩
  have hP1 : P * 10 ≤ 655350 := by omega
  have hP0 : 0 ≤ P * 10 := by omega
  have HT : Hid (P * 10 = ((p * 10 : Nat) : Int)) := by show _ = _; omega
  rw [hP] at hBs
  clear hP
  clear hM hcons hnil hp
  gi_wp2
  gi_loopw [3] (fun i wr => ∃ (r : Nat) (R : Int) (pre : List D10), i = .int .u64 R ∧ Hid (r < 65536 ∧ R = ((r * 10 : Nat) : Int) ∧ pre ++ D r = D p) ∧ J pre wr ∧ KeepsBox Bs W wr)
    (fun i _ => M (intOf i).toNat)
  case atStart => exact ⟨p, _, [], rfl, ⟨HP.out, HT.out, rfl⟩, h0, fun _ h => h⟩
  case round =>
    obtain ⟨r, R, pre, rfl, hI, hJs, hkb⟩ := hrel
    have hR1 : R ≤ 655350 := by have := hI.out; omega
    by_cases hz : r = 0
    · have hz' : R ≤ 0 := by have := hI.out; omega
      have hd : pre = D p := by have := hI.out.2.2; rw [hz, HN.out, List.append_nil] at this; exact this
      have HD := Lib.hid hd
      have HJ := Lib.hid hJs
      clear hd hJs hI hz
      gi_wp2
      go_end0
      exact ⟨⟨_, rfl⟩, .inl ⟨_, HD.out, HJ.out⟩⟩
    · have hz' : 0 < R := by have := hI.out; omega
      obtain ⟨x, hx, hdz⟩ := HC.out r hI.out.1 hz
      have hlt : pre.length < (D p).length := by rw [← hI.out.2.2, List.length_append, hdz, List.length_cons]; omega
      obtain ⟨fn, tmps, assign, body, hy, hR⟩ := hY _ x wr hJs hlt
      obtain ⟨X, hX⟩ : ∃ X : Int, 48 + (x.1 : Int) = X := ⟨_, rfl⟩
      rw [hX] at hy
      have hq : 48 + R / 65536 = X := by have := hI.out.2.1; omega
      obtain ⟨R2, hR2⟩ : ∃ R2 : Int, R % 65536 * 10 = R2 := ⟨_, rfl⟩
      have HR2 : Hid (R2 = ((r * 10 % 65536 * 10 : Nat) : Int)) := by show _ = _; have := hI.out.2.1; omega
      have HL := Lib.hid hlt
      have HZ := Lib.hid hdz
      clear hlt hdz hx hz hX
      gi_wp2
      refine hR.mono ?_
      rintro e W3 (⟨rfl, hJ3, hk3⟩ | ⟨rfl, hJx3⟩)
      · gi_wp2
        go_roundw
        case rel =>
          refine ⟨r * 10 % 65536, R2, pre ++ [x], by go_num, ⟨Nat.mod_lt _ (by decide), HR2.out, ?_⟩, hJ3, keepsBox_t hkb hk3⟩
          rw [List.append_assoc, ← hI.out.2.2, HZ.out]
          rfl
        case measure =>
          have h1 := HM.out R.toNat
          have h2 := HM.out R2.toNat
          have e1 : R.toNat / 10 = r := by have := hI.out.2.1; omega
          have e2 : R2.toNat / 10 = r * 10 % 65536 := by have := HR2.out; omega
          rw [e1, HZ.out] at h1
          rw [e2] at h2
          show M R2.toNat < M R.toNat
          rw [h1, h2]
          exact Nat.lt_succ_self _
      · gi_wp2
        refine bodyPost_ret (results_none rfl _ _ _) rfl ?_
        refine ⟨⟨_, rfl⟩, .inr ⟨_, ?_, hJx3⟩⟩
        rw [← hI.out.2.2, HZ.out]
        exact ⟨D (r * 10 % 65536), by rw [List.append_assoc]; rfl⟩

theorem dL_cons (r : Nat) (h0 : r < 65536) (h1 : r ≠ 0) : ∃ x : D10, (x.1 : Int) = (r * 10 / 65536 : Nat) ∧ dL r = x :: dL (r * 10 % 65536) :=
  ⟨⟨r * 10 / 65536 % 10, Nat.mod_lt _ (by decide)⟩, by show ((r * 10 / 65536 % 10 : Nat) : Int) = _; omega, by rw [dL_step r h0, if_neg h1]⟩

theorem decimals_stops (n : Nat) (hn : 1 ≤ n) (Bs p : Nat) (hp : p < 65536) (w : World) (hBs : w.cell? ⟨Bs, 0, none⟩ = some (.int .u64 p)) :
    SeqStopsK Fence.wide n Tryz.prog 123 #[.pointer (some ⟨Bs, 0, none⟩)] (fun x : D10 => #[.int .u8 (48 + (x.1 : Int))]) (KeepsBox Bs) (fun xs => xs = dL p) (fun pre => pre <+: dL p) (dL p).length w :=
  fun l J Jx W hW _ _ hY h0 => decimals1_gen dL rfl dL_cons n hn l Bs p hp J Jx hY W (cell_later hW hBs) h0

end Go.Proofs.YtebfhjndgfcijaaGreatDoor
