/- The contracts of package fixed's wholeRoot and root at every number from 0 to below 2 to the power of 94. -/
import Derived.Test.YtfpfpmacobkmhaaGreatDoorRooted
import Derived.Test.YtfpfpmacobkmhaaGreatDoorOvs
import Derived.Test.YtfpfpmacobkmhaaGreatDoorReads
import Derived.Test.YtfpfpmacobkmhaaGreatDoorShelf
namespace Go.Proofs.YtfpfpmacobkmhaaGreatDoor
open Go Go.RowKit

set_option maxHeartbeats 400000 in
theorem whole_zero (w : World) :
    Calls Tryz.prog 82 #[.agg #[.int .i64 0, .int .u64 0]] w fun e w' => e = .returned (.int .i64 0) ∧ Below w.heap.size w w' := by
  go_enter Tryz.func82, Tryz.ntmps82
  go_wp2
  go_ret
  exact ⟨rfl, (Below.refl _ _).alloc (Nat.le_refl _) _⟩

theorem pow_lt {V n k R : Nat} (hV : V < 2 ^ n) (hn : n ≤ k + k) (hR : 2 ^ k = R) : V < (R + 1) * (R + 1) := by
  have h1 := Nat.pow_le_pow_right (show 0 < 2 by omega) hn
  rw [Nat.pow_add, hR] at h1
  have h2 := sq_mono (show R ≤ R + 1 by omega)
  omega

theorem bitLen_lt {h : Nat} (hh : h < 2 ^ 64) : h < 2 ^ Lib.bitLen h := by
  by_cases h0 : h = 0
  · subst h0
    exact Nat.two_pow_pos _
  · obtain ⟨n, hn, _, _, h3⟩ := bitLen_bd 64 h hh (by omega) h0
    rw [hn]
    exact h3

theorem whole_any (V : Nat) (w : World) (hV : V < 19807040628566084398385987584) :
    Calls Tryz.prog 82 #[.agg #[.int .i64 (hiOf V), .int .u64 (loOf V)]] w fun e w' => e = .returned (.int .i64 (isq V)) ∧ Below w.heap.size w w' := by
  obtain ⟨h, hh⟩ : ∃ h, V / 18446744073709551616 = h := ⟨_, rfl⟩
  obtain ⟨l, hl⟩ : ∃ l, V % 18446744073709551616 = l := ⟨_, rfl⟩
  have e1 : hiOf V = h := by unfold hiOf; omega
  have e2 : loOf V = l := by unfold loOf; omega
  have e3 : V = h * 18446744073709551616 + l := by omega
  have h1 : h < 1073741824 := by omega
  have h2 : l < 18446744073709551616 := by omega
  rw [e1, e2]
  clear hh hl e1 e2 hV
  by_cases h0 : V = 0
  · have : h = 0 := by omega
    subst this
    have : l = 0 := by omega
    subst this
    have hi : isq V = 0 := isq_is (by omega) (by omega)
    rw [hi]
    exact whole_zero w
  · have hcl := Lib.bitLen_le l 64 (by omega) h2
    have hch := Lib.bitLen_le h 30 (by omega) h1
    have s1 := bitLen_lt (h := l) h2
    have s2 := bitLen_lt (h := h) (by omega)
    obtain ⟨n0, hn0⟩ : ∃ n, Lib.bitLen l = n := ⟨_, rfl⟩
    obtain ⟨n1, hn1⟩ : ∃ n, Lib.bitLen h = n := ⟨_, rfl⟩
    rw [hn0] at hcl s1
    rw [hn1] at hch s2
    have cl : ∀ w, Calls Tryz.prog 101 #[.int .u64 l] w fun e w' => e = .returned (.int .i64 n0) ∧ w' = w := fun w => by
      have := Tryz.bits_Len64 (l : Int) w (by omega) (by omega)
      rw [Int.toNat_natCast, hn0] at this
      exact this
    have ch : ∀ w, Calls Tryz.prog 101 #[.int .u64 h] w fun e w' => e = .returned (.int .i64 n1) ∧ w' = w := fun w => by
      have := Tryz.bits_Len64 (h : Int) w (by omega) (by omega)
      rw [Int.toNat_natCast, hn1] at this
      exact this
    by_cases hz : h = 0
    · have hk : (n0 + 1) / 2 ≤ 47 := by omega
      have hp := Nat.pow_le_pow_right (show 0 < 2 by omega) hk
      exact whole_one V h l n0 ((n0 + 1) / 2) _ w e3 (by omega) h1 h2 hcl rfl hk cl rfl (Nat.two_pow_pos _) (by omega)
        (pow_lt (n := n0) (by omega) (by omega) rfl) hz
    · have hk : (n1 + 65) / 2 ≤ 47 := by omega
      have hp := Nat.pow_le_pow_right (show 0 < 2 by omega) hk
      exact whole_two V h l n1 ((n1 + 65) / 2) _ n0 w e3 (by omega) h1 h2 (by omega) rfl hk cl ch rfl (Nat.two_pow_pos _) (by omega)
        (pow_lt (n := n1 + 64) (by rw [Nat.pow_add]; omega) (by omega) rfl) (by omega)

/-- The rounded root. -/
noncomputable def rootS (how : Int) (V : Nat) : Int := (isq V : Int) + if upB how false ((V : Int) - (isq V : Int) * (isq V : Int)) (2 * (isq V : Int) + 1) then 1 else 0

theorem isq_bd {V : Nat} (hV : V < 19807040628566084398385987584) : isq V < 140737488355328 :=
  sq_lt (Nat.lt_of_le_of_lt (isq_le V) (by omega))

theorem up_at (how : Int) (h0 : 0 ≤ how) (h1 : how ≤ 3) (r g : Int) (r0 : 0 ≤ r) (r1 : r < g) (hg : g ≤ 9223372036854775807) (B : Bool) (hB : upB how false r g = B) :
    ∀ w, Calls Tryz.prog (wayFn how) #[.bool false, .int .u64 r, .int .u64 g] w fun e w' => e = .returned (.bool B) ∧ w = w' := by
  intro w
  rw [← hB]
  exact up_any how h0 h1 false r g r0 r1 hg w

theorem root_call (how : Int) (V m s : Nat) (r : Int) (w : World) (h0 : 0 ≤ how) (h1 : how ≤ 3) (hV : V < 19807040628566084398385987584) (hs : s < 140737488355328) (hm : (s : Int) * (s : Int) = (m : Int)) (hmV : m ≤ V) (hr : (V : Int) - m = r)
    (r0 : 0 ≤ r) (r1 : r < 2 * (s : Int) + 1) (B : Bool) (E : Ending) (hE : (∃ z, E = .returned (.int .i64 z)) ∨ (∃ n, E = flt n))
    (cu : ∀ w, Calls Tryz.prog (wayFn how) #[.bool false, .int .u64 r, .int .u64 (2 * (s : Int) + 1)] w fun e w' => e = .returned (.bool B) ∧ w = w')
    (cw : ∀ w, Calls Tryz.prog 82 #[.agg #[.int .i64 (hiOf V), .int .u64 (loOf V)]] w fun e w' => e = .returned (.int .i64 s) ∧ Below w.heap.size w w')
    (cf : ∀ w, Calls Tryz.prog 39 #[.int .i64 (if B then (s : Int) + 1 else (s : Int))] w fun e w' => e = E ∧ w = w') :
    Calls Tryz.prog 52 #[.agg #[.int .i64 (hiOf V), .int .u64 (loOf V)], .func (.func (wayFn how)) #[] #[]] w fun e w' => e = E ∧ Below w.heap.size w w' := by
  have cp := fun w => product_any (s : Int) (s : Int) w (by omega) (by omega) (by omega) (by omega)
  rw [hm] at cp
  have cn := fun w => negative_any (m : Int) w (by omega) (by omega)
  have ca := fun w => plus_any (V : Int) (-(m : Int)) w (by omega) (by omega)
  have er : (V : Int) + -(m : Int) = r := by omega
  rw [er] at ca
  obtain ⟨f1, f2⟩ := hi_small r r0 (by omega)
  rw [f1, f2] at ca
  have cs := fun w => size_any (s : Int) w (by omega) (by omega)
  have f3 : (((s : Int).natAbs : Nat) : Int) = (s : Int) := by omega
  rw [f3] at cs
  have t1 : IntKind.u64.wrap (2 * (s : Int)) = 2 * (s : Int) := by rw [IntKind.wrap_u64]; omega
  have t2 : IntKind.u64.wrap (2 * (s : Int) + 1) = 2 * (s : Int) + 1 := by rw [IntKind.wrap_u64]; omega
  have t3 : wrap64 ((s : Int) + 1) = (s : Int) + 1 := by unfold wrap64; omega
  exact root_walk _ _ _ _ _ _ _ _ _ _ _ _ _ B E w (way_enters how h0 h1) cw cp cn ca cs t1 t2 t3 cu hE cf

theorem root_facts (V : Nat) (hV : V < 19807040628566084398385987584) : ∃ m s : Nat, isq V = s ∧ (s : Int) * (s : Int) = (m : Int) ∧ s < 140737488355328 ∧ m ≤ V ∧ 0 ≤ (V : Int) - m ∧ (V : Int) - m < 2 * (s : Int) + 1 := by
  have hb := isq_bd hV
  have a0 := isq_le V
  have a1 := isq_lt V
  obtain ⟨s, hs⟩ : ∃ s, isq V = s := ⟨_, rfl⟩
  rw [hs] at hb a0 a1
  have e2 : (s + 1) * (s + 1) = s * s + s + s + 1 := by grind
  rw [e2] at a1
  refine ⟨s * s, s, hs, by rw [Int.natCast_mul], hb, a0, ?_, ?_⟩
  · omega
  · omega

theorem root_any (how : Int) (V : Nat) (w : World) (h0 : 0 ≤ how) (h1 : how ≤ 3) (hV : V < 19807040628566084398385987584) :
    (Vld (rootS how V) → Calls Tryz.prog 52 #[.agg #[.int .i64 (hiOf V), .int .u64 (loOf V)], .func (.func (wayFn how)) #[] #[]] w fun e w' => e = .returned (.int .i64 (rootS how V)) ∧ Below w.heap.size w w') ∧
    (¬ Vld (rootS how V) → Calls Tryz.prog 52 #[.agg #[.int .i64 (hiOf V), .int .u64 (loOf V)], .func (.func (wayFn how)) #[] #[]] w fun e w' => e = flt 4 ∧ Below w.heap.size w w') := by
  have cw := fun w => whole_any V w hV
  obtain ⟨m, s, hs, hm, hb, hmV, r0, r1⟩ := root_facts V hV
  rw [hs] at cw
  have hg : 2 * (s : Int) + 1 ≤ 9223372036854775807 := by omega
  obtain ⟨B, hB⟩ : ∃ B, upB how false ((V : Int) - m) (2 * (s : Int) + 1) = B := ⟨_, rfl⟩
  have hR : rootS how V = if B then (s : Int) + 1 else (s : Int) := by
    unfold rootS
    rw [hs, hm, hB]
    cases B <;> simp
  rw [hR]
  have cu := up_at how h0 h1 ((V : Int) - m) (2 * (s : Int) + 1) r0 r1 hg B hB
  exact ⟨fun hv => root_call how V m s _ w h0 h1 hV hb hm hmV rfl r0 r1 B _ (.inl ⟨_, rfl⟩) cu cw (fun w => fitting_ok _ w hv), fun hv => root_call how V m s _ w h0 h1 hV hb hm hmV rfl r0 r1 B _ (.inr ⟨_, rfl⟩) cu cw (fun w => fitting_bad _ w hv)⟩

end Go.Proofs.YtfpfpmacobkmhaaGreatDoor
