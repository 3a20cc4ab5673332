/- The contract of package fixed's Scale: the rounded number times a quotient, or the error, as scaleS says. No conditions. -/
import Derived.Test.YtebfhjndgfcijaaGreatDoorNeeds
namespace Go.Proofs.YtebfhjndgfcijaaGreatDoor
open Go Go.RowKit

/-- A factor or a divisor that is not too great. -/
def Rate (n : Int) : Prop := -2147483648 ≤ n ∧ n ≤ 2147483648
instance (a : Int) : Decidable (Rate a) := by unfold Rate; infer_instance

/-- What Scale gives: the value and the error. -/
def scaleS (a num den how : Int) : Int × Int :=
  if Vld a ∧ (0 ≤ how ∧ how ≤ 3) ∧ Rate num ∧ Rate den then (if den = 0 then (0, 10) else if Vld (rnd how (a * num) den) then (rnd how (a * num) den, 0) else (0, 4)) else (0, 2)

theorem scale_bd {a num : Int} (hv : Vld a) (hn : Rate num) : -170141183460469231731687303715884105728 < a * num ∧ a * num < 170141183460469231731687303715884105728 := by
  unfold Vld at hv
  unfold Rate at hn
  have h : a.natAbs * num.natAbs ≤ 70368744177664 * 2147483648 := Nat.mul_le_mul (by omega) (by omega)
  have e := Int.natAbs_mul a num
  omega

end Go.Proofs.YtebfhjndgfcijaaGreatDoor
