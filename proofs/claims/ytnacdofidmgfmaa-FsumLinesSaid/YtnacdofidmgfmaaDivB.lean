/-
  Plain facts on the division of two words by one, digit by digit of 32 bits: no program in sight. Conditions: none beyond those written at each fact.
-/
import Derived.Test.YtnacdofidmgfmaaNum
import Derived.Lib.BitFns
import Derived.Lib.ItoaNum
namespace Go.Proofs.Ytnacdofidmgfmaa
open Go.RowKit

/-- While the guess is too great, it is at least one above the digit. -/
theorem digit_down {U u y yn1 yn0 q rh : Int} (hy : y = yn1 * 4294967296 + yn0) (hr : rh = U - q * yn1) (h : q * yn0 > 4294967296 * rh + u) (hy0 : 0 < y) :
    (U * 4294967296 + u) / y < q := by
  rw [Int.ediv_lt_iff_lt_mul hy0]
  subst hr hy
  have e : q * (yn1 * 4294967296 + yn0) = q * yn1 * 4294967296 + q * yn0 := by rw [Int.mul_add, Int.mul_assoc]
  rw [e]
  generalize q * yn1 = A at *
  generalize q * yn0 = B at *
  omega
theorem digit_up {U u y yn1 yn0 q rh : Int} (hy : y = yn1 * 4294967296 + yn0) (hr : rh = U - q * yn1) (h : q * yn0 ≤ 4294967296 * rh + u) (hy0 : 0 < y) :
    q ≤ (U * 4294967296 + u) / y := by
  rw [Int.le_ediv_iff_mul_le hy0]
  subst hr hy
  have e : q * (yn1 * 4294967296 + yn0) = q * yn1 * 4294967296 + q * yn0 := by rw [Int.mul_add, Int.mul_assoc]
  rw [e]
  generalize q * yn1 = A at *
  generalize q * yn0 = B at *
  omega
theorem digit_small {U u y : Int} (hU : U < y) (hu : u < 4294967296) (hy0 : 0 < y) : (U * 4294967296 + u) / y < 4294967296 := by
  rw [Int.ediv_lt_iff_lt_mul hy0]; omega
/-- The first guess is not below the digit. -/
theorem digit_first {U u y yn1 yn0 : Int} (hy : y = yn1 * 4294967296 + yn0) (h0 : 0 ≤ yn0) (h1 : 0 < yn1) (hu : u < 4294967296) (hU : 0 ≤ U) :
    (U * 4294967296 + u) / y ≤ U / yn1 := by
  have hy0 : 0 < y := by omega
  have : (U * 4294967296 + u) / y < U / yn1 + 1 := by
    rw [Int.ediv_lt_iff_lt_mul hy0, hy]
    have hd := Int.mul_ediv_add_emod U yn1
    have hm := Int.emod_lt_of_pos U h1
    have hq := Int.ediv_nonneg hU (Int.le_of_lt h1)
    generalize U / yn1 = Q at *
    generalize U % yn1 = R at *
    have e : (Q + 1) * (yn1 * 4294967296 + yn0) = (yn1 * Q + yn1) * 4294967296 + (Q + 1) * yn0 := by
      rw [Int.mul_add, Int.add_mul, Int.one_mul, ← Int.mul_assoc, Int.mul_comm Q yn1, Int.add_mul, Int.add_mul, Int.one_mul]
    rw [e]
    have p := Int.mul_nonneg (show 0 ≤ Q + 1 by omega) h0
    generalize (Q + 1) * yn0 = C at *
    generalize yn1 * Q = D at *
    omega
  omega
/-- One digit: the guess that the loop leaves. -/
def Digit (U u y yn1 : Int) (q rh : Int) : Prop := (U * 4294967296 + u) / y ≤ q ∧ q ≤ U / yn1 ∧ rh = U - q * yn1 ∧ 0 ≤ rh
theorem digit_mul {q y : Int} (hq : 0 ≤ q) (hq1 : q < 4294967296) (h0 : 0 ≤ y) (h1 : y < 4294967296) : 0 ≤ q * y ∧ q * y < 18446744069414584321 := by
  have a := Int.mul_nonneg hq h0
  have b : q * y ≤ 4294967295 * 4294967295 := Int.mul_le_mul (by omega) (by omega) h0 (by decide)
  omega
/-- The rest of a digit is what is left, and it is a word. -/
theorem digit_rest {U u y q : Int} (hq : q = (U * 4294967296 + u) / y) (hy0 : 0 < y) (hy1 : y < 18446744073709551616) :
    IntKind.u64.wrap (IntKind.u64.wrap (IntKind.u64.wrap (U * 4294967296) + u) - IntKind.u64.wrap (q * y)) = (U * 4294967296 + u) % y := by
  have hd := Int.mul_ediv_add_emod (U * 4294967296 + u) y
  have h1 := Int.emod_lt_of_pos (U * 4294967296 + u) hy0
  have h2 := Int.emod_nonneg (U * 4294967296 + u) (Int.ne_of_gt hy0)
  rw [← hq, Int.mul_comm] at hd
  generalize (U * 4294967296 + u) % y = R at *
  generalize q * y = A at *
  rw [IntKind.wrap_u64, IntKind.wrap_u64, IntKind.wrap_u64, IntKind.wrap_u64]
  omega
/-- Both digits together. -/
theorem digits_whole {U u1 u0 y q1 q0 r : Int} (h1 : q1 = (U * 4294967296 + u1) / y) (hr : r = (U * 4294967296 + u1) % y) (h0 : q0 = (r * 4294967296 + u0) / y) (hy0 : 0 < y) :
    (U * 18446744073709551616 + (u1 * 4294967296 + u0)) / y = q1 * 4294967296 + q0 ∧ (U * 18446744073709551616 + (u1 * 4294967296 + u0)) % y = (r * 4294967296 + u0) % y := by
  have d1 := Int.mul_ediv_add_emod (U * 4294967296 + u1) y
  have d0 := Int.mul_ediv_add_emod (r * 4294967296 + u0) y
  have m1 := Int.emod_lt_of_pos (r * 4294967296 + u0) hy0
  have m0 := Int.emod_nonneg (r * 4294967296 + u0) (Int.ne_of_gt hy0)
  rw [← h1, ← hr] at d1
  rw [← h0] at d0
  generalize (r * 4294967296 + u0) % y = R at *
  have e : U * 18446744073709551616 + (u1 * 4294967296 + u0) = R + y * (q1 * 4294967296 + q0) := by
    rw [Int.mul_add, ← Int.mul_assoc]
    generalize y * q1 = A at *
    generalize y * q0 = B at *
    omega
  rw [e]
  constructor
  · rw [Int.add_mul_ediv_left _ _ (Int.ne_of_gt hy0), Int.ediv_eq_zero_of_lt m0 m1]; omega
  · rw [Int.add_mul_emod_self_left, Int.emod_eq_of_lt m0 m1]
end Go.Proofs.Ytnacdofidmgfmaa
