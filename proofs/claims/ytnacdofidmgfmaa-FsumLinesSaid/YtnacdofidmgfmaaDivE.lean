/-
  Plain facts on the loop that finds a digit of a quotient: no program in sight. Conditions: none beyond those written at each fact.
-/
import Derived.Test.YtnacdofidmgfmaaDivD
namespace Go.Proofs.Ytnacdofidmgfmaa
open Go.RowKit

theorem digit_start {U u y yn1 yn0 : Int} (hy : y = yn1 * 4294967296 + yn0) (h0 : 0 ≤ yn0) (h1 : 2147483648 ≤ yn1) (h2 : yn1 < 4294967296) (hu : u < 4294967296) (hU : 0 ≤ U) (hU1 : U < 18446744073709551616) :
    Digit U u y yn1 (U / yn1) (IntKind.u64.wrap (U - IntKind.u64.wrap (U / yn1 * yn1))) ∧ 0 ≤ U / yn1 ∧ U / yn1 ≤ 8589934592 ∧ 0 ≤ IntKind.u64.wrap (U - IntKind.u64.wrap (U / yn1 * yn1)) ∧ IntKind.u64.wrap (U - IntKind.u64.wrap (U / yn1 * yn1)) < 4294967296 := by
  have hf := digit_first hy h0 (by omega) hu hU
  have hd := Int.mul_ediv_add_emod U yn1
  have hm := Int.emod_lt_of_pos U (show 0 < yn1 by omega)
  have hn := Int.emod_nonneg U (show yn1 ≠ 0 by omega)
  have hq := Int.ediv_nonneg hU (show 0 ≤ yn1 by omega)
  have hq2 : U / yn1 ≤ 8589934592 := by
    have : U / yn1 < 8589934592 + 1 := by
      rw [Int.ediv_lt_iff_lt_mul (by omega)]
      omega
    omega
  rw [Int.mul_comm] at hd
  have e : IntKind.u64.wrap (U - IntKind.u64.wrap (U / yn1 * yn1)) = U % yn1 := by
    rw [IntKind.wrap_u64, IntKind.wrap_u64]
    generalize U / yn1 * yn1 = A at *
    omega
  rw [e]
  refine ⟨⟨hf, Int.le_refl _, ?_, hn⟩, hq, hq2, hn, by omega⟩
  omega
theorem digit_step {U u y yn1 q rh : Int} (h : Digit U u y yn1 q rh) (hlt : (U * 4294967296 + u) / y < q) (h1 : 0 ≤ yn1) : Digit U u y yn1 (q - 1) (rh + yn1) := by
  obtain ⟨a, b, c, d⟩ := h
  refine ⟨by omega, by omega, ?_, by omega⟩
  rw [Int.sub_mul, Int.one_mul]; omega
theorem digit_break {U u y yn1 yn0 q rh : Int} (h : Digit U u y yn1 q rh) (hy : y = yn1 * 4294967296 + yn0) (h0 : 0 ≤ yn0) (h1 : yn0 < 4294967296) (h2 : 0 < yn1) (hU : U < y) (hu : 0 ≤ u) (hr : 4294967296 ≤ rh) :
    q = (U * 4294967296 + u) / y := by
  obtain ⟨a, b, c, d⟩ := h
  have hq : q ≤ 4294967296 := by
    by_cases hq : q ≤ 4294967296
    · exact hq
    · exfalso
      have : 4294967297 * yn1 ≤ q * yn1 := Int.mul_le_mul_of_nonneg_right (by omega) (by omega)
      omega
  have hm : q * yn0 ≤ 4294967296 * 4294967295 := Int.mul_le_mul hq (by omega) h0 (by decide)
  have := digit_up (u := u) hy c (by omega) (by omega)
  omega
theorem digit_done {U u y yn1 yn0 q rh : Int} (h : Digit U u y yn1 q rh) (hy : y = yn1 * 4294967296 + yn0) (hy0 : 0 < y) (hle : q * yn0 ≤ 4294967296 * rh + u) : q = (U * 4294967296 + u) / y := by
  obtain ⟨a, b, c, d⟩ := h
  have := digit_up (u := u) hy c hle hy0
  omega
theorem digit_over {U u y yn1 yn0 q rh : Int} (h : Digit U u y yn1 q rh) (hy : y = yn1 * 4294967296 + yn0) (hy0 : 0 < y) (hgt : q * yn0 > 4294967296 * rh + u) : (U * 4294967296 + u) / y < q :=
  digit_down hy h.2.2.1 hgt hy0
theorem digit_big {U u y q : Int} (hU : U < y) (hu : u < 4294967296) (hy0 : 0 < y) (hq : 4294967296 ≤ q) : (U * 4294967296 + u) / y < q := by
  have := digit_small hU hu hy0; omega
end Go.Proofs.Ytnacdofidmgfmaa
