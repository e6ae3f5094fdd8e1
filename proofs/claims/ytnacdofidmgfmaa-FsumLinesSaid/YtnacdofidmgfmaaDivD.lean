/-
  Plain facts on how a divisor is made great ahead of a division: no program in sight. Conditions: none beyond those written at each fact.
-/
import Derived.Test.YtnacdofidmgfmaaDivB
namespace Go.Proofs.Ytnacdofidmgfmaa
open Go.RowKit

theorem two_pow_pos (k : Nat) : (0 : Int) < 2 ^ k := Int.pow_pos (by decide)
theorem pow_split {k : Nat} (h : k ≤ 63) : (2 : Int) ^ (64 - k) * 2 ^ k = 18446744073709551616 := by
  rw [← Int.pow_add, show 64 - k + k = 64 from by omega]; decide
theorem mask32 (x : Int) (h : U64 x) : bits .and .u64 x 4294967295 = x % 4294967296 := by
  obtain ⟨h0, h1⟩ := h
  obtain ⟨X, rfl⟩ := Int.eq_ofNat_of_zero_le h0
  have e := u64_and_nat X 4294967295 (by omega) (by omega)
  rw [show (4294967295 : Int) = ((4294967295 : Nat) : Int) from rfl, e, show (4294967295 : Nat) = 2 ^ 32 - 1 from rfl, Nat.and_two_pow_sub_one_eq_mod]
  rfl
/-- Shifted together. -/
theorem shift_join {k : Nat} (hk : k ≤ 63) {hi x : Int} (h0 : 0 ≤ hi) (h1 : hi * 2 ^ k < 18446744073709551616) (hx : U64 x) :
    bits .or .u64 (IntKind.u64.wrap (hi * 2 ^ k)) (x / 2 ^ (64 - k)) = hi * 2 ^ k + x / 2 ^ (64 - k) ∧ 0 ≤ x / 2 ^ (64 - k) ∧ x / 2 ^ (64 - k) < 2 ^ k := by
  obtain ⟨x0, x1⟩ := hx
  have p := two_pow_pos k
  have q := two_pow_pos (64 - k)
  have d0 : 0 ≤ x / 2 ^ (64 - k) := Int.ediv_nonneg x0 (Int.le_of_lt q)
  have d1 : x / 2 ^ (64 - k) < 2 ^ k := by
    rw [Int.ediv_lt_iff_lt_mul q, Int.mul_comm, pow_split hk]; exact x1
  refine ⟨?_, d0, d1⟩
  have m0 : 0 ≤ hi * 2 ^ k := Int.mul_nonneg h0 (Int.le_of_lt p)
  have e : IntKind.u64.wrap (hi * 2 ^ k) = hi * 2 ^ k := by rw [IntKind.wrap_u64]; omega
  rw [e]
  obtain ⟨H, rfl⟩ := Int.eq_ofNat_of_zero_le h0
  obtain ⟨D, hD⟩ := Int.eq_ofNat_of_zero_le d0
  rw [hD] at d1 ⊢
  have c : ((2 : Int) ^ k) = ((2 ^ k : Nat) : Int) := by push_cast; rfl
  rw [c] at d1 h1 ⊢
  have c2 : (H : Int) * ((2 ^ k : Nat) : Int) = ((H * 2 ^ k : Nat) : Int) := by push_cast; rfl
  rw [c2] at h1 ⊢
  have dn : D < 2 ^ k := by omega
  have kk : 2 ^ k ≤ 2 ^ 63 := Nat.pow_le_pow_right (by decide) hk
  rw [u64_or_nat _ _ (by omega) (by omega), nat_join k _ _ (Nat.mul_mod_left _ _) dn]
  push_cast; rfl
theorem shift_whole {k : Nat} (hk : k ≤ 63) {hi x : Int} : (hi * 2 ^ k + x / 2 ^ (64 - k)) * 18446744073709551616 + IntKind.u64.wrap (x * 2 ^ k) = (hi * 18446744073709551616 + x) * 2 ^ k := by
  have p := two_pow_pos k
  have e : x * 2 ^ k / 18446744073709551616 = x / 2 ^ (64 - k) := by
    rw [← pow_split hk]; exact Int.mul_ediv_mul_of_pos_left _ _ p
  rw [IntKind.wrap_u64, ← e, Int.add_mul, Int.add_mul, Int.mul_right_comm hi]
  generalize hi * 2 ^ k = A at *
  generalize x * 2 ^ k = B at *
  have := Int.mul_right_comm hi (2 ^ k) 18446744073709551616
  omega
theorem shift_div {k : Nat} {n y : Int} : n * 2 ^ k / (y * 2 ^ k) = n / y ∧ n * 2 ^ k % (y * 2 ^ k) / 2 ^ k = n % y := by
  have p := two_pow_pos k
  refine ⟨Int.mul_ediv_mul_of_pos_left _ _ p, ?_⟩
  rw [Int.mul_comm n, Int.mul_comm y, Int.mul_emod_mul_of_pos _ _ p, Int.mul_ediv_cancel_left _ (Int.ne_of_gt p)]
/-- Made great, a divisor has its uppermost bit. -/
theorem norm_bounds {y : Int} (h0 : 0 < y) (h1 : y < 18446744073709551616) : ∃ k : Nat, k ≤ 63 ∧ 64 - (Lib.bitLen y.toNat : Int) = k ∧ 9223372036854775808 ≤ y * 2 ^ k ∧ y * 2 ^ k < 18446744073709551616 := by
  obtain ⟨Y, rfl⟩ := Int.eq_ofNat_of_zero_le (Int.le_of_lt h0)
  obtain ⟨a, b, c⟩ := Lib.bitLenAux_bounds 64 Y (by omega) (by omega)
  have hl := Lib.bitLen_le Y 64 (by omega) (by omega)
  change 1 ≤ Lib.bitLen Y at a
  change 2 ^ (Lib.bitLen Y - 1) ≤ Y at b
  change Y < 2 ^ Lib.bitLen Y at c
  rw [Int.toNat_natCast]
  generalize Lib.bitLen Y = l at *
  have c2 : ((Y * 2 ^ (64 - l) : Nat) : Int) = (Y : Int) * 2 ^ (64 - l) := by push_cast; rfl
  refine ⟨64 - l, by omega, by omega, ?_, ?_⟩
  · have : 2 ^ (l - 1) * 2 ^ (64 - l) ≤ Y * 2 ^ (64 - l) := Nat.mul_le_mul_right _ b
    rw [← Nat.pow_add, show l - 1 + (64 - l) = 63 from by omega] at this
    have h : ((9223372036854775808 : Nat) : Int) ≤ ((Y * 2 ^ (64 - l) : Nat) : Int) := Int.ofNat_le.2 this
    rw [c2] at h; exact h
  · have : Y * 2 ^ (64 - l) < 2 ^ l * 2 ^ (64 - l) := Nat.mul_lt_mul_of_pos_right c (Nat.pow_pos (by decide))
    rw [← Nat.pow_add, show l + (64 - l) = 64 from by omega] at this
    have h : ((Y * 2 ^ (64 - l) : Nat) : Int) < ((18446744073709551616 : Nat) : Int) := Int.ofNat_lt.2 this
    rw [c2] at h; exact h
end Go.Proofs.Ytnacdofidmgfmaa
