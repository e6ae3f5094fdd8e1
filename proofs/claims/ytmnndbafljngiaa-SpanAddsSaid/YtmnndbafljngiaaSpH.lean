/-
  Layer 4: Times. Conditions: those written at each fact.
-/
import Derived.Test.YtmnndbafljngiaaSpG
namespace Go.Proofs.Ytmnndbafljngiaa
open Go.RowKit Go.Shelf

theorem mul_bound (a b : Int) (a1 : -9223372036854775808 ≤ a) (a2 : a ≤ 9223372036854775807) (b1 : -9223372036854775808 ≤ b) (b2 : b ≤ 9223372036854775807) :
    -85070591730234615865843651857942052864 ≤ a * b ∧ a * b ≤ 85070591730234615865843651857942052864 := by
  have h : (a * b).natAbs ≤ 9223372036854775808 * 9223372036854775808 := by
    rw [Int.natAbs_mul]
    exact Nat.mul_le_mul (by omega) (by omega)
  omega
theorem mul64s (a b : Int) : ∃ h l : Int, (∀ w, Calls Try.prog 80 #[.int .u64 (IntKind.u64.wrap a), .int .u64 (IntKind.u64.wrap b)] w fun e w' => e = .returned (.tuple #[.int .u64 h, .int .u64 l]) ∧ w' = w) ∧
    h = (IntKind.u64.wrap a * IntKind.u64.wrap b) / 18446744073709551616 ∧ l = (IntKind.u64.wrap a * IntKind.u64.wrap b) % 18446744073709551616 := by
  have x0 : 0 ≤ IntKind.u64.wrap a := by simp only [IntKind.wrap_u64]; omega
  have x1 : IntKind.u64.wrap a < 18446744073709551616 := by simp only [IntKind.wrap_u64]; omega
  have y0 : 0 ≤ IntKind.u64.wrap b := by simp only [IntKind.wrap_u64]; omega
  have y1 : IntKind.u64.wrap b < 18446744073709551616 := by simp only [IntKind.wrap_u64]; omega
  generalize IntKind.u64.wrap a = x at *
  generalize IntKind.u64.wrap b = y at *
  obtain ⟨x, rfl⟩ := Int.eq_ofNat_of_zero_le x0
  obtain ⟨y, rfl⟩ := Int.eq_ofNat_of_zero_le y0
  refine ⟨_, _, fun w => ?_, rfl, rfl⟩
  refine (Try.bits_Mul64 x y (by omega) (by omega) w).mono ?_
  rintro e w' ⟨rfl, rfl⟩
  refine ⟨?_, rfl⟩
  congr 5 <;> (push_cast; rfl)
theorem times_facts (a b h l : Int) (a1 : -9223372036854775808 ≤ a) (a2 : a ≤ 9223372036854775807) (b1 : -9223372036854775808 ≤ b) (b2 : b ≤ 9223372036854775807)
    (hh : h = (IntKind.u64.wrap a * IntKind.u64.wrap b) / 18446744073709551616) (hl : l = (IntKind.u64.wrap a * IntKind.u64.wrap b) % 18446744073709551616) :
    wrap64 l = nr (a * b) ∧ ∀ k c d : Int, (k = if wrap64 l < 0 then 1 else 0) → (c = if a < 0 then b else 0) → (d = if b < 0 then a else 0) → (h - c - d + k - rr (a * b)) % 18446744073709551616 = 0 ∧ -9223372036854775808 ≤ rr (a * b) ∧ rr (a * b) ≤ 9223372036854775807 := by
  have hz := mul_bound a b a1 a2 b1 b2
  simp only [IntKind.wrap_u64] at hh hl
  have ea : a % 18446744073709551616 = if a < 0 then a + 18446744073709551616 else a := by split <;> omega
  have eb : b % 18446744073709551616 = if b < 0 then b + 18446744073709551616 else b := by split <;> omega
  rw [ea, eb] at hh hl
  clear ea eb
  have key : ∀ P Z : Int, P = (if a < 0 then a + 18446744073709551616 else a) * (if b < 0 then b + 18446744073709551616 else b) → Z = a * b →
      P = Z + (if a < 0 then 18446744073709551616 * b else 0) + (if b < 0 then 18446744073709551616 * a else 0) + (if a < 0 ∧ b < 0 then 340282366920938463463374607431768211456 else 0) := by
    intro P Z e1 e2
    rw [e1, e2]
    by_cases g : a < 0
    · by_cases k : b < 0
      · simp only [g, k, if_true, and_self]
        rw [Int.add_mul, Int.mul_add, Int.mul_add]
        omega
      · simp only [g, k, if_true, if_false, and_false]
        rw [Int.add_mul]
        omega
    · by_cases k : b < 0
      · simp only [g, k, if_true, if_false, false_and]
        rw [Int.mul_add]
        omega
      · simp only [g, k, if_false, false_and]
        omega
  replace key := key _ _ rfl rfl
  generalize (if a < 0 then a + 18446744073709551616 else a) * (if b < 0 then b + 18446744073709551616 else b) = P at *
  generalize a * b = Z at *
  unfold nr rr wrap64
  refine ⟨?_, fun k c d hk hc hd => ?_⟩
  · split at key <;> split at key <;> split at key <;> omega
  · split at key <;> split at key <;> split at key <;> split at hk <;> (first | rw [if_pos (by assumption)] at hc | rw [if_neg (by assumption)] at hc) <;> (first | rw [if_pos (by assumption)] at hd | rw [if_neg (by assumption)] at hd) <;> omega
end Go.Proofs.Ytmnndbafljngiaa
