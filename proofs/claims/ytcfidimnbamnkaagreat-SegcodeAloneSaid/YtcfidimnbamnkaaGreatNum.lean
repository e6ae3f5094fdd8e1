/-
 Plain facts on whole numbers of 128 bits, as two words: no program in sight. Conditions: none beyond those written at each fact.
-/
import Derived.Test.YtcfidimnbamnkaaGreatKit
import Derived.Laws.BitsAllLaws
import Derived.Lib.Zigzag
namespace Go.Proofs.YtcfidimnbamnkaaGreat
open Go.RowKit

abbrev wideV (hi lo : Int) : Value := .agg #[.int .i64 hi, .int .u64 lo]
abbrev distV (hi lo : Int) : Value := .agg #[.int .u64 hi, .int .u64 lo]
def I64 (x : Int) : Prop := -9223372036854775808 ≤ x ∧ x ≤ 9223372036854775807
def U64 (x : Int) : Prop := 0 ≤ x ∧ x < 18446744073709551616

def val (hi lo : Int) : Int := hi * 18446744073709551616 + lo
def Fits (z : Int) : Prop := -170141183460469231731687303715884105728 ≤ z ∧ z < 170141183460469231731687303715884105728
instance (z : Int) : Decidable (Fits z) := by unfold Fits; infer_instance
def rhi (z : Int) : Int := if Fits z then z / 18446744073709551616 else 0
def rlo (z : Int) : Int := if Fits z then z % 18446744073709551616 else 0
def rcode (z : Int) : Int := if Fits z then 0 else 5
abbrev roomV (z : Int) : Value := .tuple #[wideV (rhi z) (rlo z), .int .i64 (rcode z)]
def bor (x y : Int) : Int := if x < y then 1 else 0

theorem not_i64 (a : Int) (h : I64 a) : bits .xor .i64 (-1) a = -1 - a := by
 obtain ⟨h1, h2⟩ := h
 show IntKind.i64.wrap ((BitVec.ofInt 64 (-1) ^^^ BitVec.ofInt 64 a).toNat : Int) = _
 have e : BitVec.ofInt 64 (-1) = BitVec.allOnes 64 := by decide
 rw [e, BitVec.allOnes_xor, BitVec.toNat_not, BitVec.toNat_ofInt, IntKind.wrap_i64]
 have : ((a % (2 ^ 64 : Nat)).toNat : Int) = a % 18446744073709551616 := by
  exact Int.toNat_of_nonneg (Int.emod_nonneg _ (by decide))
 omega
theorem not_u64 (a : Int) (h : U64 a) : bits .xor .u64 IntKind.u64.max a = 18446744073709551615 - a := by
 obtain ⟨h1, h2⟩ := h
 obtain ⟨A, rfl⟩ := Int.eq_ofNat_of_zero_le h1
 have e2 : IntKind.u64.max = ((2 ^ 64 - 1 : Nat) : Int) := by decide
 rw [e2, bits_xor_u64_nat _ _ (by decide) (by omega), Lib.xor_ones64 _ (by omega)]
 omega

theorem rhi_i64 (z : Int) : I64 (rhi z) := by unfold rhi I64; split <;> (try unfold Fits at *) <;> omega
theorem rlo_u64 (z : Int) : U64 (rlo z) := by unfold rlo U64; split <;> omega
theorem val_r {z : Int} (h : Fits z) : val (rhi z) (rlo z) = z := by unfold val rhi rlo; rw [if_pos h, if_pos h]; omega
theorem fits_val {hi lo : Int} (h : I64 hi) (k : U64 lo) : Fits (val hi lo) := by
 unfold Fits val; obtain ⟨_, _⟩ := h; obtain ⟨_, _⟩ := k; omega
theorem rhi_val {hi lo : Int} (h : I64 hi) (k : U64 lo) : rhi (val hi lo) = hi := by
 unfold rhi; rw [if_pos (fits_val h k)]; unfold val; obtain ⟨_, _⟩ := k; omega
theorem rlo_val {hi lo : Int} (h : I64 hi) (k : U64 lo) : rlo (val hi lo) = lo := by
 unfold rlo; rw [if_pos (fits_val h k)]; unfold val; obtain ⟨_, _⟩ := k; omega
attribute [irreducible] val Fits rhi rlo rcode bor
end Go.Proofs.YtcfidimnbamnkaaGreat
