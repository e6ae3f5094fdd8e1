/-
  Plain facts on whole numbers of 128 bits, as two words: no program in sight. Conditions: none beyond those written at each fact.
-/
import Derived.Test.YtjioljgojfcckaaGreatKit
import Derived.Laws.BitsAllLaws
import Derived.Lib.Zigzag
namespace Go.Proofs.YtjioljgojfcckaaGreat
open Go.RowKit

abbrev wideV (hi lo : Int) : Value := .agg #[.int .i64 hi, .int .u64 lo]
abbrev distV (hi lo : Int) : Value := .agg #[.int .u64 hi, .int .u64 lo]
def I64 (x : Int) : Prop := -9223372036854775808 ≤ x ∧ x ≤ 9223372036854775807
def U64 (x : Int) : Prop := 0 ≤ x ∧ x < 18446744073709551616

/-- The number of two words. -/
def val (hi lo : Int) : Int := hi * 18446744073709551616 + lo
/-- It is a number of 128 bits. -/
def Fits (z : Int) : Prop := -170141183460469231731687303715884105728 ≤ z ∧ z < 170141183460469231731687303715884105728
instance (z : Int) : Decidable (Fits z) := by unfold Fits; infer_instance
def rhi (z : Int) : Int := if Fits z then z / 18446744073709551616 else 0
def rlo (z : Int) : Int := if Fits z then z % 18446744073709551616 else 0
def rcode (z : Int) : Int := if Fits z then 0 else 5
abbrev roomV (z : Int) : Value := .tuple #[wideV (rhi z) (rlo z), .int .i64 (rcode z)]
def bor (x y : Int) : Int := if x < y then 1 else 0

theorem rhi_i64 (z : Int) : I64 (rhi z) := by unfold rhi I64; split <;> (try unfold Fits at *) <;> omega
theorem rlo_u64 (z : Int) : U64 (rlo z) := by unfold rlo U64; split <;> omega
theorem val_r {z : Int} (h : Fits z) : val (rhi z) (rlo z) = z := by unfold val rhi rlo; rw [if_pos h, if_pos h]; omega
theorem fits_val {hi lo : Int} (h : I64 hi) (k : U64 lo) : Fits (val hi lo) := by
  unfold Fits val; obtain ⟨_, _⟩ := h; obtain ⟨_, _⟩ := k; omega
attribute [irreducible] val Fits rhi rlo rcode bor
end Go.Proofs.YtjioljgojfcckaaGreat
