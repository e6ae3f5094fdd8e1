/-
  Plain facts on whole numbers of 128 bits, as two words: no program in sight. Conditions: none beyond those written at each fact.
-/
import Derived.Test.YtgmflnfdmcphnaaGreatKit
import Derived.Laws.BitsAllLaws
import Derived.Lib.Zigzag
namespace Go.Proofs.YtgmflnfdmcphnaaGreat
open Go.RowKit

abbrev wideV (hi lo : Int) : Value := .agg #[.int .i64 hi, .int .u64 lo]
abbrev distV (hi lo : Int) : Value := .agg #[.int .u64 hi, .int .u64 lo]
def I64 (x : Int) : Prop := -9223372036854775808 ≤ x ∧ x ≤ 9223372036854775807
def U64 (x : Int) : Prop := 0 ≤ x ∧ x < 18446744073709551616

/-- The number of two words. -/
def val (hi lo : Int) : Int := hi * 18446744073709551616 + lo
/-- It is a number of 128 bits. -/
def Fits (z : Int) : Prop := -170141183460469231731687303715884105728 ≤ z ∧ z < 170141183460469231731687303715884105728
instance (z : Int) : Decidable (Fits z) := by unfold Fits; infer_instance
def rhi (z : Int) : Int := if Fits z then z / 18446744073709551616 else 0
def rlo (z : Int) : Int := if Fits z then z % 18446744073709551616 else 0
def rcode (z : Int) : Int := if Fits z then 0 else 5
abbrev roomV (z : Int) : Value := .tuple #[wideV (rhi z) (rlo z), .int .i64 (rcode z)]
def bor (x y : Int) : Int := if x < y then 1 else 0

theorem not_i64 (a : Int) (h : I64 a) : bits .xor .i64 (-1) a = -1 - a := by
  obtain ⟨h1, h2⟩ := h
  show IntKind.i64.wrap ((BitVec.ofInt 64 (-1) ^^^ BitVec.ofInt 64 a).toNat : Int) = _
  have e : BitVec.ofInt 64 (-1) = BitVec.allOnes 64 := by decide
  rw [e, BitVec.allOnes_xor, BitVec.toNat_not, BitVec.toNat_ofInt, IntKind.wrap_i64]
  have : ((a % (2 ^ 64 : Nat)).toNat : Int) = a % 18446744073709551616 := by
    exact Int.toNat_of_nonneg (Int.emod_nonneg _ (by decide))
  omega
theorem not_u64 (a : Int) (h : U64 a) : bits .xor .u64 IntKind.u64.max a = 18446744073709551615 - a := by
  obtain ⟨h1, h2⟩ := h
  obtain ⟨A, rfl⟩ := Int.eq_ofNat_of_zero_le h1
  have e2 : IntKind.u64.max = ((2 ^ 64 - 1 : Nat) : Int) := by decide
  rw [e2, bits_xor_u64_nat _ _ (by decide) (by omega), Lib.xor_ones64 _ (by omega)]
  omega

theorem rhi_i64 (z : Int) : I64 (rhi z) := by unfold rhi I64; split <;> (try unfold Fits at *) <;> omega
theorem rlo_u64 (z : Int) : U64 (rlo z) := by unfold rlo U64; split <;> omega
theorem val_r {z : Int} (h : Fits z) : val (rhi z) (rlo z) = z := by unfold val rhi rlo; rw [if_pos h, if_pos h]; omega
theorem fits_val {hi lo : Int} (h : I64 hi) (k : U64 lo) : Fits (val hi lo) := by
  unfold Fits val; obtain ⟨_, _⟩ := h; obtain ⟨_, _⟩ := k; omega
theorem rhi_val {hi lo : Int} (h : I64 hi) (k : U64 lo) : rhi (val hi lo) = hi := by
  unfold rhi; rw [if_pos (fits_val h k)]; unfold val; obtain ⟨_, _⟩ := k; omega
theorem rlo_val {hi lo : Int} (h : I64 hi) (k : U64 lo) : rlo (val hi lo) = lo := by
  unfold rlo; rw [if_pos (fits_val h k)]; unfold val; obtain ⟨_, _⟩ := k; omega
theorem val_inj {a b c d : Int} (k : U64 b) (m : U64 d) : val a b = val c d ↔ a = c ∧ b = d := by
  unfold val; obtain ⟨_, _⟩ := k; obtain ⟨_, _⟩ := m; constructor
  · intro h; omega
  · rintro ⟨rfl, rfl⟩; rfl

/-- What the subtraction, word by word, comes to. -/
theorem sub_yes {ah al bh bl : Int} (h1 : I64 ah) (h2 : U64 al) (h3 : I64 bh) (h4 : U64 bl)
    (hf : ((ah < 0 ↔ bh < 0) ∨ (wrap64 (wrap64 (ah - bh) - bor al bl) < 0 ↔ ah < 0))) :
    wrap64 (wrap64 (ah - bh) - bor al bl) = rhi (val ah al - val bh bl) ∧ (al - bl) % 18446744073709551616 = rlo (val ah al - val bh bl) ∧ rcode (val ah al - val bh bl) = 0 := by
  obtain ⟨_, _⟩ := h1; obtain ⟨_, _⟩ := h2; obtain ⟨_, _⟩ := h3; obtain ⟨_, _⟩ := h4
  have f : Fits (val ah al - val bh bl) := by
    unfold Fits val; unfold bor at hf; unfold wrap64 at hf; split at hf <;> omega
  unfold rhi rlo rcode
  rw [if_pos f, if_pos f, if_pos f]
  unfold Fits val at f
  unfold bor val
  unfold wrap64
  refine ⟨?_, ?_, rfl⟩ <;> (try split) <;> omega
theorem sub_no {ah al bh bl : Int} (h1 : I64 ah) (h2 : U64 al) (h3 : I64 bh) (h4 : U64 bl)
    (hf : ¬ ((ah < 0 ↔ bh < 0) ∨ (wrap64 (wrap64 (ah - bh) - bor al bl) < 0 ↔ ah < 0))) :
    rhi (val ah al - val bh bl) = 0 ∧ rlo (val ah al - val bh bl) = 0 ∧ rcode (val ah al - val bh bl) = 5 := by
  obtain ⟨_, _⟩ := h1; obtain ⟨_, _⟩ := h2; obtain ⟨_, _⟩ := h3; obtain ⟨_, _⟩ := h4
  have f : ¬ Fits (val ah al - val bh bl) := by
    unfold Fits val; unfold bor at hf; unfold wrap64 at hf; split at hf <;> omega
  unfold rhi rlo rcode
  rw [if_neg f, if_neg f, if_neg f]
  exact ⟨rfl, rfl, rfl⟩
attribute [irreducible] val Fits rhi rlo rcode bor
end Go.Proofs.YtgmflnfdmcphnaaGreat
