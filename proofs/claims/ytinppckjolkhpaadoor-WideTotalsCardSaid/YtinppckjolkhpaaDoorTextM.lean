/-
  Plain facts on decimal digits, group by group: no program in sight. Conditions: none beyond those written at each fact.
-/
import Derived.Test.YtinppckjolkhpaaDoorNumB
import Derived.Lib.ItoaMem
import Derived.Lib.Repeat
namespace Go.Proofs.YtinppckjolkhpaaDoor
open Go.RowKit

/-- So many digits, with noughts ahead. -/
def padN : Nat → Nat → List UInt8
  | 0, _ => []
  | k + 1, m => padN k (m / 10) ++ [UInt8.ofNat (48 + m % 10)]
theorem padN_zero (k : Nat) : padN k 0 = List.replicate k 48 := by
  induction k with
  | zero => rfl
  | succ k ih => rw [padN, show 0 / 10 = 0 from rfl, ih, List.replicate_succ']; rfl
theorem dec_pad : ∀ (k u : Nat), 10 ^ k ≤ u → Lib.decDigits u = Lib.decDigits (u / 10 ^ k) ++ padN k (u % 10 ^ k)
  | 0, u, _ => by simp [padN]
  | k + 1, u, h => by
    have p : 0 < 10 ^ k := Nat.pow_pos (by decide)
    have h' : 10 ^ k * 10 ≤ u := by rw [← Nat.pow_succ]; exact h
    have h10 : ¬ u < 10 := by omega
    rw [Lib.decDigits, dif_neg h10, dec_pad k (u / 10) (by rw [Nat.le_div_iff_mul_le (by decide)]; exact h'), padN]
    have e1 : u / 10 / 10 ^ k = u / 10 ^ (k + 1) := by rw [Nat.div_div_eq_div_mul, Nat.pow_succ, Nat.mul_comm]
    have e2 : u % 10 ^ (k + 1) / 10 = u / 10 % 10 ^ k := by rw [Nat.pow_succ, Nat.mul_comm, Nat.mod_mul_right_div_self]
    have e3 : u % 10 ^ (k + 1) % 10 = u % 10 := by rw [Nat.pow_succ, Nat.mul_comm, Nat.mod_mul_right_mod]
    rw [e1, e2, e3, List.append_assoc]
theorem pad_dec : ∀ (k m : Nat), Lib.nDigits m ≤ k → List.replicate (k - Lib.nDigits m) 48 ++ Lib.decDigits m = padN k m
  | 0, m, h => by have := Lib.nDigits_pos m; omega
  | k + 1, m, h => by
    by_cases g : m < 10
    · rw [Lib.nDigits_small g, Lib.decDigits_one g, padN, Nat.div_eq_of_lt g, padN_zero, Nat.mod_eq_of_lt g]; rfl
    · rw [Lib.nDigits_big g] at h ⊢
      rw [Lib.decDigits, dif_neg g, padN, ← pad_dec k (m / 10) (by omega), show k + 1 - (Lib.nDigits (m / 10) + 1) = k - Lib.nDigits (m / 10) from by omega, List.append_assoc]
theorem repeat_nought (c : Nat) : Lib.repeatL [48] c = List.replicate c 48 := by
  induction c with
  | zero => rfl
  | succ c ih => rw [Lib.repeatL, ih]; rfl
theorem nDigits_le {m k : Nat} (h : m < 10 ^ k) (hk : 1 ≤ k) : Lib.nDigits m ≤ k := by
  by_cases g : m < 10
  · rw [Lib.nDigits_small g]; exact hk
  · have p := Lib.nDigits_pos m
    rcases Nat.lt_or_ge k (Lib.nDigits m) with q | q
    · exfalso
      -- the digits of m say that it is at least 10 to the power of one less than how many they are
      have : ∀ (n u : Nat), Lib.nDigits u = n + 1 → 10 ^ n ≤ u ∨ n = 0 := by
        intro n
        induction n with
        | zero => intro u _; exact Or.inr rfl
        | succ n ih =>
          intro u hu
          by_cases g' : u < 10
          · rw [Lib.nDigits_small g'] at hu; omega
          · rw [Lib.nDigits_big g'] at hu
            left
            rcases ih (u / 10) (by omega) with i | i
            · rw [Nat.pow_succ]; omega
            · subst i; omega
      rcases this (Lib.nDigits m - 1) m (by omega) with i | i
      · have : 10 ^ k ≤ 10 ^ (Lib.nDigits m - 1) := Nat.pow_le_pow_right (by decide) (by omega)
        omega
      · omega
    · exact q

theorem str_append (a b : List UInt8) : (⟨a.toArray⟩ : ByteArray) ++ ⟨b.toArray⟩ = ⟨(a ++ b).toArray⟩ := by
  apply ByteArray.ext
  simp
/-- The text of a number. -/
def textL (z : Int) : List UInt8 := if z < 0 then 45 :: Lib.decDigits (mag z).toNat else Lib.decDigits (mag z).toNat
/-- A number's three groups of 19 digits, the lowest one first. -/
def g0 (n : Int) : Int := n % 10000000000000000000
def g1 (n : Int) : Int := n / 10000000000000000000 % 10000000000000000000
def g2 (n : Int) : Int := n / 10000000000000000000 / 10000000000000000000 % 10000000000000000000
theorem g0_u64 (n : Int) : U64 (g0 n) := by unfold g0 U64; omega
theorem g1_u64 (n : Int) : U64 (g1 n) := by unfold g1 U64; omega
theorem g2_u64 (n : Int) : U64 (g2 n) := by unfold g2 U64; omega
def pad19 (n : Int) : List UInt8 := padN 19 n.toNat
theorem groups_two {n : Int} (h0 : 0 ≤ n) (h1 : n < 340282366920938463463374607431768211456) (g : g2 n ≠ 0) : Lib.decDigits n.toNat = Lib.decDigits (g2 n).toNat ++ pad19 (g1 n) ++ pad19 (g0 n) := by
  obtain ⟨u, rfl⟩ := Int.eq_ofNat_of_zero_le h0
  unfold g2 at g
  have e0 : (g0 (u : Int)).toNat = u % 10 ^ 19 := by unfold g0; omega
  have e1 : (g1 (u : Int)).toNat = u / 10 ^ 19 % 10 ^ 19 := by unfold g1; omega
  have e2 : (g2 (u : Int)).toNat = u / 10 ^ 19 / 10 ^ 19 := by unfold g2; omega
  have a : 10 ^ 19 ≤ u := by omega
  have b : 10 ^ 19 ≤ u / 10 ^ 19 := by omega
  unfold pad19
  rw [e0, e1, e2, Int.toNat_natCast, dec_pad 19 u a, dec_pad 19 (u / 10 ^ 19) b]
theorem groups_one {n : Int} (h0 : 0 ≤ n) (h1 : n < 340282366920938463463374607431768211456) (g : g2 n = 0) (g' : g1 n ≠ 0) : Lib.decDigits n.toNat = Lib.decDigits (g1 n).toNat ++ pad19 (g0 n) := by
  obtain ⟨u, rfl⟩ := Int.eq_ofNat_of_zero_le h0
  unfold g2 at g
  unfold g1 at g'
  have e0 : (g0 (u : Int)).toNat = u % 10 ^ 19 := by unfold g0; omega
  have e1 : (g1 (u : Int)).toNat = u / 10 ^ 19 := by unfold g1; omega
  have a : 10 ^ 19 ≤ u := by omega
  unfold pad19
  rw [e0, e1, Int.toNat_natCast, dec_pad 19 u a]
theorem groups_none {n : Int} (h0 : 0 ≤ n) (h1 : n < 340282366920938463463374607431768211456) (g : g2 n = 0) (g' : g1 n = 0) : Lib.decDigits n.toNat = Lib.decDigits (g0 n).toNat := by
  have : g0 n = n := by unfold g2 at g; unfold g1 at g'; unfold g0; omega
  rw [this]
attribute [irreducible] textL g0 g1 g2 pad19 padN
end Go.Proofs.YtinppckjolkhpaaDoor
