/-
  Plain facts on binary64 words and on rounding to the nearest whole number: no program in sight. Conditions: those written at each fact.
-/
import Derived.Test.YtinppckjolkhpaaKit
import Derived.Laws.Cover2
import Derived.Lib.BitFns
import Derived.Lib.ItoaNum
namespace Go.Proofs.Ytinppckjolkhpaa
open Go.RowKit

/-- The whole number nearest to m over 2^n; of two the even one. -/
def cutN (m n : Nat) : Nat := if 2 ^ n < 2 * (m % 2 ^ n) ∨ (2 * (m % 2 ^ n) = 2 ^ n ∧ m / 2 ^ n % 2 = 1) then m / 2 ^ n + 1 else m / 2 ^ n

theorem cutN_near (m n : Nat) : 2 * (cutN m n * 2 ^ n) ≤ 2 * m + 2 ^ n ∧ 2 * m ≤ 2 * (cutN m n * 2 ^ n) + 2 ^ n ∧
    (2 * (cutN m n * 2 ^ n) = 2 * m + 2 ^ n → cutN m n % 2 = 0) ∧ (2 * m = 2 * (cutN m n * 2 ^ n) + 2 ^ n → cutN m n % 2 = 0) := by
  unfold cutN
  have hP : 0 < 2 ^ n := Nat.two_pow_pos n
  generalize 2 ^ n = P at *
  have hm := Nat.div_add_mod m P
  have hr := Nat.mod_lt m hP
  generalize m / P = q at *
  generalize m % P = r at *
  subst hm
  split
  · rw [Nat.add_mul, Nat.one_mul, Nat.mul_comm q P]
    generalize P * q = Q at *
    refine ⟨by omega, by omega, fun h => by omega, fun h => by omega⟩
  · rw [Nat.mul_comm q P]
    generalize P * q = Q at *
    refine ⟨by omega, by omega, fun h => by omega, fun h => by omega⟩
theorem cutN_mono {a b : Nat} (h : a ≤ b) (n : Nat) : cutN a n ≤ cutN b n := by
  obtain ⟨a1, a2, a3, a4⟩ := cutN_near a n
  obtain ⟨b1, b2, b3, b4⟩ := cutN_near b n
  have hP : 0 < 2 ^ n := Nat.two_pow_pos n
  generalize 2 ^ n = P at *
  generalize cutN a n = x at *
  generalize cutN b n = y at *
  refine Nat.le_of_not_lt fun hlt => ?_
  have h1 : (y + 1) * P ≤ x * P := Nat.mul_le_mul_right _ hlt
  rw [Nat.add_mul, Nat.one_mul] at h1
  have h2 := a3 (by omega)
  have h3 := b4 (by omega)
  have h5 : x * P = (y + 1) * P := by rw [Nat.add_mul, Nat.one_mul]; omega
  have h6 := Nat.eq_of_mul_eq_mul_right hP h5
  omega
theorem cutN_up {m j n : Nat} (h : n ≤ j) : cutN (m * 2 ^ j) n = m * 2 ^ (j - n) := by
  obtain ⟨k, rfl⟩ := Nat.exists_eq_add_of_le h
  have e : m * 2 ^ (n + k) = 2 ^ n * (m * 2 ^ k) := by rw [Nat.pow_add]; ac_rfl
  have hP : 0 < 2 ^ n := Nat.two_pow_pos n
  rw [Nat.add_sub_cancel_left, cutN, e, Nat.mul_mod_right, Nat.mul_div_cancel_left _ hP, if_neg (by omega)]
theorem cutN_down {m j n : Nat} (h : j ≤ n) : cutN (m * 2 ^ j) n = cutN m (n - j) := by
  obtain ⟨k, rfl⟩ := Nat.exists_eq_add_of_le h
  have hP : 0 < 2 ^ j := Nat.two_pow_pos j
  have e1 : m * 2 ^ j % 2 ^ (j + k) = m % 2 ^ k * 2 ^ j := by rw [Nat.add_comm j k, Nat.pow_add, Nat.mul_mod_mul_right]
  have e2 : m * 2 ^ j / 2 ^ (j + k) = m / 2 ^ k := by rw [Nat.add_comm j k, Nat.pow_add, Nat.mul_div_mul_right _ _ hP]
  rw [Nat.add_sub_cancel_left, cutN, cutN, e1, e2, Nat.add_comm j k, Nat.pow_add]
  have c1 : (2 ^ k * 2 ^ j < 2 * (m % 2 ^ k * 2 ^ j)) ↔ 2 ^ k < 2 * (m % 2 ^ k) := by
    rw [← Nat.mul_assoc]; exact Nat.mul_lt_mul_right hP
  have c2 : (2 * (m % 2 ^ k * 2 ^ j) = 2 ^ k * 2 ^ j) ↔ 2 * (m % 2 ^ k) = 2 ^ k := by
    rw [← Nat.mul_assoc]; exact ⟨fun h => Nat.eq_of_mul_eq_mul_right hP h, fun h => by rw [h]⟩
  simp only [c1, c2]
theorem cutN_self (k n : Nat) : cutN (k * 2 ^ n) n = k := by rw [cutN_up (Nat.le_refl n)]; simp
theorem cutN_zero (m : Nat) : cutN m 0 = m := by have := cutN_self m 0; simpa using this
theorem cutN_small {m n : Nat} (h : 2 * m < 2 ^ n) : cutN m n = 0 := by
  have hP : m < 2 ^ n := by omega
  rw [cutN, Nat.mod_eq_of_lt hP, Nat.div_eq_of_lt hP, if_neg (by omega)]
theorem cutN_finer (m n : Nat) : cutN m n ≤ 2 * cutN m (n + 1) + 1 ∧ 2 * cutN m (n + 1) ≤ cutN m n + 1 := by
  obtain ⟨a1, a2, -, -⟩ := cutN_near m n
  obtain ⟨b1, b2, -, -⟩ := cutN_near m (n + 1)
  have hP : 0 < 2 ^ n := Nat.two_pow_pos n
  rw [Nat.pow_succ] at b1 b2
  generalize 2 ^ n = P at *
  generalize cutN m n = x at *
  generalize cutN m (n + 1) = y at *
  have e : y * (P * 2) = 2 * y * P := by ac_rfl
  rw [e] at b1 b2
  constructor
  · refine Nat.le_of_not_lt fun hlt => ?_
    have h1 : (2 * y + 2) * P ≤ x * P := Nat.mul_le_mul_right _ hlt
    rw [Nat.add_mul] at h1
    omega
  · refine Nat.le_of_not_lt fun hlt => ?_
    have h1 : (x + 2) * P ≤ (2 * y) * P := Nat.mul_le_mul_right _ hlt
    rw [Nat.add_mul] at h1
    omega
theorem cutN_half (v n : Nat) : (cutN ((2 * v + 1) * 2 ^ n) (n + 1) = v ∨ cutN ((2 * v + 1) * 2 ^ n) (n + 1) = v + 1) ∧ cutN ((2 * v + 1) * 2 ^ n) (n + 1) % 2 = 0 := by
  rw [cutN_down (Nat.le_succ n), show n.succ - n = 1 by omega, cutN]
  simp only [Nat.pow_one]
  have e1 : (2 * v + 1) % 2 = 1 := by omega
  have e2 : (2 * v + 1) / 2 = v := by omega
  rw [e1, e2]
  split <;> omega

/-- A reading's place among the readings that are as far from 0 or nearer. -/
def rung (b : Nat) : Nat := b % 9223372036854775808
def expo (b : Nat) : Nat := b / 4503599627370496 % 2048
def frac (b : Nat) : Nat := b % 4503599627370496
def below (b : Nat) : Bool := decide (b / 9223372036854775808 = 1)
def whole (b : Nat) : Nat := if expo b = 0 then frac b else 4503599627370496 + frac b
def lift (b : Nat) : Nat := expo b - 1
/-- How far a reading is from 0, times 2^1074. -/
def unit (b : Nat) : Nat := whole b * 2 ^ lift b
def kindF (b : Nat) : Int := if expo b = 2047 then (if frac b = 0 then 2 else 1) else if expo b = 0 then (if frac b = 0 then 3 else 4) else 5
/-- A reading times 2^1074. -/
def exact (b : Nat) : Int := if below b then -(unit b : Int) else unit b
def magF (b : Nat) (s : Int) : Nat := cutN (unit b) (1074 - s).toNat
def Scale (s : Int) : Prop := -40 ≤ s ∧ s ≤ 40
instance (s : Int) : Decidable (Scale s) := by unfold Scale; infer_instance
def codeF (b : Nat) (s : Int) : Int := if Scale s then (if kindF b = 1 then 130 else if kindF b = 2 then 5 else if 2305843009213693952 < magF b s then 5 else 0) else 2
def valF (b : Nat) (s : Int) : Int := if codeF b s = 0 then (if below b then -(magF b s : Int) else magF b s) else 0
def nanF (b : Nat) : Bool := decide (kindF b = 1)

theorem expo_lt (b : Nat) : expo b < 2048 := by unfold expo; omega
theorem frac_lt (b : Nat) : frac b < 4503599627370496 := by unfold frac; omega
theorem rung_parts (b : Nat) : rung b = expo b * 4503599627370496 + frac b := by unfold rung expo frac; omega

theorem infRung_val : Ieee.Format.infRung Ieee.double = 9218868437227405312 := by decide
theorem binade_val : Ieee.Format.binade Ieee.double = 4503599627370496 := by decide
theorem sign_val : Ieee.Format.signWeight Ieee.double = 9223372036854775808 := by decide
theorem least_val : Ieee.Format.leastPlace Ieee.double = -1074 := by decide

theorem read_nan {b : Nat} (h : kindF b = 1) : ∃ n f, Ieee.Format.read Ieee.double b = .nan n f := by
  unfold kindF at h
  have hr := rung_parts b
  have h1 : expo b = 2047 := by split at h <;> first | assumption | (split at h <;> (try split at h) <;> omega)
  have h2 : frac b ≠ 0 := by intro h2; rw [if_pos h1, if_pos h2] at h; omega
  unfold Ieee.Format.read
  simp only [binade_val, infRung_val, sign_val, least_val]
  rw [show b % 9223372036854775808 = rung b from rfl]
  rw [if_neg (by omega), if_neg (by omega), if_neg (by omega)]
  exact ⟨_, _, rfl⟩
theorem below_read {b : Nat} (hb : b < 18446744073709551616) : (b / 9223372036854775808 % 2 == 1) = below b := by
  unfold below
  have : b / 9223372036854775808 < 2 := by omega
  rw [Nat.mod_eq_of_lt this]
  rw [Bool.eq_iff_iff]; simp
theorem read_inf {b : Nat} (hb : b < 18446744073709551616) (h : kindF b = 2) : Ieee.Format.read Ieee.double b = .infinity (below b) ∧ unit b = 4503599627370496 * 2 ^ (expo b - 1) ∧ expo b = 2047 := by
  unfold kindF at h
  have hr := rung_parts b
  have h1 : expo b = 2047 := by split at h <;> first | assumption | (split at h <;> (try split at h) <;> omega)
  have h2 : frac b = 0 := by rw [if_pos h1] at h; split at h <;> first | assumption | omega
  refine ⟨?_, ?_, h1⟩
  · unfold Ieee.Format.read
    simp only [binade_val, infRung_val, sign_val, least_val]
    rw [show b % 9223372036854775808 = rung b from rfl, below_read hb]
    rw [if_neg (by omega), if_neg (by omega), if_pos (by omega)]
  · unfold unit whole lift
    rw [if_neg (by omega), h2, Nat.add_zero]
theorem read_num {b : Nat} (hb : b < 18446744073709551616) (h1 : kindF b ≠ 1) (h2 : kindF b ≠ 2) : Ieee.Format.read Ieee.double b = .number (below b) (whole b) (-1074 + (lift b : Int)) ∧ ∀ k, k = 2047 → unit b < 4503599627370496 * 2 ^ (k - 1) := by
  have hr := rung_parts b
  have hf := frac_lt b
  have he := expo_lt b
  have h3 : expo b ≠ 2047 := by
    intro h3
    unfold kindF at h1 h2
    rw [if_pos h3] at h1 h2
    split at h1 <;> simp_all
  constructor
  · unfold Ieee.Format.read
    simp only [binade_val, infRung_val, sign_val, least_val]
    rw [show b % 9223372036854775808 = rung b from rfl, below_read hb]
    by_cases g : expo b = 0
    · rw [if_pos (by omega), whole, if_pos g, lift, g]
      rw [hr, g]; simp
    · rw [if_neg (by omega), if_pos (by omega), whole, if_neg g, lift]
      have e1 : rung b % 4503599627370496 = frac b := by omega
      have e2 : rung b / 4503599627370496 = expo b := by omega
      rw [e1, e2]
  · intro k hk
    have hw : whole b < 9007199254740992 := by unfold whole; split <;> omega
    have hl : lift b ≤ k - 2 := by unfold lift; omega
    have hp : 2 ^ lift b ≤ 2 ^ (k - 2) := Nat.pow_le_pow_right (by decide) hl
    have e : 4503599627370496 * 2 ^ (k - 1) = 9007199254740992 * 2 ^ (k - 2) := by rw [show k - 1 = (k - 2) + 1 by omega, Nat.pow_succ]; omega
    rw [e]
    unfold unit
    have hp0 : 0 < 2 ^ lift b := Nat.two_pow_pos _
    exact Nat.lt_of_lt_of_le ((Nat.mul_lt_mul_right hp0).2 hw) (Nat.mul_le_mul_left _ hp)
theorem signed_exact (s : Bool) (m k : Nat) : Ieee.signed s m k = if s then -((m * 2 ^ k : Nat) : Int) else ((m * 2 ^ k : Nat) : Int) := by
  unfold Ieee.signed
  rw [Nat.shiftLeft_eq]
theorem compare_scaled (s t : Bool) (m n i j : Nat) :
    compare (Ieee.signed s m ((-1074 + (i : Int)) - min (-1074 + (i : Int)) (-1074 + (j : Int))).toNat) (Ieee.signed t n ((-1074 + (j : Int)) - min (-1074 + (i : Int)) (-1074 + (j : Int))).toNat) =
    compare (if s then -((m * 2 ^ i : Nat) : Int) else ((m * 2 ^ i : Nat) : Int)) (if t then -((n * 2 ^ j : Nat) : Int) else ((n * 2 ^ j : Nat) : Int)) := by
  rw [signed_exact, signed_exact]
  generalize hc : min i j = c
  have e1 : ((-1074 + (i : Int)) - min (-1074 + (i : Int)) (-1074 + (j : Int))).toNat = i - c := by omega
  have e2 : ((-1074 + (j : Int)) - min (-1074 + (i : Int)) (-1074 + (j : Int))).toNat = j - c := by omega
  rw [e1, e2]
  have f1 : m * 2 ^ i = m * 2 ^ (i - c) * 2 ^ c := by rw [Nat.mul_assoc, ← Nat.pow_add, Nat.sub_add_cancel (by omega)]
  have f2 : n * 2 ^ j = n * 2 ^ (j - c) * 2 ^ c := by rw [Nat.mul_assoc, ← Nat.pow_add, Nat.sub_add_cancel (by omega)]
  rw [f1, f2]
  generalize m * 2 ^ (i - c) = M
  generalize n * 2 ^ (j - c) = N
  have hP : (0 : Int) < ((2 ^ c : Nat) : Int) := by have := Nat.two_pow_pos c; omega
  rw [Int.natCast_mul, Int.natCast_mul]
  generalize ((2 ^ c : Nat) : Int) = P at *
  have key : ∀ x y : Int, compare x y = compare (x * P) (y * P) := by
    intro x y
    rcases Int.lt_trichotomy x y with h | h | h
    · rw [Int.compare_eq_lt.2 h, Int.compare_eq_lt.2 (Int.mul_lt_mul_of_pos_right h hP)]
    · subst h; rw [Int.compare_eq_eq.2 rfl, Int.compare_eq_eq.2 rfl]
    · rw [Int.compare_eq_gt.2 h, Int.compare_eq_gt.2 (Int.mul_lt_mul_of_pos_right h hP)]
  rw [key]
  congr 1
  · cases s <;> simp [Int.neg_mul]
  · cases t <;> simp [Int.neg_mul]
theorem order_exact {a b : Nat} (ha : a < 18446744073709551616) (hb : b < 18446744073709551616) :
    Ieee.Format.order Ieee.double a b = if nanF a || nanF b then none else some (compare (exact a) (exact b)) := by
  unfold Ieee.Format.order
  by_cases na : kindF a = 1
  · obtain ⟨n, f, e⟩ := read_nan na
    rw [e]
    simp [Ieee.Datum.order, nanF, na]
  by_cases nb : kindF b = 1
  · obtain ⟨n, f, e⟩ := read_nan nb
    rw [e]
    simp only [nanF, nb, decide_true, Bool.or_true, if_true]
    cases Ieee.Format.read Ieee.double a <;> rfl
  have fa : nanF a = false := by simp [nanF, na]
  have fb : nanF b = false := by simp [nanF, nb]
  rw [fa, fb]
  simp only [Bool.or_self, Bool.false_eq_true, if_false]
  by_cases ia : kindF a = 2
  · obtain ⟨e, u, ea⟩ := read_inf ha ia
    rw [e]
    by_cases ib : kindF b = 2
    · obtain ⟨e', u', eb⟩ := read_inf hb ib
      rw [e']
      unfold exact
      have uu : unit a = unit b := by rw [u, u', ea, eb]
      rw [uu]
      have hP : (0 : Int) < (unit b : Int) := by have := Nat.two_pow_pos (expo b - 1); rw [u']; omega
      generalize (unit b : Int) = P at *
      simp only [Ieee.Datum.order, Option.some.injEq]
      cases below a <;> cases below b
      · simp
      · exact (Int.compare_eq_gt.2 (show -P < P by omega)).symm
      · exact (Int.compare_eq_lt.2 (show -P < P by omega)).symm
      · simp
    · obtain ⟨e', u'⟩ := read_num hb nb ib
      rw [e']
      unfold exact
      have hP : (unit b : Int) < (unit a : Int) := by have := u' _ ea; rw [u]; exact_mod_cast this
      have h0 : (0 : Int) ≤ (unit b : Int) := by omega
      generalize (unit a : Int) = P at *
      generalize (unit b : Int) = x at *
      simp only [Ieee.Datum.order, Option.some.injEq]
      cases below a <;> cases below b
      · exact (Int.compare_eq_gt.2 (show x < P by omega)).symm
      · exact (Int.compare_eq_gt.2 (show -x < P by omega)).symm
      · exact (Int.compare_eq_lt.2 (show -P < x by omega)).symm
      · exact (Int.compare_eq_lt.2 (show -P < -x by omega)).symm
  · obtain ⟨e, u⟩ := read_num ha na ia
    rw [e]
    by_cases ib : kindF b = 2
    · obtain ⟨e', u', eb⟩ := read_inf hb ib
      rw [e']
      unfold exact
      have hP : (unit a : Int) < (unit b : Int) := by have := u _ eb; rw [u']; exact_mod_cast this
      have h0 : (0 : Int) ≤ (unit a : Int) := by omega
      generalize (unit b : Int) = P at *
      generalize (unit a : Int) = x at *
      simp only [Ieee.Datum.order, Option.some.injEq]
      cases below a <;> cases below b
      · exact (Int.compare_eq_lt.2 (show x < P by omega)).symm
      · exact (Int.compare_eq_gt.2 (show -P < x by omega)).symm
      · exact (Int.compare_eq_lt.2 (show -x < P by omega)).symm
      · exact (Int.compare_eq_gt.2 (show -P < -x by omega)).symm
    · obtain ⟨e', -⟩ := read_num hb nb ib
      rw [e']
      simp only [Ieee.Datum.order]
      rw [compare_scaled]
      rfl

theorem bitLen_zero : Lib.bitLen 0 = 0 := Lib.bitLenAux_zero 64
/-- A number's digits are as many as they must be. -/
theorem bitLen_spec (x : Nat) : x < 18446744073709551616 → x < 2 ^ Lib.bitLen x ∧ (x ≠ 0 → 1 ≤ Lib.bitLen x ∧ 2 ^ (Lib.bitLen x - 1) ≤ x) := by
  induction x using Nat.strongRecOn with
  | _ x ih =>
    intro hx
    by_cases g : x = 0
    · subst g; rw [bitLen_zero]; simp
    · obtain ⟨h1, h2⟩ := ih (x / 2) (by omega) (by omega)
      rw [Lib.bitLen_half x g (by omega)]
      have e : 2 ^ (1 + Lib.bitLen (x / 2)) = 2 * 2 ^ Lib.bitLen (x / 2) := by rw [Nat.pow_add]
      refine ⟨by rw [e]; omega, fun _ => ⟨by omega, ?_⟩⟩
      rw [Nat.add_sub_cancel_left]
      by_cases k : x / 2 = 0
      · rw [k, bitLen_zero]; simp; omega
      · obtain ⟨h3, h4⟩ := h2 k
        have e2 : 2 ^ Lib.bitLen (x / 2) = 2 * 2 ^ (Lib.bitLen (x / 2) - 1) := by rw [show Lib.bitLen (x / 2) = (Lib.bitLen (x / 2) - 1) + 1 by omega, Nat.pow_succ]; simp; omega
        rw [e2]
        omega
theorem bitLen_64 (x : Nat) (hx : x < 18446744073709551616) : Lib.bitLen x ≤ 64 := Lib.bitLen_le x 64 (Nat.le_refl _) hx
/-- It fits, if and only if its digits do. -/
theorem fits_yes {x p : Nat} (hx : x < 18446744073709551616) (h : Lib.bitLen x + p ≤ 64) : x * 2 ^ p < 18446744073709551616 := by
  have h1 := (bitLen_spec x hx).1
  have h2 : 2 ^ Lib.bitLen x * 2 ^ p ≤ 2 ^ 64 := by rw [← Nat.pow_add]; exact Nat.pow_le_pow_right (by decide) h
  have h3 : x * 2 ^ p < 2 ^ Lib.bitLen x * 2 ^ p := (Nat.mul_lt_mul_right (Nat.two_pow_pos p)).2 h1
  omega
theorem fits_no {x p : Nat} (hx : x < 18446744073709551616) (h0 : x ≠ 0) (h : 64 < Lib.bitLen x + p) : 18446744073709551616 ≤ x * 2 ^ p := by
  obtain ⟨h1, h2⟩ := (bitLen_spec x hx).2 h0
  have h3 : 2 ^ 64 ≤ 2 ^ (Lib.bitLen x - 1) * 2 ^ p := by rw [← Nat.pow_add]; exact Nat.pow_le_pow_right (by decide) (by omega)
  have h4 : 2 ^ (Lib.bitLen x - 1) * 2 ^ p ≤ x * 2 ^ p := Nat.mul_le_mul_right _ h2
  omega
/-- A reading's value out of its parts. -/
theorem mag_neg {b : Nat} {s : Int} {n : Nat} (hs : Scale s) (h : (lift b : Int) - 1074 + s = -(n : Int)) : magF b s = cutN (whole b) n := by
  obtain ⟨h1, h2⟩ := hs
  unfold magF unit
  rw [cutN_down (by omega)]
  congr 1
  omega
theorem mag_pos {b : Nat} {s : Int} {n : Nat} (hs : Scale s) (h : (lift b : Int) - 1074 + s = n) : magF b s = whole b * 2 ^ n := by
  obtain ⟨h1, h2⟩ := hs
  unfold magF unit
  rw [cutN_up (by omega)]
  congr 2
  omega
attribute [irreducible] cutN magF unit whole lift codeF valF exact kindF
end Go.Proofs.Ytinppckjolkhpaa
