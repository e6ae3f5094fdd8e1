/-
  Plain facts on the binary64 word that is nearest to a whole number over a power of 2. Conditions: those written at each fact.
-/
import Derived.Test.YtinppckjolkhpaaFl
namespace Go.Proofs.Ytinppckjolkhpaa
open Go.RowKit

/-- How many digits a number has above 53. -/
def surp (x : Nat) : Int := (Lib.bitLen x : Int) - 53
/-- Its first 53 digits, rounded. -/
def mant (x : Nat) : Nat := if surp x ≤ 0 then x * 2 ^ (-surp x).toNat else cutN x (surp x).toNat
def FS (x : Nat) : Int := if mant x = 9007199254740992 then surp x + 1 else surp x
def FM (x : Nat) : Nat := if mant x = 9007199254740992 then 4503599627370496 else mant x
def FE (x : Nat) (s : Int) : Int := FS x - s + 1075
/-- What of a number is kept. -/
def keep (x : Nat) : Nat := if surp x ≤ 0 then x else cutN x (surp x).toNat * 2 ^ (surp x).toNat
def floatW (v s : Int) : Nat := if v = 0 then 0 else (FE v.natAbs s).toNat * 4503599627370496 + (FM v.natAbs - 4503599627370496) + (if v < 0 then 9223372036854775808 else 0)

theorem bitLen_small {x k : Nat} (h : x ≤ 2 ^ k) (hk : k ≤ 62) : Lib.bitLen x ≤ k + 1 :=
  Lib.bitLen_le x (k + 1) (by omega) (by rw [Nat.pow_succ]; have := Nat.two_pow_pos k; omega)
theorem surp_range {x : Nat} (h0 : x ≠ 0) (h : x ≤ 2305843009213693952) : -52 ≤ surp x ∧ surp x ≤ 9 := by
  have h1 := bitLen_small (x := x) (k := 61) (by omega) (by decide)
  have h2 := (bitLen_spec x (by omega)).2 h0
  unfold surp
  omega
theorem mant_range {x : Nat} (h0 : x ≠ 0) (h : x ≤ 2305843009213693952) : 4503599627370496 ≤ mant x ∧ mant x ≤ 9007199254740992 := by
  obtain ⟨r1, r2⟩ := surp_range h0 h
  obtain ⟨b1, b2⟩ := bitLen_spec x (by omega)
  obtain ⟨b2, b3⟩ := b2 h0
  unfold mant
  split
  · rename_i g
    obtain ⟨n, hn⟩ : ∃ n : Nat, surp x = -(n : Int) := ⟨(-surp x).toNat, by omega⟩
    have e : (-surp x).toNat = n := by omega
    rw [e]
    have hL : Lib.bitLen x + n = 53 := by unfold surp at hn; omega
    have l1 : 2 ^ (Lib.bitLen x - 1) * 2 ^ n ≤ x * 2 ^ n := Nat.mul_le_mul_right _ b3
    have l2 : x * 2 ^ n < 2 ^ Lib.bitLen x * 2 ^ n := (Nat.mul_lt_mul_right (Nat.two_pow_pos n)).2 b1
    rw [← Nat.pow_add, show Lib.bitLen x - 1 + n = 52 by omega] at l1
    rw [← Nat.pow_add, hL] at l2
    omega
  · rename_i g
    obtain ⟨n, hn⟩ : ∃ n : Nat, surp x = (n : Int) := ⟨(surp x).toNat, by omega⟩
    have e : (surp x).toNat = n := by omega
    rw [e]
    have hL : Lib.bitLen x = 53 + n := by unfold surp at hn; omega
    have m1 : cutN (1 * 2 ^ (52 + n)) n = 1 * 2 ^ (52 + n - n) := cutN_up (by omega)
    have m2 : cutN (1 * 2 ^ (53 + n)) n = 1 * 2 ^ (53 + n - n) := cutN_up (by omega)
    have l1 : cutN (1 * 2 ^ (52 + n)) n ≤ cutN x n := cutN_mono (by rw [show Lib.bitLen x - 1 = 52 + n by omega] at b3; omega) n
    have l2 : cutN x n ≤ cutN (1 * 2 ^ (53 + n)) n := cutN_mono (by rw [hL] at b1; omega) n
    rw [m1, Nat.add_sub_cancel, Nat.one_mul] at l1
    rw [m2, Nat.add_sub_cancel, Nat.one_mul] at l2
    omega
theorem FM_range {x : Nat} (h0 : x ≠ 0) (h : x ≤ 2305843009213693952) : 4503599627370496 ≤ FM x ∧ FM x < 9007199254740992 := by
  have := mant_range h0 h
  unfold FM
  split <;> omega
theorem FE_range {x : Nat} {s : Int} (h0 : x ≠ 0) (h : x ≤ 2305843009213693952) (hs : Scale s) : 983 ≤ FE x s ∧ FE x s ≤ 1125 := by
  have := surp_range h0 h
  obtain ⟨_, _⟩ := hs
  unfold FE FS
  split <;> omega
theorem FM_keep {x : Nat} (h0 : x ≠ 0) (h : x ≤ 2305843009213693952) (n : Nat) (hn : 100 ≤ n) : FM x * 2 ^ (FS x + n).toNat = keep x * 2 ^ n := by
  obtain ⟨r1, r2⟩ := surp_range h0 h
  have e1 : FM x * 2 ^ (FS x + n).toNat = mant x * 2 ^ (surp x + n).toNat := by
    unfold FM FS
    split
    · rename_i g
      rw [g, show (surp x + 1 + (n : Int)).toNat = (surp x + n).toNat + 1 by omega, Nat.pow_succ]
      generalize 2 ^ (surp x + (n : Int)).toNat = P
      omega
    · rfl
  rw [e1]
  unfold mant keep
  split
  · rw [Nat.mul_assoc, ← Nat.pow_add]
    congr 2
    omega
  · rw [Nat.mul_assoc, ← Nat.pow_add]
    congr 2
    omega
theorem keep_small {x : Nat} (h : x ≤ 9007199254740992) : keep x = x := by
  unfold keep
  split
  · rfl
  · rename_i g
    have h1 := bitLen_small (x := x) (k := 53) (by omega) (by decide)
    have h0 : x ≠ 0 := by rintro rfl; unfold surp at g; rw [bitLen_zero] at g; omega
    have h2 := (bitLen_spec x (by omega)).2 h0
    have hs : surp x = 1 := by unfold surp at *; omega
    have hx : x = 9007199254740992 := by
      have h3 := h2.2
      unfold surp at hs
      rw [show Lib.bitLen x - 1 = 53 by omega] at h3
      omega
    rw [hs, hx]
    have := cutN_up (m := 1) (j := 53) (n := 1) (by decide)
    rw [show 1 * 2 ^ 53 = 9007199254740992 from rfl] at this
    rw [show (1 : Int).toNat = 1 from rfl, this]
theorem keep_le {x : Nat} (h : x ≤ 2305843009213693952) : keep x ≤ 2305843009213693952 := by
  unfold keep
  split
  · exact h
  · rename_i g
    have h0 : x ≠ 0 := by rintro rfl; unfold surp at g; rw [bitLen_zero] at g; omega
    obtain ⟨r1, r2⟩ := surp_range h0 h
    obtain ⟨n, hn⟩ : ∃ n : Nat, surp x = (n : Int) := ⟨(surp x).toNat, by omega⟩
    have e : (surp x).toNat = n := by omega
    rw [e]
    have m2 : cutN (1 * 2 ^ 61) n = 1 * 2 ^ (61 - n) := cutN_up (by omega)
    have l2 : cutN x n ≤ cutN (1 * 2 ^ 61) n := cutN_mono (by omega) n
    rw [m2, Nat.one_mul] at l2
    have l3 : cutN x n * 2 ^ n ≤ 2 ^ (61 - n) * 2 ^ n := Nat.mul_le_mul_right _ l2
    rw [← Nat.pow_add, show 61 - n + n = 61 by omega] at l3
    omega
/-- Whether a number is just kept, as the program asks it. -/
theorem keep_asked (x : Nat) : (decide (surp x ≤ 0) || decide (mant x * 2 ^ (surp x).toNat = x)) = decide (keep x = x) := by
  unfold keep mant
  split
  · rename_i g; simp [g]
  · rename_i g; simp [g]

theorem lt_words {z : Nat} (h : z < 9223372036854775808) : z + 9223372036854775808 < 18446744073709551616 := by omega
theorem lt_word {z : Nat} (h : z < 9223372036854775808) : z + 0 < 18446744073709551616 := by omega
theorem float_parts {v s : Int} (hv : v ≠ 0) (h : v.natAbs ≤ 2305843009213693952) (hs : Scale s) :
    floatW v s < 18446744073709551616 ∧ below (floatW v s) = decide (v < 0) ∧ (expo (floatW v s) : Int) = FE v.natAbs s ∧ frac (floatW v s) = FM v.natAbs - 4503599627370496 := by
  have hx : v.natAbs ≠ 0 := by omega
  obtain ⟨e1, e2⟩ := FE_range hx h hs
  obtain ⟨m1, m2⟩ := FM_range hx h
  unfold floatW
  rw [if_neg hv]
  generalize FM v.natAbs = m at *
  obtain ⟨e, he⟩ : ∃ e : Nat, FE v.natAbs s = (e : Int) := ⟨(FE v.natAbs s).toNat, by omega⟩
  rw [he] at e1 e2 ⊢
  rw [Int.toNat_natCast]
  have key : e * 4503599627370496 + (m - 4503599627370496) < 9223372036854775808 := by omega
  by_cases g : v < 0
  · rw [if_pos g, decide_eq_true g]
    refine And.intro ?_ (And.intro ?_ (And.intro ?_ ?_))
    · exact lt_words key
    · unfold below; rw [decide_eq_true_eq]; omega
    · unfold expo; omega
    · unfold frac; omega
  · rw [if_neg g, decide_eq_false g]
    refine And.intro ?_ (And.intro ?_ (And.intro ?_ ?_))
    · exact lt_word key
    · unfold below; rw [decide_eq_false_iff_not]; omega
    · unfold expo; omega
    · unfold frac; omega
theorem float_zero (s : Int) : floatW 0 s = 0 := by unfold floatW; rw [if_pos rfl]
attribute [irreducible] floatW
theorem float_lt {v s : Int} (h : v.natAbs ≤ 2305843009213693952) (hs : Scale s) : floatW v s < 18446744073709551616 := by
  by_cases g : v = 0
  · subst g; have e := float_zero s; omega
  · exact (float_parts g h hs).1
theorem float_below {v s : Int} (h : v.natAbs ≤ 2305843009213693952) (hs : Scale s) : below (floatW v s) = decide (v < 0) := by
  by_cases g : v = 0
  · subst g; simp [float_zero, below]
  · exact (float_parts g h hs).2.1
theorem float_kind {v s : Int} (h : v.natAbs ≤ 2305843009213693952) (hs : Scale s) : kindF (floatW v s) ≠ 1 ∧ kindF (floatW v s) ≠ 2 := by
  by_cases g : v = 0
  · subst g; rw [float_zero]; unfold kindF; decide
  · obtain ⟨_, _, e, _⟩ := float_parts g h hs
    have := FE_range (by omega : v.natAbs ≠ 0) h hs
    have e2 : expo (floatW v s) ≠ 2047 := by omega
    have e3 : expo (floatW v s) ≠ 0 := by omega
    unfold kindF
    rw [if_neg e2, if_neg e3]
    decide
theorem float_unit {v s : Int} (h : v.natAbs ≤ 2305843009213693952) (hs : Scale s) : unit (floatW v s) = keep v.natAbs * 2 ^ (1074 - s).toNat := by
  by_cases g : v = 0
  · subst g; rw [float_zero, keep_small (by decide)]; unfold unit whole; rw [if_pos (by decide)]; simp [frac]
  · obtain ⟨_, _, e, f⟩ := float_parts g h hs
    have hx : v.natAbs ≠ 0 := by omega
    obtain ⟨e1, e2⟩ := FE_range hx h hs
    obtain ⟨m1, m2⟩ := FM_range hx h
    obtain ⟨s1, s2⟩ := hs
    unfold unit whole lift
    rw [if_neg (by omega), f, show 4503599627370496 + (FM v.natAbs - 4503599627370496) = FM v.natAbs by omega, ← FM_keep hx h _ (by omega)]
    congr 2
    unfold FE at e
    omega
/-- What a whole number's float comes back to. -/
theorem float_back {v s : Int} (h : v.natAbs ≤ 2305843009213693952) (hs : Scale s) :
    codeF (floatW v s) s = 0 ∧ valF (floatW v s) s = if v < 0 then -(keep v.natAbs : Int) else keep v.natAbs := by
  obtain ⟨k1, k2⟩ := float_kind h hs
  have hm : magF (floatW v s) s = keep v.natAbs := by unfold magF; rw [float_unit h hs, cutN_self]
  have hk := keep_le h
  have hc : codeF (floatW v s) s = 0 := by unfold codeF; rw [if_pos hs, if_neg k1, if_neg k2, hm, if_neg (by omega)]
  refine ⟨hc, ?_⟩
  unfold valF
  rw [if_pos hc, float_below h hs, hm]
  simp only [decide_eq_true_eq]
attribute [irreducible] keep mant surp
end Go.Proofs.Ytinppckjolkhpaa
