/-
  Plain facts on how far a number is from 0, and on products, as words: no program in sight. Conditions: none beyond those written at each fact.
-/
import Derived.Test.YtnacdofidmgfmaaNum
namespace Go.Proofs.Ytnacdofidmgfmaa
open Go.RowKit

/-- How far a number is from 0. -/
def mag (z : Int) : Int := if z < 0 then -z else z
/-- The upper and the lower word of a number from 0 on. -/
def dh (n : Int) : Int := n / 18446744073709551616
def dl (n : Int) : Int := n % 18446744073709551616
/-- The negative of two words. -/
def nhi (hi lo : Int) : Int := (0 - hi - bor 0 lo) % 18446744073709551616
def nlo (lo : Int) : Int := (0 - lo) % 18446744073709551616

theorem mag_nonneg (z : Int) : 0 ≤ mag z := by unfold mag; split <;> omega
theorem mag_fits {z : Int} (h : Fits z) : mag z ≤ 170141183460469231731687303715884105728 := by unfold mag; unfold Fits at h; split <;> omega
theorem dh_u64 {n : Int} (h0 : 0 ≤ n) (h1 : n < 340282366920938463463374607431768211456) : U64 (dh n) := by unfold dh U64; omega
theorem dl_u64 (n : Int) : U64 (dl n) := by unfold dl U64; omega
theorem nhi_u64 (hi lo : Int) : U64 (nhi hi lo) := by unfold nhi U64; omega
theorem nlo_u64 (lo : Int) : U64 (nlo lo) := by unfold nlo U64; omega
theorem val_d (n : Int) : val (dh n) (dl n) = n := by unfold val dh dl; omega
theorem wrap_u64_u64 (x : Int) : U64 (IntKind.u64.wrap x) := by rw [IntKind.wrap_u64]; unfold U64; omega

theorem far_pos {hi lo : Int} (h : I64 hi) (k : U64 lo) (g : decide (hi < 0) = false) : IntKind.u64.wrap hi = dh (mag (val hi lo)) ∧ lo = dl (mag (val hi lo)) := by
  simp only [decide_eq_false_iff_not] at g
  obtain ⟨_, _⟩ := h; obtain ⟨_, _⟩ := k
  rw [IntKind.wrap_u64]; unfold mag dh dl val
  constructor <;> split <;> omega
theorem far_neg {hi lo : Int} (h : I64 hi) (k : U64 lo) (g : decide (hi < 0) = true) : nhi (IntKind.u64.wrap hi) lo = dh (mag (val hi lo)) ∧ nlo lo = dl (mag (val hi lo)) := by
  simp only [decide_eq_true_eq] at g
  obtain ⟨_, _⟩ := h; obtain ⟨_, _⟩ := k
  rw [IntKind.wrap_u64]; unfold mag dh dl val nhi nlo bor
  constructor <;> (repeat split) <;> omega

/-- The product of a number of two words and a word, as three words. -/
theorem times_words {h l n : Int} (hh : U64 h) (hl : U64 l) (hn : U64 n) :
    (h * n % 18446744073709551616 + l * n / 18446744073709551616) % 18446744073709551616 = dh (val h l * n % 340282366920938463463374607431768211456) ∧
    l * n % 18446744073709551616 = dl (val h l * n % 340282366920938463463374607431768211456) ∧
    IntKind.u64.wrap (h * n / 18446744073709551616 + (h * n % 18446744073709551616 + l * n / 18446744073709551616) / 18446744073709551616) = val h l * n / 340282366920938463463374607431768211456 := by
  have e : val h l * n = h * n * 18446744073709551616 + l * n := by
    unfold val; rw [Int.add_mul, Int.mul_right_comm]
  rw [e]
  have b1 : 0 ≤ h * n := Int.mul_nonneg hh.1 hn.1
  have b2 : 0 ≤ l * n := Int.mul_nonneg hl.1 hn.1
  have b3 : h * n ≤ 18446744073709551615 * 18446744073709551615 := Int.mul_le_mul (by have := hh.2; omega) (by have := hn.2; omega) hn.1 (by decide)
  have b4 : l * n ≤ 18446744073709551615 * 18446744073709551615 := Int.mul_le_mul (by have := hl.2; omega) (by have := hn.2; omega) hn.1 (by decide)
  generalize h * n = A at *
  generalize l * n = B at *
  rw [IntKind.wrap_u64]
  unfold dh dl
  refine ⟨?_, ?_, ?_⟩ <;> omega

/-- A number of that distance, on that side. -/
def sgn (b : Bool) (n : Int) : Int := if b then -n else n
def sfit (b : Bool) (h l : Int) : Bool := decide (h < 9223372036854775808) || b && (h == 9223372036854775808 && l == 0)
def shi (b : Bool) (h l : Int) : Int := wrap64 (if b then nhi h l else h)
def slo (b : Bool) (l : Int) : Int := if b then nlo l else l
theorem signed_yes {b : Bool} {h l : Int} (hh : U64 h) (hl : U64 l) (g : sfit b h l = true) : Fits (sgn b (val h l)) ∧ shi b h l = rhi (sgn b (val h l)) ∧ slo b l = rlo (sgn b (val h l)) := by
  obtain ⟨_, _⟩ := hh; obtain ⟨_, _⟩ := hl
  have f : Fits (sgn b (val h l)) := by
    unfold sfit at g; unfold sgn Fits val
    cases b <;> simp at g ⊢ <;> omega
  refine ⟨f, ?_⟩
  unfold rhi rlo; rw [if_pos f, if_pos f]
  unfold shi slo wrap64
  unfold Fits at f
  unfold sgn val at *
  cases b
  · simp at f ⊢; omega
  · simp at f ⊢; unfold nhi nlo bor; constructor <;> (repeat split) <;> omega
theorem signed_no {b : Bool} {h l : Int} (hh : U64 h) (hl : U64 l) (g : sfit b h l = false) : ¬ Fits (sgn b (val h l)) := by
  obtain ⟨_, _⟩ := hh; obtain ⟨_, _⟩ := hl
  unfold sfit at g; unfold sgn Fits val
  cases b <;> simp at g ⊢ <;> omega
theorem val_neg {hi lo : Int} (k : U64 lo) : val hi lo < 0 ↔ hi < 0 := by unfold val; obtain ⟨_, _⟩ := k; omega
theorem mul_sgn (M n : Int) : M * n = sgn (!decide (M < 0) == decide (n < 0)) (mag M * mag n) := by
  unfold sgn mag
  by_cases a : M < 0 <;> by_cases b : n < 0 <;> simp [a, b, Int.neg_mul, Int.mul_neg]
/-- What a product, as distances, comes to. -/
theorem scale_math {M n : Int} {bb f o : Bool} (hbb : bb = (!decide (M < 0) == decide (n < 0)))
    (hf : sfit bb (dh (mag M * mag n % 340282366920938463463374607431768211456)) (dl (mag M * mag n % 340282366920938463463374607431768211456)) = f)
    (ho : (mag M * mag n / 340282366920938463463374607431768211456 == 0) = o) :
    (if f && o then shi bb (dh (mag M * mag n % 340282366920938463463374607431768211456)) (dl (mag M * mag n % 340282366920938463463374607431768211456)) else 0) = rhi (M * n) ∧
    (if f && o then slo bb (dl (mag M * mag n % 340282366920938463463374607431768211456)) else 0) = rlo (M * n) ∧ (if f && o then (0 : Int) else 5) = rcode (M * n) := by
  rw [mul_sgn M n, ← hbb]
  have hp : 0 ≤ mag M * mag n := Int.mul_nonneg (mag_nonneg _) (mag_nonneg _)
  generalize mag M * mag n = p at *
  cases o with
  | false =>
    have h1 : p / 340282366920938463463374607431768211456 ≠ 0 := by simpa using ho
    have nf : ¬ Fits (sgn bb p) := by unfold Fits sgn; cases bb <;> simp <;> omega
    simp [rhi, rlo, rcode, nf]
  | true =>
    have h1 : p / 340282366920938463463374607431768211456 = 0 := by simpa using ho
    have e : p % 340282366920938463463374607431768211456 = p := by omega
    rw [e] at hf ⊢
    have u1 : U64 (dh p) := dh_u64 hp (by omega)
    cases f with
    | true =>
      obtain ⟨y1, y2, y3⟩ := signed_yes u1 (dl_u64 p) hf
      rw [val_d] at y1 y2 y3
      simp [y2, y3, rcode, y1]
    | false =>
      have nf := signed_no u1 (dl_u64 p) hf
      rw [val_d] at nf
      simp [rhi, rlo, rcode, nf]
attribute [irreducible] mag dh dl nhi nlo sgn sfit shi slo
end Go.Proofs.Ytnacdofidmgfmaa
