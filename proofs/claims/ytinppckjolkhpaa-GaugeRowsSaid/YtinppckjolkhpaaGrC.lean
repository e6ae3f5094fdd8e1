/-
  Layer 3: the document's own answers: Parts, Order; the law GaugeOrders, its walk. Conditions: words are of 64 bits.
-/
import Derived.Test.YtinppckjolkhpaaGrB
import Derived.Test.YtinppckjolkhpaaWak
namespace Go.Proofs.Ytinppckjolkhpaa
open Go.RowKit Go.Shelf

theorem frac_len (b : Nat) : (sizeL (frac b)).length ≤ 52 := sizeL_length 52 _ (by have := frac_lt b; omega)
theorem p52_nat : ((2 ^ 52 : Nat) : Int) = 4503599627370496 := by decide
/-- A number times 2^1200. -/
def scaled126 (b : Nat) : Int := exact b * ((2 ^ 126 : Nat) : Int)
theorem parts_eq (b : Nat) (sh : Nat) (hsh : sh = 126 + lift b) : scaled126 b = if below b then -(((whole b : Nat) : Int) * ((2 ^ sh : Nat) : Int)) else ((whole b : Nat) : Int) * ((2 ^ sh : Nat) : Int) := by
  have e : ((whole b : Nat) : Int) * ((2 ^ sh : Nat) : Int) = ((unit b : Nat) : Int) * ((2 ^ 126 : Nat) : Int) := by
    rw [← Int.natCast_mul, ← Int.natCast_mul]
    unfold unit
    rw [hsh, Nat.mul_assoc, ← Nat.pow_add, Nat.add_comm 126]
  unfold scaled126 exact
  rw [e]
  split
  · rw [Int.neg_mul]
  · rfl
theorem below_iff (b : Nat) (hb : b < 18446744073709551616) : below b = decide (9223372036854775808 ≤ b) := by
  unfold below
  rw [decide_eq_decide]
  omega
theorem refParts_any (b : Nat) (hb : b < 18446744073709551616) (w : World) : Calls Try.prog 14 #[.int .u64 b] w (RetZ w (scaled126 b)) := by
  have he := expo_lt b
  have hf := frac_lt b
  have hfl := frac_len b
  have E := fun W => exponent_any b hb W
  have F := fun W => fraction_any b W
  have S := fun W => (size_any (frac b) (by omega) W).mono fun _ _ (h : Made W _ _ _) => retN_of h.gave
  have P52 := fun W => pow_any 52 (by decide) W
  have l52 := size_pow 52
  have AD := fun v v' W (k : NumZ W v ((frac b : Nat) : Int)) (k' : NumZ W v' ((2 ^ 52 : Nat) : Int)) => addZ_any ((frac b : Nat) : Int) ((2 ^ 52 : Nat) : Int) (by rw [Int.natAbs_natCast]; omega) (by rw [Int.natAbs_natCast]; omega) v v' W k k'
  have wl : (sizeL (whole b)).length ≤ 53 := sizeL_length 53 _ (by have := whole_lt b; omega)
  have PW : ∀ sh : Nat, sh ≤ 2200 → ∀ W p, p = (sh : Int) → Calls Try.prog 30 #[.int .i64 p] W (RetZ W ((2 ^ sh : Nat) : Int)) := fun sh hsh W p hp => by rw [hp]; exact pow_any sh (by omega) W
  have ML : ∀ sh : Nat, sh ≤ 2200 → ∀ v v' W, NumZ W v ((whole b : Nat) : Int) → NumZ W v' ((2 ^ sh : Nat) : Int) → Calls Try.prog 36 #[v, v'] W (RetZ W (((whole b : Nat) : Int) * ((2 ^ sh : Nat) : Int))) := fun sh hsh v v' W k k' =>
    mulZ_any _ _ (by rw [Int.natAbs_natCast, Int.natAbs_natCast]; have := size_pow sh; omega) v v' W k k'
  have hbl := below_iff b hb
  by_cases g : expo b = 0
  · have hw : whole b = frac b := by unfold whole; rw [if_pos g]
    have hl : (126 : Nat) = 126 + lift b := by unfold lift; omega
    rw [hw] at ML
    rw [parts_eq b 126 hl, hw]
    by_cases k : 9223372036854775808 ≤ b
    · rw [hbl, decide_eq_true k, if_pos rfl]
      exact parts_dn b (expo b) (frac b) 126 g (by omega) rfl (by omega) E F S P52 AD (PW 126 (by decide)) (ML 126 (by decide)) w
    · rw [hbl, decide_eq_false k, if_neg (by decide)]
      exact parts_dp b (expo b) (frac b) 126 g (by omega) rfl (by omega) E F S P52 AD (PW 126 (by decide)) (ML 126 (by decide)) w
  · have hw : ((whole b : Nat) : Int) = ((frac b : Nat) : Int) + ((2 ^ 52 : Nat) : Int) := by unfold whole; rw [if_neg g, p52_nat]; omega
    have hl : 125 + expo b = 126 + lift b := by unfold lift; omega
    rw [hw] at ML
    rw [parts_eq b (125 + expo b) hl, hw]
    by_cases k : 9223372036854775808 ≤ b
    · rw [hbl, decide_eq_true k, if_pos rfl]
      exact parts_un b (expo b) (frac b) (125 + expo b) (by omega) (by omega) rfl (by omega) E F S P52 AD (PW _ (by omega)) (ML _ (by omega)) w
    · rw [hbl, decide_eq_false k, if_neg (by decide)]
      exact parts_up b (expo b) (frac b) (125 + expo b) (by omega) (by omega) rfl (by omega) E F S P52 AD (PW _ (by omega)) (ML _ (by omega)) w
theorem scaled_len (b : Nat) : (sizeL (scaled126 b).natAbs).length ≤ 2300 := by
  have e : (scaled126 b).natAbs = whole b * 2 ^ (126 + lift b) := by
    rw [parts_eq b _ rfl]
    split
    · rw [Int.natAbs_neg, ← Int.natCast_mul, Int.natAbs_natCast]
    · rw [← Int.natCast_mul, Int.natAbs_natCast]
  rw [e]
  have h1 := size_mul (whole b) (2 ^ (126 + lift b))
  have h2 : (sizeL (whole b)).length ≤ 53 := sizeL_length 53 _ (by have := whole_lt b; omega)
  have h3 := size_pow (126 + lift b)
  have h4 := lift_lt b
  omega
theorem scaled_lt (a b : Nat) : scaled126 a < scaled126 b ↔ exact a < exact b := by
  unfold scaled126
  have hp : (0 : Int) < ((2 ^ 126 : Nat) : Int) := by have := Nat.two_pow_pos 126; omega
  exact ⟨fun h => Int.lt_of_mul_lt_mul_right h (Int.le_of_lt hp), fun h => Int.mul_lt_mul_of_pos_right h hp⟩

end Go.Proofs.Ytinppckjolkhpaa
