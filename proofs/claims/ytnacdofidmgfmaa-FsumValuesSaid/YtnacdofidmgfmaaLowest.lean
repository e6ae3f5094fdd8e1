/-
  The walk of the law LineLowest. Conditions: the numbers are of 64 bits.
-/
import Derived.Test.YtnacdofidmgfmaaLnW
namespace Go.Proofs.Ytnacdofidmgfmaa
open Go.RowKit

theorem coprime_dvd {a b c : Int} (h : Int.gcd a b = 1) (hd : a ∣ b * c) : a ∣ c := by
  have h1 : Nat.Coprime a.natAbs b.natAbs := h
  have h2 : a.natAbs ∣ b.natAbs * c.natAbs := by rw [← Int.natAbs_mul]; exact Int.natAbs_dvd_natAbs.2 hd
  exact Int.natAbs_dvd_natAbs.1 (h1.dvd_of_dvd_mul_left h2)
theorem low_coprime {n d : Int} (h : 1 ≤ d) : Int.gcd (lowN n d) (lowD n d) = 1 := by
  unfold lowN lowD gcdI
  exact Int.gcd_ediv_gcd_ediv_gcd_of_ne_zero_right (by omega)
theorem lowD_pos {n d : Int} (h : slopeB n d = true) : 1 ≤ lowD n d := ((slopeB_iff _ _).1 (low_bounds h)).2.2.1
/-- What is the same over the same has one form. -/
theorem coprime_same {a b c d : Int} (hb : 1 ≤ b) (hd : 1 ≤ d) (h1 : Int.gcd a b = 1) (h2 : Int.gcd c d = 1) (h : a * d = c * b) : a = c ∧ b = d := by
  have e1 : b ∣ d := coprime_dvd (a := b) (b := a) (by rw [Int.gcd_comm]; exact h1) ⟨c, by rw [h, Int.mul_comm]⟩
  have e2 : d ∣ b := coprime_dvd (a := d) (b := c) (by rw [Int.gcd_comm]; exact h2) ⟨a, by rw [← h, Int.mul_comm]⟩
  have e3 := Int.le_of_dvd (by omega) e1
  have e4 := Int.le_of_dvd (by omega) e2
  have e : b = d := by omega
  subst e
  exact ⟨Int.eq_of_mul_eq_mul_right (by omega) h, rfl⟩
theorem low_same {n d m e : Int} (h1 : slopeB n d = true) (h2 : slopeB m e = true) : n * e = m * d ↔ lowN n d = lowN m e ∧ lowD n d = lowD m e := by
  obtain ⟨a1, a2⟩ := low_mul n d
  obtain ⟨b1, b2⟩ := low_mul m e
  have s1 := (slopeB_iff _ _).1 h1
  have s2 := (slopeB_iff _ _).1 h2
  have g1 := gcdI_pos (n := n) s1.2.2.1
  have g2 := gcdI_pos (n := m) s2.2.2.1
  have c1 := low_coprime (n := n) s1.2.2.1
  have c2 := low_coprime (n := m) s2.2.2.1
  have p1 := lowD_pos h1
  have p2 := lowD_pos h2
  generalize lowN n d = N at *
  generalize lowD n d = D at *
  generalize lowN m e = M at *
  generalize lowD m e = E at *
  generalize gcdI n d = g at *
  generalize gcdI m e = k at *
  subst a1 a2 b1 b2
  constructor
  · intro h
    refine coprime_same p1 p2 c1 c2 ?_
    have e : (N * E) * (g * k) = (M * D) * (g * k) := by
      have l : (N * E) * (g * k) = N * g * (E * k) := by rw [Int.mul_assoc, Int.mul_assoc, Int.mul_left_comm E g k]
      have r : (M * D) * (g * k) = M * k * (D * g) := by rw [Int.mul_comm g k, Int.mul_assoc, Int.mul_assoc, Int.mul_left_comm D k g]
      rw [l, r, h]
    exact Int.eq_of_mul_eq_mul_right (Int.ne_of_gt (Int.mul_pos (by omega) (by omega))) e
  · rintro ⟨rfl, rfl⟩
    rw [Int.mul_assoc, Int.mul_assoc, Int.mul_left_comm g D k, Int.mul_left_comm k D g, Int.mul_comm g k]
theorem low_again {n d : Int} (h : slopeB n d = true) : lowN (lowN n d) (lowD n d) = lowN n d ∧ lowD (lowN n d) (lowD n d) = lowD n d := by
  have c1 := low_coprime (n := n) ((slopeB_iff _ _).1 h).2.2.1
  generalize lowN n d = N at *
  generalize lowD n d = D at *
  unfold lowN lowD gcdI
  rw [c1]
  exact ⟨Int.ediv_one _, Int.ediv_one _⟩
theorem cmpI_cases (x y : Int) : x = y ∧ cmpI x y = 0 ∧ cmpI y x = 0 ∨ x < y ∧ cmpI x y = -1 ∧ cmpI y x = 1 ∨ y < x ∧ cmpI x y = 1 ∧ cmpI y x = -1 := by
  unfold cmpI
  rcases Int.lt_trichotomy x y with g | g | g
  · exact Or.inr (Or.inl ⟨g, by rw [if_neg (by omega), if_pos g], by rw [if_neg (by omega), if_neg (by omega)]⟩)
  · exact Or.inl ⟨g, by rw [if_pos g], by rw [if_pos g.symm]⟩
  · exact Or.inr (Or.inr ⟨g, by rw [if_neg (by omega), if_neg (by omega)], by rw [if_neg (by omega), if_pos g]⟩)
/-- The order goes on. -/
theorem order_on {a b c d e f : Int} (hb : 1 ≤ b) (hd : 1 ≤ d) (hf : 1 ≤ f) (h1 : a * d ≤ c * b) (h2 : c * f ≤ e * d) : a * f ≤ e * b := by
  have x1 := Int.mul_le_mul_of_nonneg_right h1 (show 0 ≤ f by omega)
  have x2 := Int.mul_le_mul_of_nonneg_right h2 (show 0 ≤ b by omega)
  rw [show c * b * f = c * f * b by rw [Int.mul_assoc, Int.mul_assoc, Int.mul_comm b f]] at x1
  have x3 := Int.le_trans x1 x2
  rw [show a * d * f = a * f * d by rw [Int.mul_assoc, Int.mul_assoc, Int.mul_comm d f], show e * d * b = e * b * d by rw [Int.mul_assoc, Int.mul_assoc, Int.mul_comm d b]] at x3
  exact Int.le_of_mul_le_mul_right x3 (by omega)

end Go.Proofs.Ytnacdofidmgfmaa
