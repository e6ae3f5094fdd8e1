/-
 Layer 6: what steps that are rounded down come to: plain arithmetic. Conditions: those written at each fact.
-/
namespace Go.Proofs.YtcfidimnbamnkaaGreat

def floorS : Nat → Int → Int → Int → Int
 | 0, _, _, _ => 0
 | n + 1, a, b, m => floorS n a b m + (a * n + b) / m
def prN : Nat → Int
 | 0 => 0
 | n + 1 => prN n + n
theorem prN_two (n : Nat) : 2 * prN n = n * ((n : Int) - 1) := by
 induction n with
 | zero => simp [prN]
 | succ n ih =>
  simp only [prN, Int.mul_add, ih]
  have e : ((n + 1 : Nat) : Int) * (((n + 1 : Nat) : Int) - 1) = (n : Int) * ((n : Int) - 1) + 2 * n := by
   rw [show ((n + 1 : Nat) : Int) = (n : Int) + 1 by omega, Int.mul_sub, Int.mul_sub, Int.mul_add, Int.add_mul]
   omega
  omega
theorem prN_nonneg (n : Nat) : 0 ≤ prN n := by
 induction n with
 | zero => simp [prN]
 | succ n ih => simp only [prN]; omega
theorem prN_le {n : Nat} (h : n ≤ 256) : prN n ≤ 32640 := by
 have e := prN_two n
 have h1 : (n : Int) * ((n : Int) - 1) ≤ 256 * 255 := by
  by_cases g : n = 0
  ·subst g; simp
  ·exact Int.mul_le_mul (by omega) (by omega) (by omega) (by omega)
 omega
theorem floor_whole {m : Int} (hm : 1 ≤ m) (n : Nat) (a b q p : Int) : floorS n (q * m + a) (p * m + b) m = q * prN n + p * n + floorS n a b m := by
 induction n with
 | zero => simp [floorS, prN]
 | succ n ih =>
  simp only [floorS, prN, ih]
  have e : (q * m + a) * n + (p * m + b) = (a * n + b) + m * (q * n + p) := by
   rw [Int.add_mul, Int.mul_add, Int.mul_comm p m, Int.mul_comm q m, Int.mul_assoc]
   omega
  rw [e, Int.add_mul_ediv_left _ _ (show m ≠ 0 by omega), show ((n + 1 : Nat) : Int) = (n : Int) + 1 by omega, Int.mul_add, Int.mul_add]
  omega
theorem floor_mod {m : Int} (hm : 1 ≤ m) (n : Nat) (a b : Int) : floorS n a b m = a / m * prN n + b / m * n + floorS n (a % m) (b % m) m := by
 rw [← floor_whole hm, Int.mul_comm (a / m), Int.mul_comm (b / m), Int.mul_ediv_add_emod, Int.mul_ediv_add_emod]
theorem floor_split (k j : Nat) (a b m : Int) : floorS (k + j) a b m = floorS k a b m + floorS j a (b + a * k) m := by
 induction j with
 | zero => simp [floorS]
 | succ j ih =>
  rw [← Nat.add_assoc]
  simp only [floorS, ih]
  rw [show a * ((k + j : Nat) : Int) + b = a * (j : Int) + (b + a * k) by rw [show ((k + j : Nat) : Int) = (k : Int) + j by omega, Int.mul_add]; omega]
  omega
theorem floor_front (n : Nat) (a b m : Int) : floorS (n + 1) a b m = b / m + floorS n a (b + a) m := by
 rw [Nat.add_comm, floor_split]
 simp [floorS]
theorem floor_turn (n : Nat) (a b m : Int) : floorS n (-a) (b + a * ((n : Int) - 1)) m = floorS n a b m := by
 induction n with
 | zero => simp [floorS]
 | succ n ih =>
  rw [floor_front]
  rw [show b + a * (((n + 1 : Nat) : Int) - 1) = b + a * n by rw [show ((n + 1 : Nat) : Int) - 1 = n by omega]]
  rw [show b + a * (n : Int) + -a = b + a * ((n : Int) - 1) by rw [Int.mul_sub]; omega, ih]
  simp only [floorS]
  rw [Int.add_comm (a * (n : Int)) b]
  omega
theorem floor_nonneg {m : Int} (hm : 1 ≤ m) (n : Nat) (a b : Int) (ha : 0 ≤ a) (hb : 0 ≤ b) : 0 ≤ floorS n a b m := by
 induction n with
 | zero => simp [floorS]
 | succ n ih =>
  simp only [floorS]
  have : 0 ≤ (a * n + b) / m := Int.ediv_nonneg (by have := Int.mul_nonneg ha (show (0 : Int) ≤ n by omega); omega) (by omega)
  omega
theorem floor_up {m : Int} (hm : 1 ≤ m) (n : Nat) (a b : Int) : floorS n a (b + m) m = floorS n a b m + n := by
 have := floor_whole hm n a b 0 1
 simp at this
 rw [Int.add_comm b m, this]
 omega
theorem floor_swap (n : Nat) (a b m : Int) (ha : 1 ≤ a) (ham : a < m) (hb : 0 ≤ b) (hbm : b < m) : floorS n a b m = floorS ((a * n + b) / m).toNat (-m) (a * n + b - m) a := by
 induction n with
 | zero =>
  rw [show (a * ((0 : Nat) : Int) + b) / m = 0 by rw [Int.ediv_eq_zero_of_lt (by simpa using hb) (by simpa using hbm)]]
  simp [floorS]
 | succ n ih =>
  simp only [floorS, ih]
  have e : a * ((n + 1 : Nat) : Int) + b = (a * n + b) + a := by
   rw [show ((n + 1 : Nat) : Int) = (n : Int) + 1 by omega, Int.mul_add]; omega
  rw [e]
  have h0 : 0 ≤ a * n + b := by have := Int.mul_nonneg (show 0 ≤ a by omega) (show (0 : Int) ≤ n by omega); omega
  generalize a * n + b = x at *
  obtain ⟨K, hK⟩ : ∃ K : Nat, x / m = K := Int.eq_ofNat_of_zero_le (Int.ediv_nonneg h0 (by omega))
  have e1 := Int.mul_ediv_add_emod x m
  have r0 := Int.emod_nonneg x (show m ≠ 0 by omega)
  have r1 := Int.emod_lt_of_pos x (show 0 < m by omega)
  rw [show x + a - m = x - m + a by omega, floor_up ha]
  rw [hK] at e1 ⊢
  by_cases g : x % m + a < m
  ·have k : (x + a) / m = K := by
    rw [show x + a = (x % m + a) + m * K by omega, Int.add_mul_ediv_left _ _ (show m ≠ 0 by omega), Int.ediv_eq_zero_of_lt (by omega) g]
    omega
   rw [k]
   simp
  ·have k : (x + a) / m = K + 1 := by
    rw [show x + a = (x % m + a - m) + m * (K + 1) by rw [Int.mul_add]; omega, Int.add_mul_ediv_left _ _ (show m ≠ 0 by omega), Int.ediv_eq_zero_of_lt (by omega) (by omega)]
    omega
   rw [k, show ((K : Int) + 1).toNat = K + 1 by omega, show ((K : Int)).toNat = K by omega]
   simp only [floorS]
   have l : (-m * (K : Int) + (x - m)) / a = -1 := by
    rw [show -m * (K : Int) + (x - m) = (x % m - m + a) + a * (-1) by rw [Int.neg_mul]; omega, Int.add_mul_ediv_left _ _ (show a ≠ 0 by omega), Int.ediv_eq_zero_of_lt (by omega) (by omega)]
    omega
   rw [l]
   simp
   omega
theorem floor_turned (n : Nat) (a b m : Int) (ha : 1 ≤ a) (ham : a < m) (hb : 0 ≤ b) (hbm : b < m) : floorS n a b m = floorS ((a * n + b) / m).toNat m ((a * n + b) % m) a := by
 rw [floor_swap n a b m ha ham hb hbm]
 have h0 : 0 ≤ a * n + b := by have := Int.mul_nonneg (show 0 ≤ a by omega) (show (0 : Int) ≤ n by omega); omega
 generalize a * n + b = x at *
 obtain ⟨K, hK⟩ : ∃ K : Nat, x / m = K := Int.eq_ofNat_of_zero_le (Int.ediv_nonneg h0 (by omega))
 have e1 := Int.mul_ediv_add_emod x m
 rw [hK] at e1 ⊢
 rw [Int.toNat_natCast, ← floor_turn K m (x % m) a, show x % m + m * ((K : Int) - 1) = x - m by rw [Int.mul_sub]; omega]
theorem floor_none (n : Nat) (a b m : Int) (ha : 0 ≤ a) (hb : 0 ≤ b) (h : a * n + b < m) : floorS n a b m = 0 := by
 induction n with
 | zero => rfl
 | succ n ih =>
  have e : a * ((n + 1 : Nat) : Int) + b = (a * n + b) + a := by
   rw [show ((n + 1 : Nat) : Int) = (n : Int) + 1 by omega, Int.mul_add]; omega
  rw [e] at h
  have h0 : 0 ≤ a * n + b := by have := Int.mul_nonneg ha (show (0 : Int) ≤ n by omega); omega
  simp only [floorS]
  rw [ih (by omega), Int.ediv_eq_zero_of_lt h0 (by omega)]
  rfl
end Go.Proofs.YtcfidimnbamnkaaGreat
