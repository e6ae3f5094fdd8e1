/-
  The document's own answers for layer 9: Door. Conditions: those written at each fact.
-/
import Derived.Test.YtjioljgojfcckaaGreatSwU
import Derived.Test.YtjioljgojfcckaaGreatSwS
namespace Go.Proofs.YtjioljgojfcckaaGreat.P9
open Go.RowKit Go.Shelf Go.Proofs.YtjioljgojfcckaaGreat.P8

theorem gcd_one {n d : Int} (hd : 0 < d) (h : lowD n d = d) : gcdI n d = 1 := by
  have h1 := (low_mul n d).2
  rw [h] at h1
  have h2 : d * gcdI n d = d * 1 := by rw [h1, Int.mul_one]
  exact Int.eq_of_mul_eq_mul_left (by omega) h2
/-- Two fractions in lowest terms that say the same are the same. -/
theorem low_same {a b p q : Int} (hb : 0 < b) (hq : 0 < q) (h1 : lowD a b = b) (h2 : lowD p q = q) (h : p * b = a * q) : p = a ∧ q = b := by
  have g1 := gcd_one hb h1
  have g2 := gcd_one hq h2
  have c1 : Nat.gcd a.natAbs b.natAbs = 1 := by unfold gcdI Int.gcd at g1; exact_mod_cast g1
  have c2 : Nat.gcd p.natAbs q.natAbs = 1 := by unfold gcdI Int.gcd at g2; exact_mod_cast g2
  have hn : p.natAbs * b.natAbs = a.natAbs * q.natAbs := by rw [← Int.natAbs_mul, ← Int.natAbs_mul, h]
  have d1 : b.natAbs ∣ q.natAbs := (Nat.Coprime.dvd_of_dvd_mul_left (Nat.Coprime.symm c1) ⟨p.natAbs, by rw [← hn, Nat.mul_comm]⟩)
  have d2 : q.natAbs ∣ b.natAbs := (Nat.Coprime.dvd_of_dvd_mul_left (Nat.Coprime.symm c2) ⟨a.natAbs, by rw [hn, Nat.mul_comm]⟩)
  have e := Nat.dvd_antisymm d2 d1
  have eq : q = b := by omega
  subst eq
  exact ⟨Int.eq_of_mul_eq_mul_right (by omega) h, rfl⟩
/-- A band more, as the document takes it. -/
theorem step_ref {x : Dr} {b : Bd} (hx : DrOk x) (hb : BdOk b) (ht : x.t < b.t) :
    stepD x b = ⟨x.t, x.v, if x.a * slD x.t x.v b.t b.lo < slN x.t x.v b.t b.lo * x.b then slN x.t x.v b.t b.lo else x.a, if x.a * slD x.t x.v b.t b.lo < slN x.t x.v b.t b.lo * x.b then slD x.t x.v b.t b.lo else x.b,
      if slN x.t x.v b.t b.hi * x.d < x.c * slD x.t x.v b.t b.hi then slN x.t x.v b.t b.hi else x.c, if slN x.t x.v b.t b.hi * x.d < x.c * slD x.t x.v b.t b.hi then slD x.t x.v b.t b.hi else x.d⟩ := by
  obtain ⟨h1, h2, h3⟩ := band_ok hb
  obtain ⟨p1, p2⟩ := hx.pos
  obtain ⟨s1, s2, s3⟩ := sl_ok hx.v h2 hx.t h1 ht
  have s4 := ((slopeB_iff _ _).1 s1).2.2.1
  rw [stepD, if_pos ht]
  simp only [Dr.mk.injEq, true_and]
  unfold greN greD lesN lesD
  generalize slN x.t x.v b.t b.lo = p at *
  generalize slD x.t x.v b.t b.lo = q at *
  refine ⟨?_, ?_, rfl, rfl⟩
  · by_cases g1 : p * x.b < x.a * q
    · rw [if_pos g1, if_neg (by omega)]
    · rw [if_neg g1]
      by_cases g2 : x.a * q < p * x.b
      · rw [if_pos g2]
      · rw [if_neg g2]
        exact (low_same p1 (by omega) hx.la.2 s3 (by omega)).1
  · by_cases g1 : p * x.b < x.a * q
    · rw [if_pos g1, if_neg (by omega)]
    · rw [if_neg g1]
      by_cases g2 : x.a * q < p * x.b
      · rw [if_pos g2]
      · rw [if_neg g2]
        exact (low_same p1 (by omega) hx.la.2 s3 (by omega)).2
/-- The first band behind the hinge's own. -/
theorem step_first {b0 b : Bd} (h0 : BdOk b0) (hb : BdOk b) (ht : b0.t < b.t) :
    stepD (open0 b0) b = ⟨b0.t, mid b0, slN b0.t (mid b0) b.t b.lo, slD b0.t (mid b0) b.t b.lo, slN b0.t (mid b0) b.t b.hi, slD b0.t (mid b0) b.t b.hi⟩ := by
  obtain ⟨h1, h2, h3⟩ := band_ok hb
  have hx := open_ok h0
  obtain ⟨s1, _⟩ := sl_ok (t := b0.t) (v := mid b0) hx.v h2 hx.t h1 ht
  obtain ⟨r1, _⟩ := sl_ok (t := b0.t) (v := mid b0) hx.v h3 hx.t h1 ht
  rw [slopeB_iff] at s1 r1
  rw [stepD, if_pos (show (open0 b0).t < b.t from ht)]
  simp only [open0, Dr.mk.injEq, true_and]
  unfold greN greD lesN lesD
  generalize slN b0.t (mid b0) b.t b.lo = p at *
  generalize slD b0.t (mid b0) b.t b.lo = q at *
  generalize slN b0.t (mid b0) b.t b.hi = r at *
  generalize slD b0.t (mid b0) b.t b.hi = s at *
  have a1 := Int.mul_le_mul_of_nonneg_left s1.2.2.1 (show (0 : Int) ≤ 4611688217450643456 by omega)
  have a2 := Int.mul_le_mul_of_nonneg_left r1.2.2.1 (show (0 : Int) ≤ 4611688217450643456 by omega)
  rw [if_neg (by omega), if_neg (by omega)]
  refine ⟨rfl, rfl, ?_, ?_⟩
  · split <;> omega
  · split <;> omega
end Go.Proofs.YtjioljgojfcckaaGreat.P9
