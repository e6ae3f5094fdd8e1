/-
  Layer 10: what is fitted, beside rays that go through the same bands. Conditions: those written at each fact.
-/
import Derived.Test.YtmdhgiaaofdjiaaSlN
import Derived.Test.YtmdhgiaaofdjiaaSlO
namespace Go.Proofs.Ytmdhgiaaofdjiaa.P10
open Go.RowKit Go.Shelf Go.Proofs.Ytmdhgiaaofdjiaa.P8

/-- Is n / d less steep than m / e, or does it go the other way? -/
def flatB (n d m e : Int) : Bool := (decide (0 < m) && decide (n * e < m * d)) || (decide (m < 0) && decide (m * d < n * e))
theorem one_flat {m : List Bd} (h : m.length = 1) : flatN (allS m) = 0 := by
  match m, h with
  | [b], _ => rfl
structure AnyOk (m : List Bd) (n d : Int) : Prop where
  code : fitE m = 0
  thr : thrB (fitA m) (fitR m) (fitN m) (fitD m) m = true
  slope : slopeB (fitN m) (fitD m) = true
  flat : flatB n d (fitN m) (fitD m) = false
  lo : slopeB (sloS m).a (sloS m).b = true
  hi : slopeB (sloS m).c (sloS m).d = true
  ends : m.length = 1 ∨ (sloS m).a * d ≤ n * (sloS m).b ∧ n * (sloS m).d ≤ (sloS m).c * d
theorem any_told {m : List Bd} (hk : okD m = true) {a r n d : Int} (hd : 1 ≤ d) (hT : rayG a r n d m = true) : AnyOk m n d := by
  have hR := row_ok hk
  have hth := ray_thru hT
  have hn : firN m = m.length := by
    have h1 := thru_long (l := m) (p := m.length) hR hd (Nat.le_refl _) (by rw [List.take_length]; exact hth)
    have h2 := (firN_le (okD_ne hk)).2
    omega
  have hF := flat_all hk hn
  have T := told_of hk hn
  have e : fitE m = 0 := by simp [fitE, hk, hn]
  have e3 : fitN m = flatN (firS m) := by rw [fitN, if_pos e]
  have e4 : fitD m = flatE (firS m) := by rw [fitD, if_pos e]
  have eS : sloS m = lowS (firS m) := by rw [sloS, if_pos e]
  have eA : firS m = allS m := by rw [firS, hn, List.take_length]
  have hs := firS_ok hR
  have hIn : m.length = 1 ∨ InS (firS m) n d := by
    by_cases g : m.length = 1
    · exact .inl g
    · refine .inr ?_
      rw [eA]
      have hp := thru_pairs hth
      have hne := List.length_pos_iff.2 (okD_ne hk)
      exact (all_in hR hd).2 ⟨pairs_every hR (by omega) hd hp, hp⟩
  have h1 := ((slopeB_iff _ _).1 hs.lo).2.2.1
  have h2 := ((slopeB_iff _ _).1 hs.hi).2.2.1
  refine ⟨e, T.thr, ?_, ?_, ?_, ?_, ?_⟩
  · rw [e3, e4]; exact (flat_ok hs).1
  · rw [e3, e4]
    rcases hIn with g | g
    · have := one_flat g
      rw [eA]
      unfold flatB
      rw [this]
      rfl
    · obtain ⟨g1, g2⟩ := flat_least hs g
      unfold flatB
      rw [Bool.or_eq_false_iff, Bool.and_eq_false_iff, Bool.and_eq_false_iff]
      simp only [decide_eq_false_iff_not]
      refine ⟨?_, ?_⟩
      · by_cases k : 0 < flatN (firS m)
        · exact .inr (Int.not_lt.2 (g1 k))
        · exact .inl k
      · by_cases k : flatN (firS m) < 0
        · exact .inr (Int.not_lt.2 (g2 k))
        · exact .inl k
  · rw [eS]; exact low_bounds hs.lo
  · rw [eS]; exact low_bounds hs.hi
  · rcases hIn with g | g
    · exact .inl g
    · rw [eS]
      exact .inr ⟨(low_le h1).1.2 g.1, (low_le h2).2.2 g.2⟩
theorem slope_i64 {n d : Int} (h : slopeB n d = true) : I64 n ∧ I64 d := by
  have := (slopeB_iff _ _).1 h
  unfold I64
  omega
theorem mul_fits {x y : Int} (hx : I64 x) (hy : I64 y) : Fits (x * y) := by
  unfold I64 at *
  unfold Fits
  by_cases g : 0 ≤ y
  · have := mul_bound (x := x) (y := y) (X := 9223372036854775808) (Y := 9223372036854775808) (by omega) (by omega)
    omega
  · have := mul_bound (x := x) (y := -y) (X := 9223372036854775808) (Y := 9223372036854775808) (by omega) (by omega)
    rw [Int.mul_neg] at this
    omega
end Go.Proofs.Ytmdhgiaaofdjiaa.P10
