/-
  The law LineSlopes, for any two slopes. Conditions: the numbers are of 64 bits.
-/
import Derived.Test.YtldfkfienlcipaaSlopes
import Derived.Test.YtldfkfienlcipaaLowest
namespace Go.Proofs.Ytldfkfienlcipaa
open Go.RowKit

theorem slopes_any (a b c d : Int) (i1 : I64 a) (i2 : I64 b) (i3 : I64 c) (i4 : I64 d) (w : World) : Calls Try.prog 4 #[slV a b, slV c d] w (Ret w (.bool true)) := by
  have Q := cmpI_cases (a * d) (c * b)
  have main : ∀ c0 c1 F, NearI a b c d c0 c1 F → Calls Try.prog 4 #[slV a b, slV c d] w (Ret w (.bool true)) := by
    intro c0 c1 F HN
    have two : slopeB a b = true → slopeB c d = true → slopesB a b c d = true ∧ cpI a b c d = cmpI (a * d) (c * b) := by
      intro h1 h2
      have : slopesB a b c d = true := by unfold slopesB; rw [h1, h2]; rfl
      exact ⟨this, by unfold cpI; rw [if_pos this]⟩
    have no : slopesB a b c d = false → cpI a b c d = 0 ∧ c0 = 0 ∧ c1 = 0 ∧ F = 151 := by
      intro h
      rcases HN with ⟨_, g1, g2, g3⟩ | ⟨g, _⟩
      · exact ⟨by unfold cpI; rw [if_neg (by simp [h])], g1, g2, g3⟩
      · rw [h] at g; cases g
    refine slopes_walk a b c d (loN a b) (loD a b) (loE a b) (cpI a b c d) c0 c1 F (slopesB a b c d) (slopeB a b) (slopeB c d) (decide (a * d < c * b)) (decide (c * b < a * d)) w (fun W => low_any a b W) (fun W => cmp_any a b c d W) (fun W => near_any a b c d c0 c1 F HN W)
      (fun W => refSlope_any a b W) (fun W => refSlope_any c d W) ?_ (fun W => refLess_any a b c d i1 i2 i3 i4 W) (fun W => refLess_any c d a b i3 i4 i1 i2 W) ?_ ?_
    · intro h W
      have := refLowest_any a b h W
      rw [show loN a b = lowN a b by unfold loN; rw [if_pos h], show loD a b = lowD a b by unfold loD; rw [if_pos h]]
      exact this
    · intro h1 h2 hg W
      obtain ⟨t1, t2⟩ := two h1 h2
      have hg2 : ¬ c * b < a * d := by simpa using hg
      have hq : cpI a b c d ≤ 0 := by
        rw [t2]
        rcases Q with ⟨_, g, _⟩ | ⟨_, g, _⟩ | ⟨g, _⟩
        · omega
        · omega
        · exact absurd g hg2
      refine refNearest_any a b c d c0 c1 h1 h2 ?_ W
      rcases HN with ⟨g, _⟩ | ⟨_, ⟨g, _⟩ | ⟨_, ⟨k1, k2, k3, _⟩ | ⟨k1, k2, k3, k4, _⟩ | ⟨k1, k2, k3, k4, _⟩⟩⟩
      · rw [t1] at g; cases g
      · omega
      · exact Or.inl ⟨k1, k2, k3⟩
      · exact Or.inr (Or.inl ⟨k1, k2, k3, k4⟩)
      · exact Or.inr (Or.inr ⟨k1, k2, k3, k4⟩)
    · by_cases h1 : slopeB a b = true
      · have e1 : loE a b = 0 := by unfold loE; rw [if_pos h1]
        by_cases h2 : slopeB c d = true
        · obtain ⟨t1, t2⟩ := two h1 h2
          refine Or.inr (Or.inr ⟨h1, h2, e1, t1, ?_⟩)
          rcases HN with ⟨g, _⟩ | ⟨_, ⟨k0, k1, k2, k3⟩ | ⟨k0, k⟩⟩
          · rw [t1] at g; cases g
          · rcases Q with ⟨_, g, _⟩ | ⟨_, g, _⟩ | ⟨g0, g, _⟩
            · omega
            · omega
            · exact Or.inl ⟨by simp; omega, by simpa using g0, by rw [t2, g], k1, k2, k3⟩
          · have hF : F = 0 := by
              rcases k with ⟨_, _, _, g⟩ | ⟨_, _, _, _, g⟩ | ⟨_, _, _, _, g⟩ <;> exact g
            rcases Q with ⟨g0, g, _⟩ | ⟨g0, g, _⟩ | ⟨g0, g, _⟩
            · exact Or.inr (Or.inr ⟨by simp; omega, by simp; omega, by rw [t2, g], hF⟩)
            · exact Or.inr (Or.inl ⟨by simpa using g0, by simp; omega, by rw [t2, g], hF⟩)
            · omega
        · have h3 : slopeB c d = false := by simpa using h2
          have h4 : slopesB a b c d = false := by unfold slopesB; rw [h1, h3]; rfl
          obtain ⟨g1, g2, g3, g4⟩ := no h4
          exact Or.inr (Or.inl ⟨h1, h3, e1, g1, h4, g2, g3, g4⟩)
      · have h3 : slopeB a b = false := by simpa using h1
        have h4 : slopesB a b c d = false := by unfold slopesB; rw [h3]; rfl
        obtain ⟨g1, g2, g3, g4⟩ := no h4
        exact Or.inl ⟨h3, by unfold loN; rw [if_neg h1], by unfold loD; rw [if_neg h1], by unfold loE; rw [if_neg h1], g1, h4, g2, g3, g4⟩
  by_cases hs : slopesB a b c d = true
  · by_cases hp : 0 < cpI a b c d
    · exact main 0 0 2 (Or.inr ⟨hs, Or.inl ⟨hp, rfl, rfl, rfl⟩⟩)
    · by_cases ha : 0 < a
      · exact main _ _ _ (Or.inr ⟨hs, Or.inr ⟨by omega, Or.inl ⟨ha, rfl, rfl, rfl⟩⟩⟩)
      · by_cases hc : c < 0
        · exact main _ _ _ (Or.inr ⟨hs, Or.inr ⟨by omega, Or.inr (Or.inl ⟨by omega, hc, rfl, rfl, rfl⟩)⟩⟩)
        · exact main _ _ _ (Or.inr ⟨hs, Or.inr ⟨by omega, Or.inr (Or.inr ⟨by omega, by omega, rfl, rfl, rfl⟩)⟩⟩)
  · exact main 0 0 151 (Or.inl ⟨by simpa using hs, rfl, rfl, rfl⟩)
end Go.Proofs.Ytldfkfienlcipaa
