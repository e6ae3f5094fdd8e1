/-
  The law LineLowest, for any slopes. Conditions: none.
-/
import Derived.Test.YtldfkfienlcipaaLowest
namespace Go.Proofs.Ytldfkfienlcipaa
open Go.RowKit

theorem lowestLaw_any (a b c d m e : Int) (w : World) : Calls Try.prog 10 #[slV a b, slV c d, slV m e] w (Ret w (.bool true)) := by
  have cE : ∀ n d : Int, loE n d = 0 ∧ slopeB n d = true ∨ loE n d = 151 ∧ slopeB n d = false := by
    intro n d
    unfold loE
    cases slopeB n d
    · exact Or.inr ⟨rfl, rfl⟩
    · exact Or.inl ⟨rfl, rfl⟩
  have okE : ∀ n d : Int, loE n d = 0 → slopeB n d = true := by
    intro n d h
    rcases cE n d with ⟨_, g⟩ | ⟨g, _⟩
    · exact g
    · omega
  have cP : ∀ n d m e : Int, slopeB n d = true → slopeB m e = true → slopesB n d m e = true ∧ cpI n d m e = cmpI (n * e) (m * d) := by
    intro n d m e h1 h2
    have : slopesB n d m e = true := by unfold slopesB; rw [h1, h2]; rfl
    exact ⟨this, by unfold cpI; rw [if_pos this]⟩
  have cL : ∀ n d : Int, slopeB n d = true → loN n d = lowN n d ∧ loD n d = lowD n d := by
    intro n d h
    unfold loN loD
    rw [if_pos h, if_pos h]
    exact ⟨rfl, rfl⟩
  have sp : ∀ n d : Int, slopeB n d = true → 1 ≤ d := fun n d h => ((slopeB_iff _ _).1 h).2.2.1
  by_cases hB : slopeB a b = true ∧ slopeB c d = true
  · obtain ⟨h1, h2⟩ := hB
    have is : slopesB c d m e = slopeB m e ∧ slopesB a b m e = slopeB m e := by unfold slopesB; rw [h1, h2]; simp
    have Q := cmpI_cases (a * d) (c * b)
    have S := low_same h1 h2
    refine lowest_walk a b c d m e (lowN a b) (lowD a b) (lowN c d) (lowD c d) 0 0 (cmpI (a * d) (c * b)) (cpI c d m e) (cpI a b m e) (slopeB m e) w ?_ ?_ (Or.inl rfl) (Or.inl rfl) ?_ ?_ ?_ ?_ ?_ ?_ ?_ ?_
    · intro W
      have := low_any a b W
      rw [(cL a b h1).1, (cL a b h1).2] at this
      rwa [show loE a b = 0 by rcases cE a b with ⟨g, _⟩ | ⟨_, g⟩; exact g; rw [h1] at g; cases g] at this
    · intro W
      have := low_any c d W
      rw [(cL c d h2).1, (cL c d h2).2] at this
      rwa [show loE c d = 0 by rcases cE c d with ⟨g, _⟩ | ⟨_, g⟩; exact g; rw [h2] at g; cases g] at this
    · intro _ _ W
      have := cmp_any a b c d W
      rwa [(cP a b c d h1 h2).1, (cP a b c d h1 h2).2] at this
    · intro _ _ W
      have := cmp_any c d a b W
      rw [(cP c d a b h2 h1).1, (cP c d a b h2 h1).2] at this
      rw [show -cmpI (a * d) (c * b) = cmpI (c * b) (a * d) by rcases Q with ⟨_, g1, g2⟩ | ⟨_, g1, g2⟩ | ⟨_, g1, g2⟩ <;> rw [g1, g2] <;> rfl]
      exact this
    · intro _ _ W
      have hl := low_bounds h1
      have := cmp_any a b (lowN a b) (lowD a b) W
      rw [(cP _ _ _ _ h1 hl).1, (cP _ _ _ _ h1 hl).2] at this
      have e0 : a * lowD a b = lowN a b * b := (low_same h1 hl).2 ⟨(low_again h1).1.symm, (low_again h1).2.symm⟩
      rw [e0, show cmpI (lowN a b * b) (lowN a b * b) = 0 by unfold cmpI; rw [if_pos rfl]] at this
      exact this
    · intro _ _ W
      have hl := low_bounds h1
      have := low_any (lowN a b) (lowD a b) W
      rw [(cL _ _ hl).1, (cL _ _ hl).2, (low_again h1).1, (low_again h1).2] at this
      rwa [show loE (lowN a b) (lowD a b) = 0 by rcases cE (lowN a b) (lowD a b) with ⟨g, _⟩ | ⟨_, g⟩; exact g; rw [hl] at g; cases g] at this
    · intro _ _ W
      have := cmp_any c d m e W
      rwa [is.1] at this
    · intro _ _ W
      have := cmp_any a b m e W
      rwa [is.2] at this
    · intro _ _
      by_cases g0 : lowN a b = lowN c d
      · by_cases g1 : lowD a b = lowD c d
        · have := S.2 ⟨g0, g1⟩
          exact Or.inl ⟨by unfold cmpI; rw [if_pos this], g0, g1⟩
        · have ne : ¬ a * d = c * b := fun h => g1 (S.1 h).2
          rcases Q with ⟨g, _⟩ | ⟨_, g, _⟩ | ⟨_, g, _⟩
          · exact absurd g ne
          · exact Or.inr (Or.inr (Or.inr (Or.inr ⟨g, g0, g1⟩)))
          · exact Or.inr (Or.inr (Or.inl ⟨g, g0, g1⟩))
      · have ne : ¬ a * d = c * b := fun h => g0 (S.1 h).1
        rcases Q with ⟨g, _⟩ | ⟨_, g, _⟩ | ⟨_, g, _⟩
        · exact absurd g ne
        · exact Or.inr (Or.inr (Or.inr (Or.inl ⟨g, g0⟩)))
        · exact Or.inr (Or.inl ⟨g, g0⟩)
    · intro _ _ h3
      rw [(cP c d m e h2 h3).2, (cP a b m e h1 h3).2]
      have P := cmpI_cases (c * e) (m * d)
      have R := cmpI_cases (a * e) (m * b)
      have o1 : a * d ≤ c * b → c * e ≤ m * d → a * e ≤ m * b := order_on (sp _ _ h1) (sp _ _ h2) (sp _ _ h3)
      have o2 : c * b ≤ a * d → m * d ≤ c * e → m * b ≤ a * e := fun g1 g2 => order_on (sp _ _ h3) (sp _ _ h2) (sp _ _ h1) g2 g1
      generalize a * d = u at *
      generalize c * b = v at *
      generalize c * e = x at *
      generalize m * d = y at *
      generalize a * e = z at *
      generalize m * b = t at *
      omega
  · have hE : ¬ (loE a b = 0 ∧ loE c d = 0) := fun h => hB ⟨okE _ _ h.1, okE _ _ h.2⟩
    have D : ∀ n d, loE n d = 0 ∨ loE n d = 151 := by
      intro n d
      rcases cE n d with ⟨g, _⟩ | ⟨g, _⟩
      · exact Or.inl g
      · exact Or.inr g
    exact lowest_walk a b c d m e _ _ _ _ _ _ 0 0 0 true w (fun W => low_any a b W) (fun W => low_any c d W) (D _ _) (D _ _) (fun h g => absurd ⟨h, g⟩ hE) (fun h g => absurd ⟨h, g⟩ hE)
      (fun h g => absurd ⟨h, g⟩ hE) (fun h g => absurd ⟨h, g⟩ hE) (fun h g => absurd ⟨h, g⟩ hE) (fun h g => absurd ⟨h, g⟩ hE) (fun h g => absurd ⟨h, g⟩ hE) (fun h g => absurd ⟨h, g⟩ hE)
end Go.Proofs.Ytldfkfienlcipaa
