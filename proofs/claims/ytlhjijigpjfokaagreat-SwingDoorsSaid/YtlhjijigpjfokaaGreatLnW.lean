/-
  Layer 5: wakes, and what At tells, in plain words. Conditions: none.
-/
import Derived.Test.YtlhjijigpjfokaaGreatLC
namespace Go.Proofs.YtlhjijigpjfokaaGreat
open Go.RowKit

theorem at_told (a r n d t : Int) : lineB a r n d = false ∧ tlQ a r n d t = 0 ∧ tlE a r n d t = 150 ∨ lineB a r n d = true ∧ timeB t = false ∧ tlQ a r n d t = 0 ∧ tlE a r n d t = 2 ∨
    lineB a r n d = true ∧ timeB t = true ∧ backB (exV a r n d t / d) = false ∧ tlQ a r n d t = 0 ∧ tlE a r n d t = 5 ∨
    lineB a r n d = true ∧ timeB t = true ∧ backB (exV a r n d t / d) = true ∧ tlQ a r n d t = exV a r n d t / d ∧ tlE a r n d t = 0 := by
  unfold tlQ tlE
  cases h : lineB a r n d
  · exact Or.inl ⟨rfl, by simp, by simp⟩
  · unfold atQ atE
    cases g : timeB t
    · exact Or.inr (Or.inl ⟨rfl, rfl, by simp, by simp⟩)
    · unfold ovQ ovE
      cases b : backB (exV a r n d t / d)
      · exact Or.inr (Or.inr (Or.inl ⟨rfl, rfl, rfl, by simp, by simp⟩))
      · exact Or.inr (Or.inr (Or.inr ⟨rfl, rfl, rfl, by simp, by simp⟩))
end Go.Proofs.YtlhjijigpjfokaaGreat
