/-
  Layer 8: what is left of bands, behind some of them; what is told of parts. Conditions: those written at each fact.
-/
import Derived.Test.YtmkminaipeodnaaMaC
namespace Go.Proofs.Ytmkminaipeodnaa.P8
open Go.RowKit Go.Shelf

/-- What is left of a slice of bands, behind X of them: nothing, or the others. -/
theorem ReadsD.rest {w : World} {A : Option Addr} {n c : Nat} {m : List Bd} {k X : Nat} (h : ReadsD w (.slice A n c) (m.drop k)) (hn : n = m.length - k) (hX : X ≤ n) (h1 : 1 ≤ X) :
    ∃ bb off, A = some ⟨bb, off, none⟩ ∧ ReadsD w (.slice (some ⟨bb, off + X * 3, none⟩) (n - X) (c - X)) (m.drop (k + X)) ∧ (c = X → ReadsD w (.slice (some ⟨bb, off, none⟩) (n - X) 0) (m.drop (k + X))) := by
  have hne : m.drop k ≠ [] := by
    intro e
    have := congrArg List.length e
    rw [List.length_drop] at this
    simp at this
    omega
  obtain ⟨A', c', e, hc, hk⟩ := id h
  cases e
  obtain ⟨bb, off, e⟩ := readsD_some h hne
  subst e
  refine ⟨bb, off, rfl, ?_, fun hcx => ?_⟩
  · have := h.back X (by rw [List.length_drop]; omega)
    rwa [List.drop_drop] at this
  · have e0 : m.drop (k + X) = [] := List.drop_eq_nil_of_le (by rw [List.length_drop] at hc; omega)
    rw [e0]
    exact ⟨_, _, by rw [List.length_nil, show (m.drop k).length - X = 0 by rw [List.length_drop] at hc ⊢; omega], Nat.zero_le _, fun i r hi => by simp at hi⟩
theorem places {m : List Bd} {k X n : Nat} (hn : n = m.length - k) (hX : X ≤ n) (hk : k ≤ m.length) : n - X = m.length - (k + X) ∧ k + X ≤ m.length := ⟨by omega, by omega⟩
theorem cutN_none {l : List Bd} (h : cutN l = []) : l = [] := by
  cases l with
  | nil => rfl
  | cons b l => rw [cutN_next (by simp)] at h; cases h
/-- What is told of bands, through all of which a constant goes. -/
theorem told_all {l : List Bd} (hk : okD l = true) {v : Int} (h : Thru l v) : codeC l = 0 ∧ thruB l (fitD l) = true := by
  have hne := okD_ne hk
  have h1 : ¬ (firstD l).n < l.length := by
    have := first_long (l := l) (p := l.length) (Nat.le_refl _) (by rwa [List.take_length])
    omega
  have hc : codeC l = 0 := by simp [codeC, hk, h1]
  obtain ⟨_, h2, _⟩ := first_le (okD_facts hk).2.2 hne
  refine ⟨hc, (thruB_iff _ _).2 ((all_thru hne h1 _).1 ?_)⟩
  unfold fitD comLo comHi
  rw [if_pos hc, if_pos hc, if_pos hc]
  omega
/-- .. and of others. -/
theorem told_none {l : List Bd} (hk : okD l = true) (h : ∀ v, ¬ Thru l v) : codeC l = 181 ∧ fitD l = 0 := by
  have hne := okD_ne hk
  have h1 : (firstD l).n < l.length := by
    by_cases g : (firstD l).n < l.length
    · exact g
    · obtain ⟨_, h2, _⟩ := first_le (okD_facts hk).2.2 hne
      exact absurd ((all_thru hne g (firstD l).lo).1 ⟨Int.le_refl _, h2⟩) (h _)
  have hc : codeC l = 181 := by simp [codeC, hk, h1]
  exact ⟨hc, by simp [fitD, hc]⟩
/-- What holds of the first part. -/
theorem part_told {r : List Bd} (hk : okD r = true) {N : Nat} (hN : N = (firstD r).n) :
    1 ≤ N ∧ N ≤ r.length ∧ okD (r.take N) = true ∧ codeC (r.take N) = 0 ∧ thruB (r.take N) (fitD (r.take N)) = true ∧ lenD r = (N : Int) ∧ (N < r.length → okD (r.take (N + 1)) = true ∧ codeC (r.take (N + 1)) = 181) := by
  subst hN
  have hne := okD_ne hk
  obtain ⟨h1, h2⟩ := first_n hne
  obtain ⟨_, h3, _⟩ := first_le (okD_facts hk).2.2 hne
  have h4 := okD_take hk h1
  obtain ⟨h5, h6⟩ := told_all h4 ((first_thru hne (firstD r).lo).1 ⟨Int.le_refl _, h3⟩)
  refine ⟨h1, h2, h4, h5, h6, by simp [lenD, hk], fun h7 => ?_⟩
  have h8 := okD_take hk (k := (firstD r).n + 1) (by omega)
  exact ⟨h8, (told_none h8 (fun v => first_max h7 v)).1⟩
end Go.Proofs.Ytmkminaipeodnaa.P8
