/-
  The document's own answers, eighth part: a number of a sign and a size; a number of 64 bits. Conditions: those written at each fact.
-/
import Derived.Test.YtmkminaipeodnaaRefG
namespace Go.Proofs.Ytmkminaipeodnaa
open Go.RowKit

/-- A whole number as its sign and its row. -/
def NumZ (w : World) (v : Value) (z : Int) : Prop := ∃ s, v = .agg #[.bool (decide (z < 0)), s] ∧ Num w s z.natAbs
def GaveZ (w : World) (z : Int) (e : Ending) (w' : World) : Prop := ∃ v, e = .returned v ∧ Below w.heap.size w w' ∧ NumZ w' v z
theorem NumZ.below {w w' : World} {v : Value} {z : Int} (h : NumZ w v z) (hb : Below w.heap.size w w') : NumZ w' v z := by
  obtain ⟨s, e, k⟩ := h
  exact ⟨s, e, k.below hb⟩
theorem size_none {x : Nat} : 0 < (sizeL x).length ↔ x ≠ 0 := by
  rw [bit_lt 0 x]; simp

set_option maxRecDepth 100000 in
theorem made_walk (b : Bool) (A : Option Addr) (n c : Nat) (w : World) : Calls Try.prog 54 #[.bool b, .slice A n c] w (Ret w (.agg #[.bool (b && decide (0 < n)), .slice A n c])) := by
  cases b
  · go_enter Try.func54, Try.ntmps54
    go_wp2
    go_returns
    exact ⟨rfl, by go_grown⟩
  · by_cases g : 0 < n
    · have g1 : (0 : Int) < (n : Int) := by omega
      have e : (true && decide (0 < n)) = true := by simp [g]
      rw [e]
      clear e
      go_enter Try.func54, Try.ntmps54
      go_wp2
      go_returns
      exact ⟨rfl, by go_grown⟩
    · have g1 : ¬ (0 : Int) < (n : Int) := by omega
      have e : (true && decide (0 < n)) = false := by simp [g]
      rw [e]
      clear e
      go_enter Try.func54, Try.ntmps54
      go_wp2
      go_returns
      exact ⟨rfl, by go_grown⟩
/-- A sign and a size make a number. -/
theorem made_any (z : Int) (b : Bool) (hb : (b && decide (z.natAbs ≠ 0)) = decide (z < 0)) (v : Value) (w : World) (h : Num w v z.natAbs) : Calls Try.prog 54 #[.bool b, v] w (GaveZ w z) := by
  have h' := h
  obtain ⟨A, c, rfl, hc, hk⟩ := h'
  refine (made_walk b A _ c w).mono ?_
  rintro e w' ⟨rfl, hbl⟩
  refine ⟨_, rfl, hbl, _, ?_, h.below hbl⟩
  rw [← hb, decide_eq_decide.2 (size_none (x := z.natAbs))]
end Go.Proofs.Ytmkminaipeodnaa
