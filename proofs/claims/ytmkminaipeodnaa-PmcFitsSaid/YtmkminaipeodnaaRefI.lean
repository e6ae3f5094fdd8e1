/-
  The document's own answers, ninth part: nothing less a number; is one number less than another one? Conditions: those written at each fact.
-/
import Derived.Test.YtmkminaipeodnaaRefH
namespace Go.Proofs.Ytmkminaipeodnaa
open Go.RowKit

/-- A row isn't touched by a store into a block that holds a bool and a slice. -/
theorem Num.set {W : World} {v : Value} {x : Nat} (h : Num W v x) {B : Nat} {b : Bool} {A : Option Addr} {n c : Nat} {t : TypeId} (hB : W.heap[B]? = some (.cells #[.bool b, .slice A n c] t (0, 0))) (u0 u1 : Value) :
    Num ((W.setCell ⟨B, 0, none⟩ u0).setCell ⟨B, 1, none⟩ u1) v x := by
  obtain ⟨A', c', e, hc, hk⟩ := h
  refine ⟨A', c', e, hc, fun k hl => ?_⟩
  obtain ⟨b', off, e1, e2, e3⟩ := hk k hl
  have hne : b' ≠ B := by
    intro eb
    subst eb
    have hx : (#[Value.bool b, Value.slice A n c] : Array Value)[off + k]? = some (.int .i64 (bitI x k)) := by
      rw [← e3]
      simp [World.cell?, hB]
    match hm : off + k with
    | 0 => rw [hm] at hx; simp at hx
    | 1 => rw [hm] at hx; simp at hx
    | j + 2 => rw [hm] at hx; simp at hx
  refine ⟨b', off, e1, by simpa [World.setCell] using e2, ?_⟩
  have h1 := Below.heap_setCell (W.setCell ⟨B, 0, none⟩ u0) ⟨B, 1, none⟩ u1 b' hne
  have h2 := Below.heap_setCell W ⟨B, 0, none⟩ u0 b' hne
  exact (World.cell?_of_block (w := W) (h1.trans h2)).trans e3

end Go.Proofs.Ytmkminaipeodnaa
