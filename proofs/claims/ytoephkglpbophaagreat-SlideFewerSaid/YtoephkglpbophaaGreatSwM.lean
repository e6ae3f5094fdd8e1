/-
  Layer 9: swing: Lines. Conditions: those written at each fact.
-/
import Derived.Test.YtoephkglpbophaaGreatSwL
namespace Go.Proofs.YtoephkglpbophaaGreat.P9
open Go.RowKit Go.Shelf Go.Proofs.YtoephkglpbophaaGreat.P8

/-- A row of what is told of parts, of the call's own; what is left behind. -/
def RowX (B : Nat) (l : List (List Bd × Dr)) (v : Value) (W : World) : Prop := W.ownsRow B 37 4 v l.length (flatX l)
def EndX (w : World) (l : List (List Bd × Dr)) (code : Int) (e : Ending) (w' : World) : Prop := Below w.heap.size w w' ∧ ∃ A n c, e = .returned (.tuple #[.slice A n c, .int .i64 code]) ∧ RowX w.heap.size l (.slice A n c) w'
theorem EndX.less {w W w' : World} {l : List (List Bd × Dr)} {code : Int} {e : Ending} (h : EndX W l code e w') (hb : Below w.heap.size w W) : EndX w l code e w' := by
  obtain ⟨h1, A, n, c, h2, h3⟩ := h
  exact ⟨under hb h1, A, n, c, h2, owns_less h3 hb.size⟩
end Go.Proofs.YtoephkglpbophaaGreat.P9
