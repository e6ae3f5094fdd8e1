/-
  Layer 9: how long a row of the call's own is, as a slice. Conditions: those written at each fact.
-/
import Derived.Test.YtoephkglpbophaaGreatSwQ
namespace Go.Proofs.YtoephkglpbophaaGreat.P9
open Go.RowKit Go.Shelf Go.Proofs.YtoephkglpbophaaGreat.P8

theorem row_len {w : World} {B : Nat} {e : TypeId} {s n k c : Nat} {A : Option Addr} {xs : List Value} (h : w.ownsRow B e s (.slice A n c) k xs) : n = k := by
  rcases h.2 with ⟨e1, h0⟩ | ⟨g, cap, cur, e1, _⟩
  · cases e1
    omega
  · cases e1
    rfl
theorem EndI.open {w w' : World} {l : List (List Bd × Dr)} {code : Int} {e : Ending} (h : EndI w l code e w') : Below w.heap.size w w' ∧ ∃ A c, e = .returned (.tuple #[.slice A l.length c, .int .i64 code]) ∧ RowI w.heap.size l (.slice A l.length c) w' := by
  obtain ⟨h1, A, n, c, h2, h3⟩ := h
  have := row_len h3
  subst this
  exact ⟨h1, A, c, h2, h3⟩
theorem EndX.open {w w' : World} {l : List (List Bd × Dr)} {code : Int} {e : Ending} (h : EndX w l code e w') : Below w.heap.size w w' ∧ ∃ A c, e = .returned (.tuple #[.slice A l.length c, .int .i64 code]) ∧ RowX w.heap.size l (.slice A l.length c) w' := by
  obtain ⟨h1, A, n, c, h2, h3⟩ := h
  have := row_len h3
  subst this
  exact ⟨h1, A, c, h2, h3⟩
end Go.Proofs.YtoephkglpbophaaGreat.P9
