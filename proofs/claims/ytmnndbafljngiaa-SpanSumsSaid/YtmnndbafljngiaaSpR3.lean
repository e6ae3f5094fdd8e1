/-
  What the rows of this seat share: a slice of spans that is handed in has room for what it holds. Conditions: none beyond those written at each fact.
-/
import Derived.Test.YtmnndbafljngiaaSpR
namespace Go.Proofs.Ytmnndbafljngiaa
open Go.ChangeShapes Go.WideShapes Go.ChangeAt Go.RowKit Go.Joins Go.Deep

set_option maxRecDepth 100000 in
theorem open_room {H : Type} {enc : TypeId × Value → H} {w : World} {r : Reach} {b0 : Nat} {v : Value} {d : DataW H} {p : List MemPlace}
    (hv : Value.okWide Try.prog w r b0 45 v) (h : DataW.Trod enc Try.prog w 0 (fun _ => true) true 45 v d p) : ∀ A n c, v = .slice A n c → n ≤ c := by
  obtain ⟨a0, len, cap, rfl⟩ := okWide_slice Try.underlying45 hv
  obtain ⟨fuel, hf⟩ := h
  intro A n c e
  injection e with e1 e2 e3
  subst e2 e3
  rcases open_slice_pairs Try.underlying45 Try.underlying23 cellsSpan rfl rfl (by kernel_rfl) (by kernel_rfl) hf with ⟨hcs, _⟩ | ⟨a, len', cap', m, n, V0, V1, D0, D1, P0, P1, hcs, _, hl, _⟩
  · simp [Value.cells] at hcs
    omega
  · simp [Value.cells] at hcs
    omega
end Go.Proofs.Ytmnndbafljngiaa
