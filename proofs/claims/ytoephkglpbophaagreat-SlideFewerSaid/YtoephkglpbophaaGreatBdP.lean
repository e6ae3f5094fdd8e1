/-
  Layer 8: slices of pairs. Conditions: none.
-/
import Derived.Test.YtoephkglpbophaaGreatBA
namespace Go.Proofs.YtoephkglpbophaaGreat.P8
open Go.RowKit

/-- The slice v reads as these pairs. -/
def ReadsP (w : World) (v : Value) (l : List (Int × Int)) : Prop :=
  ∃ A c, v = .slice A l.length c ∧ l.length ≤ c ∧ ∀ i r, l[i]? = some r → ∃ b off, A = some ⟨b, off, none⟩ ∧ b < w.heap.size ∧ w.cell? ⟨b, off + i * 2, none⟩ = some (.int .i64 r.1) ∧ w.cell? ⟨b, off + i * 2 + 1, none⟩ = some (.int .i64 r.2)
theorem ReadsP.below {w w' : World} {v : Value} {l : List (Int × Int)} (h : ReadsP w v l) (hb : Below w.heap.size w w') : ReadsP w' v l := by
  obtain ⟨A, c, e, hc, hk⟩ := h
  refine ⟨A, c, e, hc, fun i s hi => ?_⟩
  obtain ⟨b, off, e1, e2, e3, e4⟩ := hk i s hi
  exact ⟨b, off, e1, Nat.lt_of_lt_of_le e2 hb.size, (hb.cell (by exact e2)).trans e3, (hb.cell (by exact e2)).trans e4⟩
end Go.Proofs.YtoephkglpbophaaGreat.P8
