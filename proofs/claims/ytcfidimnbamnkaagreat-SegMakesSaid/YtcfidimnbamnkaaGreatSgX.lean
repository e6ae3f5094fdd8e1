/-
 Layer 11: slices of points that are read; a block of five cells in a region. Conditions: those written at each fact.
-/
import Derived.Test.YtcfidimnbamnkaaGreatSgW
import Derived.Test.YtcfidimnbamnkaaGreatKitT
namespace Go.Proofs.YtcfidimnbamnkaaGreat.P11
open Go.RowKit Go.Shelf Go.Proofs.YtcfidimnbamnkaaGreat.P7

def ReadsP (w : World) (v : Value) (l : List (Int × Int)) : Prop :=
 ∃ A c, v = .slice A l.length c ∧ l.length ≤ c ∧ ∀ i p, l[i]? = some p → ∃ b off, A = some ⟨b, off, none⟩ ∧ b < w.heap.size ∧ w.cell? ⟨b, off + i * 2, none⟩ = some (.int .i64 p.1) ∧ w.cell? ⟨b, off + i * 2 + 1, none⟩ = some (.int .i64 p.2)
theorem ReadsP.below {w w' : World} {v : Value} {l : List (Int × Int)} (h : ReadsP w v l) (hb : Below w.heap.size w w') : ReadsP w' v l := by
 obtain ⟨A, c, e, hc, hk⟩ := h
 refine ⟨A, c, e, hc, fun i s hi => ?_⟩
 obtain ⟨b, off, e1, e2, e3, e4⟩ := hk i s hi
 exact ⟨b, off, e1, Nat.lt_of_lt_of_le e2 hb.size, (hb.cell (by exact e2)).trans e3, (hb.cell (by exact e2)).trans e4⟩
end Go.Proofs.YtcfidimnbamnkaaGreat.P11
