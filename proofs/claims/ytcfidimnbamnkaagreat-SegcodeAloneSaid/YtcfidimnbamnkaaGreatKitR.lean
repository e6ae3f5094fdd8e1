/-
 Tools for regions that lay blocks of two cells, store into them and call: cells carried on. Conditions: those written at each fact.
-/
import Derived.Test.YtcfidimnbamnkaaGreatStruct
namespace Go.Proofs.YtcfidimnbamnkaaGreat
open Go.RowKit

theorem Cells.undrew : ∀ {M : List (Nat × Nat × Value)} {W : World}, Cells M W.drew → Cells M W
 | [], _, _ => trivial
 | (_, _, _) :: _, _, ⟨⟨h1, h2, h3⟩, h4⟩ => ⟨⟨h1, h2, h3⟩, Cells.undrew h4⟩
end Go.Proofs.YtcfidimnbamnkaaGreat
