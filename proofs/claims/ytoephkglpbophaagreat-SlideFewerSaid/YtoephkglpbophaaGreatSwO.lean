/-
  Layer 9: the law's wakes. Conditions: none.
-/
import Derived.Test.YtoephkglpbophaaGreatSwN
namespace Go.Proofs.YtoephkglpbophaaGreat.P9
open Go.RowKit Go.Shelf Go.Proofs.YtoephkglpbophaaGreat.P8

def w4 : List Bd := [⟨0, 0, 0⟩, ⟨1, 2, 2⟩, ⟨2, 3, 3⟩, ⟨3, 4, 4⟩]
def w2 : List Bd := [⟨0, 0, 0⟩, ⟨1, 2, 2⟩]
end Go.Proofs.YtoephkglpbophaaGreat.P9
