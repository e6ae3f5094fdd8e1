/-
  Layer 9: the law's own, and its wakes. Conditions: those written at each fact.
-/
import Derived.Test.YtoephkglpbophaaGreatSwM
namespace Go.Proofs.YtoephkglpbophaaGreat.P9
open Go.RowKit Go.Shelf Go.Proofs.YtoephkglpbophaaGreat.P8

end Go.Proofs.YtoephkglpbophaaGreat.P9
