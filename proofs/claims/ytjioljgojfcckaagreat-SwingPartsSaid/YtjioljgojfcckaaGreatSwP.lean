/-
  Layer 9: swing: what lies in a door; facts of numbers alone. Conditions: those written at each fact.
-/
import Derived.Test.YtjioljgojfcckaaGreatSwO
namespace Go.Proofs.YtjioljgojfcckaaGreat.P9
open Go.RowKit Go.Shelf Go.Proofs.YtjioljgojfcckaaGreat.P8

theorem DrOk.pos {x : Dr} (h : DrOk x) : 0 < x.b ∧ 0 < x.d := by
  have h1 := (slopeB_iff _ _).1 h.lo
  have h2 := (slopeB_iff _ _).1 h.hi
  omega
end Go.Proofs.YtjioljgojfcckaaGreat.P9
