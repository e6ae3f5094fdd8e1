/-
  Layer 5: wakes, and what At tells, in plain words. Conditions: none.
-/
import Derived.Test.YtjioljgojfcckaaGreatLC
namespace Go.Proofs.YtjioljgojfcckaaGreat
open Go.RowKit

end Go.Proofs.YtjioljgojfcckaaGreat
