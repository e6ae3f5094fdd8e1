/-
  Layer 5: wakes, and what At tells, in plain words. Conditions: none.
-/
import Derived.Test.YtmdhgiaaofdjiaaGreatLC
namespace Go.Proofs.YtmdhgiaaofdjiaaGreat
open Go.RowKit

end Go.Proofs.YtmdhgiaaofdjiaaGreat
