/-
  The document's own answers for layer 5: which lines may be, and their exact values, times D. Conditions: the numbers are of 64 bits.
-/
import Derived.Test.YtmdhgiaaofdjiaaGreatLC
import Derived.Test.YtmdhgiaaofdjiaaGreatLdA
import Derived.Test.YtmdhgiaaofdjiaaGreatRB
namespace Go.Proofs.YtmdhgiaaofdjiaaGreat
open Go.RowKit

end Go.Proofs.YtmdhgiaaofdjiaaGreat
