/-
  The document's own answers: a number of two words. Conditions: the words are of 64 bits.
-/
import Derived.Test.YtmdhgiaaofdjiaaGreatRB
namespace Go.Proofs.YtmdhgiaaofdjiaaGreat
open Go.RowKit

end Go.Proofs.YtmdhgiaaofdjiaaGreat
