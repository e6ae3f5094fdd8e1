/-
  The document's own answers for layer 5: a line's value, and whether its exact one is in a span. Conditions: the numbers are of 64 bits.
-/
import Derived.Test.YtjioljgojfcckaaGreatLdB
namespace Go.Proofs.YtjioljgojfcckaaGreat
open Go.RowKit

end Go.Proofs.YtjioljgojfcckaaGreat
