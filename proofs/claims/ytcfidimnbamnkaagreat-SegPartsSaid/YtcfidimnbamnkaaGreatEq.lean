/-
 Layer 2: are two slices equal? Conditions: those written at each fact.
-/
import Derived.Test.YtcfidimnbamnkaaGreatRead
import Derived.Test.YtcfidimnbamnkaaGreatProg
import Derived.Deep.QuietTactic
import Derived.BigQuiet
import Derived.WalkSmall
namespace Go.Proofs.YtcfidimnbamnkaaGreat
open Go.RowKit

end Go.Proofs.YtcfidimnbamnkaaGreat
