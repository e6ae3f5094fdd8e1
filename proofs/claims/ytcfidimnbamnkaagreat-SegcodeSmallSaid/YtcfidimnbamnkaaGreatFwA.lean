/-
 Layer 12: slices.Clone of bytes, and the law's few. Conditions: those written at each fact.
-/
import Derived.Test.YtcfidimnbamnkaaGreatSQ
namespace Go.Proofs.YtcfidimnbamnkaaGreat.P12
open Go.RowKit Go.Shelf Go.Proofs.YtcfidimnbamnkaaGreat.P2 Go.Proofs.YtcfidimnbamnkaaGreat.P7 Go.Proofs.YtcfidimnbamnkaaGreat.P11

end Go.Proofs.YtcfidimnbamnkaaGreat.P12
