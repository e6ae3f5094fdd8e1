/-
  Layer 4: what the calls of package span that take no rows answer: Check, Point, Has, and the ends' own. Conditions: those written at each fact.
-/
import Derived.Test.YtnacdofidmgfmaaChecked
import Derived.Test.YtnacdofidmgfmaaKitX
import Derived.StillTactics
namespace Go.Proofs.Ytnacdofidmgfmaa
open Go.RowKit

/-- A span, or a pair of ends. -/
abbrev spV (lo hi : Int) : Value := .agg #[.int .i64 lo, .int .i64 hi]
end Go.Proofs.Ytnacdofidmgfmaa
