/-
  Layer 9: swing: Through. Conditions: those written at each fact.
-/
import Derived.Test.YtoephkglpbophaaGreatSwI
namespace Go.Proofs.YtoephkglpbophaaGreat.P9
open Go.RowKit Go.Shelf Go.Proofs.YtoephkglpbophaaGreat.P8

/-- Does a line go through bands, whose first time is t0? -/
def goesB (a r n d t0 : Int) (l : List Bd) : Bool := l.all fun b => wnB a r n d (b.t - t0) b.lo b.hi
def headT : List Bd → Int
  | [] => 0
  | b :: _ => b.t
def thrB (a r n d : Int) (l : List Bd) : Bool := okD l && goesB a r n d (headT l) l
end Go.Proofs.YtoephkglpbophaaGreat.P9
