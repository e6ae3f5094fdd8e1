/-
  Layer 3: Order. Conditions: words are of 64 bits.
-/
import Derived.Test.YtinppckjolkhpaaFixC
namespace Go.Proofs.Ytinppckjolkhpaa
open Go.RowKit Go.Shelf

def ordB (a b : Nat) : Bool := !(nanF a || nanF b)
def ordN (a b : Nat) : Int := if nanF a || nanF b then 0 else if exact a < exact b then -1 else if exact b < exact a then 1 else 0
end Go.Proofs.Ytinppckjolkhpaa
