/-
  Layer 5: slopes: Lowest, Compare, Nearest. Conditions: the numbers are of 64 bits.
-/
import Derived.Test.YtnacdofidmgfmaaLnE
namespace Go.Proofs.Ytnacdofidmgfmaa
open Go.RowKit

/-- What Lowest tells. -/
def loN (n d : Int) : Int := if slopeB n d then lowN n d else 0
def loD (n d : Int) : Int := if slopeB n d then lowD n d else 0
def loE (n d : Int) : Int := if slopeB n d then 0 else 151
/-- What Compare tells. -/
def slopesB (n d m e : Int) : Bool := slopeB n d && slopeB m e
def cpI (n d m e : Int) : Int := if slopesB n d m e then cmpI (n * e) (m * d) else 0
theorem bad_two (n d m e : Int) : badL [(n, d), (m, e)] = !slopesB n d m e := by
  unfold badL slopesB; simp [Bool.not_and]
theorem slope_i64 {n d : Int} (h : slopeB n d = true) : I64 n ∧ I64 d := by
  have := (slopeB_iff _ _).1 h
  unfold I64; omega
end Go.Proofs.Ytnacdofidmgfmaa
