/-
  More of what package wide answers: differences. Conditions: the words of a number are of 64 bits.
-/
import Derived.Test.YtnacdofidmgfmaaWide
namespace Go.Proofs.Ytnacdofidmgfmaa
open Go.RowKit Go.Shelf

theorem below_is (hi lo : Int) (b : Bool) (h : decide (hi < 0) = b) (w : World) :
    Calls Try.prog 83 #[wideV hi lo] w (Ret w (.bool b)) := by
  subst h; exact below_any hi lo w
theorem ifRoomW_is (hi lo : Int) (b : Bool) (w : World) :
    Calls Try.prog 84 #[wideV hi lo, .bool b] w (Ret w (.tuple #[wideV (if b then hi else 0) (if b then lo else 0), .int .i64 (if b then 0 else 5)])) := by
  cases b
  · exact ifRoomW_no hi lo w
  · exact ifRoomW_yes hi lo w
end Go.Proofs.Ytnacdofidmgfmaa
