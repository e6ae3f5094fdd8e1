/-
 Tools for walks: the one operation that comes up next in a region that draws, in few words. Conditions: those written at each fact.
-/
import Derived.OrdersHeld
import Derived.Deep.RegionHeld
import Derived.Test.YtcfidimnbamnkaaGreatKitX
namespace Go.Proofs.YtcfidimnbamnkaaGreat
open Go.RowKit

/-- The one that is ready. -/
theorem tw {P : Program} {md : Region.Mode} {ops : Array Oper} {Q : Exit → Act → World → Prop} {S : World → Prop} {fuel : Nat} {listed : Array Bool} {a : Act} {w : World} (i : Nat) {o : Oper} (ho : ops[i]? = some o)
  (h : ∀ K' : Act → World → Prop, Shut (∀ a w, S w → (S w → wpAnyH P md ops Q S fuel (listed.setIfInBounds i true) a w) → K' a w) → if Region.wanted o (yielded ops a.tmps) = true then Oper.wp P o a w K' Q else K' (a.put o.dst undef) w)
  (hr : Region.ready md ops listed = [i] := by kernel_rfl) : wpAnyH P md ops Q S (fuel + 1) listed a w := wpAnyH_ready hr (by simp) (AllReadyH.cons ho h AllReadyH.nil)
end Go.Proofs.YtcfidimnbamnkaaGreat
