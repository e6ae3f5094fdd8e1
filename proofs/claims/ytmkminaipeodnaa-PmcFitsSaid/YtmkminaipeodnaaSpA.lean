/-
  Layer 4: what the calls of package span that take no rows answer: Check, Point, Has, and the ends' own. Conditions: those written at each fact.
-/
import Derived.Test.YtmkminaipeodnaaChecked
import Derived.Test.YtmkminaipeodnaaKitX
import Derived.StillTactics
namespace Go.Proofs.Ytmkminaipeodnaa
open Go.RowKit

/-- A span, or a pair of ends. -/
abbrev spV (lo hi : Int) : Value := .agg #[.int .i64 lo, .int .i64 hi]
theorem check_any (lo hi : Int) (w : World) : Calls Try.prog 41 #[spV lo hi] w (Ret w (.int .i64 (if hi < lo then 140 else 0))) := by
  by_cases g : hi < lo
  · rw [if_pos g]
    go_enter Try.func41, Try.ntmps41
    go_wp2
    go_ret
    exact ⟨rfl, by go_grown⟩
  · rw [if_neg g]
    go_enter Try.func41, Try.ntmps41
    go_wp2
    go_ret
    exact ⟨rfl, by go_grown⟩
theorem endsOf_any (lo hi : Int) (w : World) : Calls Try.prog 66 #[spV lo hi] w (Ret w (spV lo hi)) := by
  go_enter Try.func66, Try.ntmps66
  go_wp2
  go_returns
  exact ⟨rfl, by go_grown⟩
theorem espan_any (lo hi : Int) (w : World) : Calls Try.prog 67 #[spV lo hi] w (Ret w (spV lo hi)) := by
  go_enter Try.func67, Try.ntmps67
  go_wp2
  go_returns
  exact ⟨rfl, by go_grown⟩
theorem emeet_any (a b c d : Int) (w : World) : Calls Try.prog 63 #[spV a b, spV c d] w (Ret w (spV (max a c) (min b d))) := by
  go_enter Try.func63, Try.ntmps63
  go_wp2
  all_goals
    go_returns
    refine ⟨?_, by go_grown⟩
    first | (simp; done) | (simp; omega)
end Go.Proofs.Ytmkminaipeodnaa
