/-
  Layer 4: what the calls of package span that take no rows answer: Check, Point, Has, and the ends' own. Conditions: those written at each fact.
-/
import Derived.Test.YtldfkfienlcipaaChecked
import Derived.Test.YtldfkfienlcipaaKitX
import Derived.StillTactics
namespace Go.Proofs.Ytldfkfienlcipaa
open Go.RowKit

/-- A span, or a pair of ends. -/
abbrev spV (lo hi : Int) : Value := .agg #[.int .i64 lo, .int .i64 hi]
theorem check_any (lo hi : Int) (w : World) : Calls Try.prog 100 #[spV lo hi] w (Ret w (.int .i64 (if hi < lo then 140 else 0))) := by
  by_cases g : hi < lo
  · rw [if_pos g]
    go_enter Try.func100, Try.ntmps100
    go_wp2
    go_ret
    exact ⟨rfl, by go_grown⟩
  · rw [if_neg g]
    go_enter Try.func100, Try.ntmps100
    go_wp2
    go_ret
    exact ⟨rfl, by go_grown⟩
theorem point_any (v : Int) (w : World) : Calls Try.prog 68 #[.int .i64 v] w (Ret w (spV v v)) := by
  go_enter Try.func68, Try.ntmps68
  go_wp2
  go_returns
  exact ⟨rfl, by go_grown⟩
theorem endsOf_any (lo hi : Int) (w : World) : Calls Try.prog 95 #[spV lo hi] w (Ret w (spV lo hi)) := by
  go_enter Try.func95, Try.ntmps95
  go_wp2
  go_returns
  exact ⟨rfl, by go_grown⟩
theorem espan_any (lo hi : Int) (w : World) : Calls Try.prog 96 #[spV lo hi] w (Ret w (spV lo hi)) := by
  go_enter Try.func96, Try.ntmps96
  go_wp2
  go_returns
  exact ⟨rfl, by go_grown⟩
theorem ejoin_any (a b c d : Int) (w : World) : Calls Try.prog 83 #[spV a b, spV c d] w (Ret w (spV (min a c) (max b d))) := by
  go_enter Try.func83, Try.ntmps83
  go_wp2
  all_goals
    go_returns
    refine ⟨?_, by go_grown⟩
    first | (simp; done) | (simp; omega)
end Go.Proofs.Ytldfkfienlcipaa
