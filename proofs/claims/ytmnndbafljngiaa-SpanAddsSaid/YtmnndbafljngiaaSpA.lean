/-
  Layer 4: what the calls of package span that take no rows answer: Check, Point, Has, and the ends' own. Conditions: those written at each fact.
-/
import Derived.Test.YtmnndbafljngiaaChecked
import Derived.Test.YtmnndbafljngiaaKitX
import Derived.StillTactics
namespace Go.Proofs.Ytmnndbafljngiaa
open Go.RowKit

/-- A span, or a pair of ends. -/
abbrev spV (lo hi : Int) : Value := .agg #[.int .i64 lo, .int .i64 hi]
theorem check_any (lo hi : Int) (w : World) : Calls Try.prog 13 #[spV lo hi] w (Ret w (.int .i64 (if hi < lo then 140 else 0))) := by
  by_cases g : hi < lo
  · rw [if_pos g]
    go_enter Try.func13, Try.ntmps13
    go_wp2
    go_ret
    exact ⟨rfl, by go_grown⟩
  · rw [if_neg g]
    go_enter Try.func13, Try.ntmps13
    go_wp2
    go_ret
    exact ⟨rfl, by go_grown⟩
theorem point_any (v : Int) (w : World) : Calls Try.prog 14 #[.int .i64 v] w (Ret w (spV v v)) := by
  go_enter Try.func14, Try.ntmps14
  go_wp2
  go_returns
  exact ⟨rfl, by go_grown⟩
theorem endsOf_any (lo hi : Int) (w : World) : Calls Try.prog 66 #[spV lo hi] w (Ret w (spV lo hi)) := by
  go_enter Try.func66, Try.ntmps66
  go_wp2
  go_returns
  exact ⟨rfl, by go_grown⟩
theorem espan_any (lo hi : Int) (w : World) : Calls Try.prog 79 #[spV lo hi] w (Ret w (spV lo hi)) := by
  go_enter Try.func79, Try.ntmps79
  go_wp2
  go_returns
  exact ⟨rfl, by go_grown⟩
theorem has_any (lo hi v : Int) (w : World) : Calls Try.prog 15 #[spV lo hi, .int .i64 v] w (Ret w (.bool (decide (lo ≤ v) && decide (v ≤ hi)))) := by
  cases g : decide (lo ≤ v)
  · go_enter Try.func15, Try.ntmps15
    go_wp2
    go_ret
    exact ⟨rfl, by go_grown⟩
  · go_enter Try.func15, Try.ntmps15
    go_wp2
    go_ret
    exact ⟨rfl, by go_grown⟩
theorem ejoin_any (a b c d : Int) (w : World) : Calls Try.prog 57 #[spV a b, spV c d] w (Ret w (spV (min a c) (max b d))) := by
  go_enter Try.func57, Try.ntmps57
  go_wp2
  all_goals
    go_returns
    refine ⟨?_, by go_grown⟩
    first | (simp; done) | (simp; omega)
theorem emeet_any (a b c d : Int) (w : World) : Calls Try.prog 58 #[spV a b, spV c d] w (Ret w (spV (max a c) (min b d))) := by
  go_enter Try.func58, Try.ntmps58
  go_wp2
  all_goals
    go_returns
    refine ⟨?_, by go_grown⟩
    first | (simp; done) | (simp; omega)
theorem eleast_any (a b c d : Int) (w : World) : Calls Try.prog 59 #[spV a b, spV c d] w (Ret w (spV (min a c) (min b d))) := by
  go_enter Try.func59, Try.ntmps59
  go_wp2
  all_goals
    go_returns
    refine ⟨?_, by go_grown⟩
    first | (simp; done) | (simp; omega)
theorem emost_any (a b c d : Int) (w : World) : Calls Try.prog 60 #[spV a b, spV c d] w (Ret w (spV (max a c) (max b d))) := by
  go_enter Try.func60, Try.ntmps60
  go_wp2
  all_goals
    go_returns
    refine ⟨?_, by go_grown⟩
    first | (simp; done) | (simp; omega)
end Go.Proofs.Ytmnndbafljngiaa
