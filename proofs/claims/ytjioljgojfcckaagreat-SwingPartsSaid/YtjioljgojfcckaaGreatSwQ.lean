/-
  Layer 9: the law SwingAny's walk. Conditions: those written at each fact.
-/
import Derived.Test.YtjioljgojfcckaaGreatSwP
namespace Go.Proofs.YtjioljgojfcckaaGreat.P9
open Go.RowKit Go.Shelf Go.Proofs.YtjioljgojfcckaaGreat.P8

theorem okD_times {b0 : Bd} {l : List Bd} (hk : okD (b0 :: l) = true) : (∀ b ∈ b0 :: l, BdOk b) ∧ (∀ b ∈ l, b0.t < b.t) := by
  obtain ⟨_, _, h1, h2⟩ := (okD_iff _).1 hk
  exact ⟨h1, (List.pairwise_cons.1 h2).1⟩
end Go.Proofs.YtjioljgojfcckaaGreat.P9
