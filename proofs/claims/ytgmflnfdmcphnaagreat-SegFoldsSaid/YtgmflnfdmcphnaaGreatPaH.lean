/-
  Layer 11: Part, as a law calls it; a segment of the law's own. Conditions: those written at each fact.
-/
import Derived.Test.YtgmflnfdmcphnaaGreatSgT
namespace Go.Proofs.YtgmflnfdmcphnaaGreat.P11
open Go.RowKit Go.Shelf Go.Proofs.YtgmflnfdmcphnaaGreat.P7

abbrev CallP (s : Sg) (x y c l h z0 z1 code : Int) : Prop := ∀ v u W, ReadsR W v s.R → Reads .i64 W u s.V → Calls Tryz.prog 28 #[sgOf s v u, .int .i64 x, .int .i64 y] W (Ret W (.tuple #[fiveV c l h z0 z1, .int .i64 code]))
theorem callP (s : Sg) (hR : s.R.length ≤ 1000000) (hV : s.V.length ≤ 1000000) (x y : Int) : CallP s x y (partsOf s x y).length (minL (partsOf s x y)) (maxL (partsOf s x y)) (rhi (sumL (partsOf s x y))) (rlo (sumL (partsOf s x y))) (partC s x y) :=
  fun v u W h hu => part_any s hR hV x y v u W h hu
theorem own_got {w : World} {s : Sg} {e : Ending} {w' : World} (h : OwnS w s e w') : ∃ A1 n1 c1 A2 n2 c2, e = .returned (sgOf s (.slice A1 n1 c1) (.slice A2 n2 c2)) ∧ Below w.heap.size w w' ∧ Own2 w' w.heap.size s (.slice A1 n1 c1) (.slice A2 n2 c2) := by
  obtain ⟨v, u, he, hb, ho⟩ := h
  obtain ⟨A1, n1, c1, rfl⟩ := own_sl ho.runs
  obtain ⟨A2, n2, c2, rfl⟩ := own_sl ho.raws
  exact ⟨A1, n1, c1, A2, n2, c2, he, hb, ho⟩
end Go.Proofs.YtgmflnfdmcphnaaGreat.P11
