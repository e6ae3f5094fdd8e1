/-
  What the rows of this seat share: spans, and slices of spans, that are handed in. Conditions: those written at each fact.
-/
import Derived.Test.YtmnndbafljngiaaRowB
import Derived.Test.YtmnndbafljngiaaSpE
import Derived.Deep.SlicePairs
import Derived.Deep.Fields
namespace Go.Proofs.Ytmnndbafljngiaa
open Go.ChangeShapes Go.WideShapes Go.ChangeAt Go.RowKit Go.Joins Go.Deep

theorem cellsSpan : Try.prog.cellsOf 23 = 2 := by kernel_rfl
section
variable {H : Type} {enc : TypeId × Value → H} {w : World}
set_option maxRecDepth 100000 in
theorem open_span {base : Nat} {spare : Nat → Bool} {held : Bool} {r : Reach} {b0 : Nat} {v : Value} {d : DataW H} {p : List MemPlace}
    (hv : Value.okWide Try.prog w r b0 23 v) (h : DataW.Trod enc Try.prog w base spare held 23 v d p) :
    ∃ lo hi, v = spV lo hi ∧ p = [] ∧ -9223372036854775808 ≤ lo ∧ lo ≤ 9223372036854775807 ∧ -9223372036854775808 ≤ hi ∧ hi ≤ 9223372036854775807 := by
  obtain ⟨c0, c1, y0, y1, m, rfl, rfl, rfl, hy0, hy1⟩ := open_agg2 Try.underlying23 (by kernel_rfl) cellsSpan hv h
  obtain ⟨a, e0, rfl, wa⟩ := DataW.trod_int Try.underlying2 hy0
  obtain ⟨b, e1, rfl, wb⟩ := DataW.trod_int Try.underlying2 hy1
  simp at e0 e1
  subst e0 e1
  exact ⟨a, b, rfl, rfl, (i64_wf.1 wa).1, (i64_wf.1 wa).2, (i64_wf.1 wb).1, (i64_wf.1 wb).2⟩
theorem spot_none {a : Addr} {v : Value} (h : w.cell? a = some v) : a.spot = none := World.cell?_spot h
set_option maxRecDepth 100000 in
/-- A slice of spans, handed in, reads. -/
theorem open_spans {r : Reach} {b0 : Nat} {v : Value} {d : DataW H} {p : List MemPlace}
    (hv : Value.okWide Try.prog w r b0 45 v) (h : DataW.Trod enc Try.prog w 0 (fun _ => true) true 45 v d p) (hlt : ∀ x ∈ p, x.block < w.heap.size) :
    ∃ l : List (Int × Int), ReadsS w v l ∧ l.length ≤ 9223372036854775807 ∧ OkS l := by
  obtain ⟨a0, len, cap, rfl⟩ := okWide_slice Try.underlying45 hv
  obtain ⟨fuel, hf⟩ := h
  rcases open_slice_pairs Try.underlying45 Try.underlying23 cellsSpan rfl rfl (by kernel_rfl) (by kernel_rfl) hf with ⟨hcs, hx⟩ | ⟨a, len', cap', m, n, V0, V1, D0, D1, P0, P1, hcs, _, hl, hm, hmm, hx, hi⟩
  · simp [Value.cells] at hcs
    obtain ⟨rfl, rfl, rfl⟩ := hcs
    exact ⟨[], ⟨none, 0, rfl, fun i s h => by simp at h⟩, by simp, fun s hs => by simp at hs⟩
  · simp [Value.cells] at hcs
    obtain ⟨rfl, rfl, rfl⟩ := hcs
    simp only [if_true] at hmm
    subst hmm
    simp only [Prod.mk.injEq] at hx
    obtain ⟨rfl, rfl⟩ := hx
    have each : ∀ i, ∃ s : Int × Int, i < m → w.cell? (a.add (i * 2)) = some (.int .i64 s.1) ∧ w.cell? (a.add (i * 2 + 1)) = some (.int .i64 s.2) ∧ (Lit.int .i64 s.1).wf = true ∧ (Lit.int .i64 s.2).wf = true := by
      intro i
      by_cases g : i < m
      · obtain ⟨c0, c1, t0, t1⟩ := hi i g
        obtain ⟨x, e0, _, wx⟩ := DataW.trod_int Try.underlying2 t0
        obtain ⟨y, e1, _, wy⟩ := DataW.trod_int Try.underlying2 t1
        simp at e0 e1
        rw [e0] at c0
        rw [e1] at c1
        exact ⟨(x, y), fun _ => ⟨c0, c1, wx, wy⟩⟩
      · exact ⟨(0, 0), fun h => absurd h g⟩
    obtain ⟨S, hS⟩ := Classical.axiomOfChoice each
    have hlen : ((List.range len).map S).length = len := by simp
    refine ⟨(List.range len).map S, ⟨some a, _, by rw [hlen], fun i s hs => ?_⟩, by rw [hlen]; unfold maxLen at hm; omega, fun s hs => ?_⟩
    · have hil : i < len := by have := (List.getElem?_eq_some_iff.1 hs).1; rw [hlen] at this; exact this
      rw [List.getElem?_map, List.getElem?_range hil] at hs
      injection hs with hs
      subst hs
      obtain ⟨c0, c1, _, _⟩ := hS i (by omega)
      obtain ⟨c00, _, _, _⟩ := hS 0 (by omega)
      have sp : a.spot = none := by simpa [Addr.add] using World.cell?_spot c00
      obtain ⟨b, off, sq⟩ := a
      simp only at sp
      subst sp
      refine ⟨b, off, rfl, hlt (.cell b off) (by refine List.mem_append_left _ ?_; simp only [MemPlace.row, List.mem_map, List.mem_range]; exact ⟨0, by omega, by simp⟩), ?_, ?_⟩
      · by_cases g0 : i = 0
        · subst g0; simpa [Addr.add] using c0
        · have g1 : ¬ i * 2 = 0 := by omega
          simpa [Addr.add, g1] using c0
      · simpa [Addr.add, Nat.add_assoc] using c1
    · obtain ⟨i, hi1, rfl⟩ := List.mem_map.1 hs
      have hil : i < len := List.mem_range.1 hi1
      obtain ⟨_, _, wx, wy⟩ := hS i (by omega)
      exact ⟨(i64_wf.1 wx).1, (i64_wf.1 wx).2, (i64_wf.1 wy).1, (i64_wf.1 wy).2⟩
end
end Go.Proofs.Ytmnndbafljngiaa
