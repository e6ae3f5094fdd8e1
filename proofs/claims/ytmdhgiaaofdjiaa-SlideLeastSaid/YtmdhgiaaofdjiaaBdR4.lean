/-
  What the rows of this seat share: slices of pieces that are handed in. Conditions: those written at each fact.
-/
import Derived.Test.YtmdhgiaaofdjiaaRowB
import Derived.Test.YtmdhgiaaofdjiaaLeastL
import Derived.Deep.Slices
import Derived.Deep.Fields
namespace Go.Proofs.Ytmdhgiaaofdjiaa.P10
open Go.ChangeShapes Go.WideShapes Go.ChangeAt Go.RowKit Go.Joins Go.Deep Go.Proofs.Ytmdhgiaaofdjiaa.P8

theorem cellsPq : Try.prog.cellsOf 55 = 5 := by kernel_rfl
section
variable {H : Type} {enc : TypeId × Value → H} {w : World}
set_option maxRecDepth 100000 in
theorem pq_cells {base n : Nat} {spare : Nat → Bool} {held : Bool} {c0 c1 c2 c3 c4 : Value} {x : DataW H × List MemPlace} (h : DataW.trod enc Try.prog w base spare held n 55 [c0, c1, c2, c3, c4] = some x) :
    ∃ p : Pq, c0 = .int .i64 p.c ∧ c1 = .int .i64 p.a ∧ c2 = .int .i64 p.r ∧ c3 = .int .i64 p.n ∧ c4 = .int .i64 p.d ∧ I64 p.a ∧ I64 p.r ∧ I64 p.n ∧ I64 p.d := by
  obtain ⟨ys, m, _, _, _, hlen, hg⟩ := DataW.trod_struct Try.underlying55 h
  match ys, hlen with
  | [y0, y1], _ =>
    have k0 : DataW.trod enc Try.prog w base spare held m 3 [c0] = some y0 := hg 0 _ rfl
    have k1 : DataW.trod enc Try.prog w base spare held m 24 [c1, c2, c3, c4] = some y1 := hg 1 _ rfl
    obtain ⟨a, e0, _, _⟩ := DataW.trod_int Try.underlying3 k0
    obtain ⟨zs, m2, _, _, _, hlen2, hg2⟩ := DataW.trod_struct Try.underlying24 k1
    match zs, hlen2 with
    | [z0, z1, z2, z3], _ =>
      have q0 : DataW.trod enc Try.prog w base spare held m2 2 [c1] = some z0 := hg2 0 _ rfl
      have q1 : DataW.trod enc Try.prog w base spare held m2 2 [c2] = some z1 := hg2 1 _ rfl
      have q2 : DataW.trod enc Try.prog w base spare held m2 2 [c3] = some z2 := hg2 2 _ rfl
      have q3 : DataW.trod enc Try.prog w base spare held m2 2 [c4] = some z3 := hg2 3 _ rfl
      obtain ⟨b1, e1, _, w1⟩ := DataW.trod_int Try.underlying2 q0
      obtain ⟨b2, e2, _, w2⟩ := DataW.trod_int Try.underlying2 q1
      obtain ⟨b3, e3, _, w3⟩ := DataW.trod_int Try.underlying2 q2
      obtain ⟨b4, e4, _, w4⟩ := DataW.trod_int Try.underlying2 q3
      simp at e0 e1 e2 e3 e4
      exact ⟨⟨a, b1, b2, b3, b4⟩, e0, e1, e2, e3, e4, i64_wf.1 w1, i64_wf.1 w2, i64_wf.1 w3, i64_wf.1 w4⟩
set_option maxRecDepth 100000 in
theorem open_rays {r : Reach} {b0 : Nat} {v : Value} {d : DataW H} {p : List MemPlace}
    (hv : Value.okWide Try.prog w r b0 53 v) (h : DataW.Trod enc Try.prog w 0 (fun _ => true) true 53 v d p) (hlt : ∀ x ∈ p, x.block < w.heap.size) :
    ∃ l : List Pq, ReadsQ w v l ∧ l.length ≤ 9223372036854775807 := by
  obtain ⟨a0, len, cap, rfl⟩ := okWide_slice Try.underlying53 hv
  obtain ⟨fuel, hf⟩ := h
  rcases open_slice Try.underlying53 hf with ⟨hcs, hx⟩ | ⟨a, len', cap', m, n, D, Pl, hcs, _, hl, hm, hmm, hx, hi⟩
  · simp [Value.cells] at hcs
    obtain ⟨rfl, rfl, rfl⟩ := hcs
    exact ⟨[], ⟨none, _, rfl, Nat.zero_le _, fun i s h => by simp at h⟩, by simp⟩
  · simp [Value.cells] at hcs
    obtain ⟨rfl, rfl, rfl⟩ := hcs
    simp only [if_true] at hmm
    subst hmm
    rw [cellsPq] at hx hi
    simp only [Prod.mk.injEq] at hx
    obtain ⟨rfl, rfl⟩ := hx
    have each : ∀ i, ∃ s : Pq, i < m → (I64 s.a ∧ I64 s.r ∧ I64 s.n ∧ I64 s.d) ∧ w.cell? (a.add (i * 5)) = some (.int .i64 s.c) ∧ w.cell? ((a.add (i * 5)).add 1) = some (.int .i64 s.a) ∧ w.cell? ((a.add (i * 5)).add 2) = some (.int .i64 s.r) ∧ w.cell? ((a.add (i * 5)).add 3) = some (.int .i64 s.n) ∧ w.cell? ((a.add (i * 5)).add 4) = some (.int .i64 s.d) := by
      intro i
      by_cases g : i < m
      · obtain ⟨cs', hc, ht'⟩ := hi i g
        obtain ⟨_, hcl, hat⟩ := World.cells?_some hc
        match cs', hcl with
        | [c0, c1, c2, c3, c4], _ =>
          obtain ⟨p, rfl, rfl, rfl, rfl, rfl, j1, j2, j3, j4⟩ := pq_cells ht'
          refine ⟨p, fun _ => ⟨⟨j1, j2, j3, j4⟩, ?_, hat 1 (by omega), hat 2 (by omega), hat 3 (by omega), hat 4 (by omega)⟩⟩
          have := hat 0 (by omega)
          simpa [Addr.add] using this
      · exact ⟨⟨0, 0, 0, 0, 0⟩, fun h => absurd h g⟩
    obtain ⟨S, hS⟩ := Classical.axiomOfChoice each
    have hlen : ((List.range len).map S).length = len := by simp
    refine ⟨(List.range len).map S, ⟨some a, _, by rw [hlen], by rw [hlen]; omega, fun i s hs => ?_⟩, by rw [hlen]; unfold maxLen at hm; omega⟩
    have hil : i < len := by have := (List.getElem?_eq_some_iff.1 hs).1; rw [hlen] at this; exact this
    rw [List.getElem?_map, List.getElem?_range hil] at hs
    injection hs with hs
    subst hs
    obtain ⟨jj, c0, c1, c2, c3, c4⟩ := hS i (by omega)
    obtain ⟨_, c00, _⟩ := hS 0 (by omega)
    have sp : a.spot = none := by simpa [Addr.add] using World.cell?_spot c00
    obtain ⟨b, off, sq⟩ := a
    simp only at sp
    subst sp
    refine ⟨jj, b, off, rfl, hlt (.cell b off) (by refine List.mem_append_left _ ?_; simp only [MemPlace.row, List.mem_map, List.mem_range]; exact ⟨0, by omega, by simp⟩), ?_, ?_, ?_, ?_, ?_⟩
    all_goals
      by_cases g0 : i = 0
      · subst g0; first | simpa [Addr.add] using c0 | simpa [Addr.add] using c1 | simpa [Addr.add] using c2 | simpa [Addr.add] using c3 | simpa [Addr.add] using c4
      · have g1 : ¬ i * 5 = 0 := by omega
        first | simpa [Addr.add, g1] using c0 | simpa [Addr.add, g1] using c1 | simpa [Addr.add, g1] using c2 | simpa [Addr.add, g1] using c3 | simpa [Addr.add, g1] using c4
end
end Go.Proofs.Ytmdhgiaaofdjiaa.P10
