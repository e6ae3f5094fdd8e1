/-
  What the rows of this seat share: slices of guesses, that are handed in. Conditions: those written at each fact.
-/
import Derived.Test.YtmnndbafljngiaaSpR
import Derived.Test.YtmnndbafljngiaaGue
import Derived.Deep.Slices
import Derived.Deep.Fields
namespace Go.Proofs.Ytmnndbafljngiaa
open Go.ChangeShapes Go.WideShapes Go.ChangeAt Go.RowKit Go.Joins Go.Deep

theorem cellsGuess : Try.prog.cellsOf 69 = 3 := by kernel_rfl
section
variable {H : Type} {enc : TypeId × Value → H} {w : World}
set_option maxRecDepth 100000 in
theorem guess_cells {base n : Nat} {spare : Nat → Bool} {held : Bool} {c0 c1 c2 : Value} {x : DataW H × List MemPlace} (h : DataW.trod enc Try.prog w base spare held n 69 [c0, c1, c2] = some x) :
    ∃ lo hi a : Int, c0 = .int .i64 lo ∧ c1 = .int .i64 hi ∧ c2 = .int .u64 a ∧ (Lit.int .i64 lo).wf = true ∧ (Lit.int .i64 hi).wf = true ∧ (Lit.int .u64 a).wf = true := by
  obtain ⟨ys, m, _, _, _, hlen, hg⟩ := DataW.trod_struct Try.underlying69 h
  match ys, hlen with
  | [y0, y1], _ =>
    have h0 := hg 0 _ rfl
    have h1 := hg 1 _ rfl
    have k0 : DataW.trod enc Try.prog w base spare held m 23 [c0, c1] = some y0 := h0
    have k1 : DataW.trod enc Try.prog w base spare held m 31 [c2] = some y1 := h1
    obtain ⟨zs, m2, _, _, _, hlen2, hg2⟩ := DataW.trod_struct Try.underlying23 k0
    match zs, hlen2 with
    | [z0, z1], _ =>
      have j0 : DataW.trod enc Try.prog w base spare held m2 2 [c0] = some z0 := hg2 0 _ rfl
      have j1 : DataW.trod enc Try.prog w base spare held m2 2 [c1] = some z1 := hg2 1 _ rfl
      obtain ⟨lo, e0, _, wa⟩ := DataW.trod_int Try.underlying2 j0
      obtain ⟨hi, e1, _, wb⟩ := DataW.trod_int Try.underlying2 j1
      obtain ⟨a, e2, _, wc⟩ := DataW.trod_int Try.underlying31 k1
      simp at e0 e1 e2
      exact ⟨lo, hi, a, e0, e1, e2, wa, wb, wc⟩
set_option maxRecDepth 100000 in
/-- A slice of guesses, handed in, reads. -/
theorem open_guesses {r : Reach} {b0 : Nat} {v : Value} {d : DataW H} {p : List MemPlace}
    (hv : Value.okWide Try.prog w r b0 62 v) (h : DataW.Trod enc Try.prog w 0 (fun _ => true) true 62 v d p) (hlt : ∀ x ∈ p, x.block < w.heap.size) :
    ∃ l : List (Int × Int × Int), ReadsG w v l ∧ l.length ≤ 9223372036854775807 ∧ OkG l := by
  obtain ⟨a0, len, cap, rfl⟩ := okWide_slice Try.underlying62 hv
  obtain ⟨fuel, hf⟩ := h
  rcases open_slice Try.underlying62 hf with ⟨hcs, hx⟩ | ⟨a, len', cap', m, n, D, Pl, hcs, _, hl, hm, hmm, hx, hi⟩
  · simp [Value.cells] at hcs
    obtain ⟨rfl, rfl, rfl⟩ := hcs
    exact ⟨[], ⟨none, 0, rfl, fun i s h => by simp at h⟩, by simp, fun s hs => by simp at hs⟩
  · simp [Value.cells] at hcs
    obtain ⟨rfl, rfl, rfl⟩ := hcs
    simp only [if_true] at hmm
    subst hmm
    rw [cellsGuess] at hx hi
    simp only [Prod.mk.injEq] at hx
    obtain ⟨rfl, rfl⟩ := hx
    have each : ∀ i, ∃ s : Int × Int × Int, i < m → w.cell? (a.add (i * 3)) = some (.int .i64 s.1) ∧ w.cell? ((a.add (i * 3)).add 1) = some (.int .i64 s.2.1) ∧ w.cell? ((a.add (i * 3)).add 2) = some (.int .u64 s.2.2) ∧ (Lit.int .i64 s.1).wf = true ∧ (Lit.int .i64 s.2.1).wf = true ∧ (Lit.int .u64 s.2.2).wf = true := by
      intro i
      by_cases g : i < m
      · obtain ⟨cs', hc, ht'⟩ := hi i g
        obtain ⟨_, hcl, hat⟩ := World.cells?_some hc
        match cs', hcl with
        | [c0, c1, c2], _ =>
          obtain ⟨x, y, z, rfl, rfl, rfl, wx, wy, wz⟩ := guess_cells ht'
          refine ⟨(x, y, z), fun _ => ⟨?_, hat 1 (by omega), hat 2 (by omega), wx, wy, wz⟩⟩
          have := hat 0 (by omega)
          simpa [Addr.add] using this
      · exact ⟨(0, 0, 0), fun h => absurd h g⟩
    obtain ⟨S, hS⟩ := Classical.axiomOfChoice each
    have hlen : ((List.range len).map S).length = len := by simp
    refine ⟨(List.range len).map S, ⟨some a, _, by rw [hlen], fun i s hs => ?_⟩, by rw [hlen]; unfold maxLen at hm; omega, fun s hs => ?_⟩
    · have hil : i < len := by have := (List.getElem?_eq_some_iff.1 hs).1; rw [hlen] at this; exact this
      rw [List.getElem?_map, List.getElem?_range hil] at hs
      injection hs with hs
      subst hs
      obtain ⟨c0, c1, c2, _⟩ := hS i (by omega)
      obtain ⟨c00, _⟩ := hS 0 (by omega)
      have sp : a.spot = none := by simpa [Addr.add] using World.cell?_spot c00
      obtain ⟨b, off, sq⟩ := a
      simp only at sp
      subst sp
      refine ⟨b, off, rfl, hlt (.cell b off) (by refine List.mem_append_left _ ?_; simp only [MemPlace.row, List.mem_map, List.mem_range]; exact ⟨0, by omega, by simp⟩), ?_, ?_, ?_⟩
      · by_cases g0 : i = 0
        · subst g0; simpa [Addr.add] using c0
        · have g1 : ¬ i * 3 = 0 := by omega
          simpa [Addr.add, g1] using c0
      · by_cases g0 : i = 0
        · subst g0; simpa [Addr.add] using c1
        · have g1 : ¬ i * 3 = 0 := by omega
          simpa [Addr.add, g1] using c1
      · by_cases g0 : i = 0
        · subst g0; simpa [Addr.add] using c2
        · have g1 : ¬ i * 3 = 0 := by omega
          simpa [Addr.add, g1] using c2
    · obtain ⟨i, hi1, rfl⟩ := List.mem_map.1 hs
      have hil : i < len := List.mem_range.1 hi1
      obtain ⟨_, _, _, wx, wy, wz⟩ := hS i (by omega)
      exact ⟨(i64_wf.1 wx).1, (i64_wf.1 wx).2, (i64_wf.1 wy).1, (i64_wf.1 wy).2, (u64_wf.1 wz).1, (u64_wf.1 wz).2⟩
end
end Go.Proofs.Ytmnndbafljngiaa
