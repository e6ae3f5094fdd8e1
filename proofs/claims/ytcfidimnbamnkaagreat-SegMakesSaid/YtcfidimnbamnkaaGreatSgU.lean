/-
 What the rows of layer 11 share: segments, and slices of runs, that are handed in. Conditions: those written at each fact.
-/
import Derived.Test.YtcfidimnbamnkaaGreatRowB
import Derived.Test.YtcfidimnbamnkaaGreatSgS
import Derived.Deep.Slices
import Derived.Deep.Fields
namespace Go.Proofs.YtcfidimnbamnkaaGreat.P11
open Go.ChangeShapes Go.WideShapes Go.ChangeAt Go.RowKit Go.Joins Go.Deep Go.Proofs.YtcfidimnbamnkaaGreat.P7

theorem cellsRun : Tryz.prog.cellsOf 44 = 3 := by kernel_rfl
section
variable {H : Type} {enc : TypeId × Value → H} {w : World}
set_option maxRecDepth 100000 in
theorem run_cells {base n : Nat} {spare : Nat → Bool} {held : Bool} {c0 c1 c2 : Value} {x : DataW H × List MemPlace} (h : DataW.trod enc Tryz.prog w base spare held n 44 [c0, c1, c2] = some x) :
  ∃ f s c : Int, c0 = .int .i64 f ∧ c1 = .int .i64 s ∧ c2 = .int .i64 c := by
 obtain ⟨ys, m, _, _, _, hlen, hg⟩ := DataW.trod_struct Tryz.underlying44 h
 match ys, hlen with
 | [y0, y1, y2], _ =>
  have k0 : DataW.trod enc Tryz.prog w base spare held m 2 [c0] = some y0 := hg 0 _ rfl
  have k1 : DataW.trod enc Tryz.prog w base spare held m 2 [c1] = some y1 := hg 1 _ rfl
  have k2 : DataW.trod enc Tryz.prog w base spare held m 3 [c2] = some y2 := hg 2 _ rfl
  obtain ⟨a, e0, _, _⟩ := DataW.trod_int Tryz.underlying2 k0
  obtain ⟨b, e1, _, _⟩ := DataW.trod_int Tryz.underlying2 k1
  obtain ⟨c, e2, _, _⟩ := DataW.trod_int Tryz.underlying3 k2
  simp at e0 e1 e2
  exact ⟨a, b, c, e0, e1, e2⟩
set_option maxRecDepth 100000 in
theorem runs_cell {fuel : Nat} {v : Value} {x : DataW H × List MemPlace} (hf : DataW.trod enc Tryz.prog w 0 (fun _ => true) true fuel 22 [v] = some x) (hlt : ∀ y ∈ x.2, y.block < w.heap.size) :
  ∃ l : List Rn, ReadsR w v l ∧ l.length ≤ 9223372036854775807 := by
 rcases open_slice Tryz.underlying22 hf with ⟨hcs, hx⟩ | ⟨a, len, cap, m, n, D, Pl, hcs, _, hl, hm, hmm, hx, hi⟩
 ·simp at hcs
  subst hcs
  exact ⟨[], ⟨none, _, rfl, Nat.zero_le _, fun i s h => by simp at h⟩, by simp⟩
 ·simp at hcs
  subst hcs
  simp only [if_true] at hmm
  subst hmm
  rw [cellsRun] at hx hi
  subst hx
  have each : ∀ i, ∃ s : Rn, i < m → w.cell? (a.add (i * 3)) = some (.int .i64 s.f) ∧ w.cell? ((a.add (i * 3)).add 1) = some (.int .i64 s.s) ∧ w.cell? ((a.add (i * 3)).add 2) = some (.int .i64 s.c) := by
   intro i
   by_cases g : i < m
   ·obtain ⟨cs', hc, ht'⟩ := hi i g
    obtain ⟨_, hcl, hat⟩ := World.cells?_some hc
    match cs', hcl with
    | [c0, c1, c2], _ =>
     obtain ⟨x, y, z, rfl, rfl, rfl⟩ := run_cells ht'
     refine ⟨⟨x, y, z⟩, fun _ => ⟨?_, hat 1 (by omega), hat 2 (by omega)⟩⟩
     have := hat 0 (by omega)
     simpa [Addr.add] using this
   ·exact ⟨⟨0, 0, 0⟩, fun h => absurd h g⟩
  obtain ⟨S, hS⟩ := Classical.axiomOfChoice each
  have hlen : ((List.range len).map S).length = len := by simp
  refine ⟨(List.range len).map S, ⟨some a, _, by rw [hlen], by rw [hlen]; omega, fun i s hs => ?_⟩, by rw [hlen]; unfold maxLen at hm; omega⟩
  have hil : i < len := by have := (List.getElem?_eq_some_iff.1 hs).1; rw [hlen] at this; exact this
  rw [List.getElem?_map, List.getElem?_range hil] at hs
  injection hs with hs
  subst hs
  obtain ⟨c0, c1, c2⟩ := hS i (by omega)
  obtain ⟨c00, _⟩ := hS 0 (by omega)
  have sp : a.spot = none := by simpa [Addr.add] using World.cell?_spot c00
  obtain ⟨b, off, sq⟩ := a
  simp only at sp
  subst sp
  refine ⟨b, off, rfl, hlt (.cell b off) (by refine List.mem_append_left _ ?_; simp only [MemPlace.row, List.mem_map, List.mem_range]; exact ⟨0, by omega, by simp⟩), ?_, ?_, ?_⟩
  ·by_cases g0 : i = 0
   ·subst g0; simpa [Addr.add] using c0
   ·have g1 : ¬ i * 3 = 0 := by omega
    simpa [Addr.add, g1] using c0
  ·by_cases g0 : i = 0
   ·subst g0; simpa [Addr.add] using c1
   ·have g1 : ¬ i * 3 = 0 := by omega
    simpa [Addr.add, g1] using c1
  ·by_cases g0 : i = 0
   ·subst g0; simpa [Addr.add] using c2
   ·have g1 : ¬ i * 3 = 0 := by omega
    simpa [Addr.add, g1] using c2
set_option maxRecDepth 100000 in
theorem open_runs {r : Reach} {b0 : Nat} {v : Value} {d : DataW H} {p : List MemPlace}
  (hv : Value.okWide Tryz.prog w r b0 22 v) (h : DataW.Trod enc Tryz.prog w 0 (fun _ => true) true 22 v d p) (hlt : ∀ x ∈ p, x.block < w.heap.size) :
  ∃ l : List Rn, ReadsR w v l ∧ l.length ≤ 9223372036854775807 := by
 obtain ⟨a0, len, cap, rfl⟩ := okWide_slice Tryz.underlying22 hv
 obtain ⟨fuel, hf⟩ := h
 exact runs_cell (x := (d, p)) (by simpa [Value.cells] using hf) hlt
end
end Go.Proofs.YtcfidimnbamnkaaGreat.P11
