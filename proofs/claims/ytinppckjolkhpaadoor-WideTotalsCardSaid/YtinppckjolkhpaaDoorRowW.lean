/-
  What a row of this seat needs: a slice of numbers of two words that is handed in. Conditions: those written at each fact.
-/
import Derived.Test.YtinppckjolkhpaaDoorRow
import Derived.Test.YtinppckjolkhpaaDoorTotA
import Derived.Deep.SlicePairs
import Derived.Deep.Fields
import Derived.ChangeSlices
import Derived.Carry
namespace Go.Proofs.YtinppckjolkhpaaDoor
open Go.ChangeShapes Go.WideShapes Go.ChangeAt Go.RowKit Go.Joins Go.Deep

set_option maxRecDepth 100000 in
theorem laidOut : laidOutB Tryd.prog = true := by kernel_rfl
section
variable {H : Type} {enc : TypeId × Value → H} {W W' w : World}
theorem trodAll_stays (hb : Below W.heap.size W W') : ∀ {ts : List TypeId} {vs : List Value} {ds : List (DataW H)} {ps : List MemPlace}, (∀ t ∈ ts, Tryd.prog.readableRec t = true ∧ t < Tryd.prog.types.size) →
    DataW.TrodAll enc Tryd.prog W 0 (fun _ => true) true ts vs ds ps → (∀ x ∈ ps, x.block < W.heap.size) → ∀ sp : Nat → Bool, (∀ x ∈ ps, sp x.block = true) → DataW.TrodAll enc Tryd.prog W' 0 sp true ts vs ds ps
  | [], [], [], _, _, h, _, _, _ => h
  | [], _ :: _, _, _, _, h, _, _, _ => h.elim
  | [], [], _ :: _, _, _, h, _, _, _ => h.elim
  | _ :: _, [], _, _, _, h, _, _, _ => h.elim
  | _ :: _, _ :: _, [], _, _, h, _, _, _ => h.elim
  | t :: ts, v :: vs, d :: ds, ps, hr, h, hlt, sp, hsp => by
    obtain ⟨p, p', h1, h2, rfl⟩ := h
    exact ⟨p, p', WideElems.Trod_stays laidOut (hr t (List.mem_cons_self ..)).1 (hr t (List.mem_cons_self ..)).2 h1 (fun x hx => hb.same (hlt x (List.mem_append_left _ hx))) (fun x hx => hsp x (List.mem_append_left _ hx)),
      trodAll_stays hb (fun t' ht' => hr t' (List.mem_cons_of_mem _ ht')) h2 (fun x hx => hlt x (List.mem_append_right _ hx)) sp (fun x hx => hsp x (List.mem_append_right _ hx)), rfl⟩
set_option maxRecDepth 100000 in
/-- A slice of numbers of two words, handed in, reads. -/
theorem open_wides {r : Reach} {b0 : Nat} {v : Value} {d : DataW H} {p : List MemPlace}
    (hv : Value.okWide Tryd.prog w r b0 54 v) (h : DataW.Trod enc Tryd.prog w 0 (fun _ => true) true 54 v d p) (hlt : ∀ x ∈ p, x.block < w.heap.size) :
    ∃ (l : List (Int × Int)) (A : Option Addr) (c : Nat), v = .slice A l.length c ∧ ReadsW w v l ∧ l.length ≤ 9223372036854775807 ∧ l.length ≤ c ∧ (A = none → c = 0) ∧ ∀ x ∈ l, I64 x.1 ∧ U64 x.2 := by
  obtain ⟨a0, len, cap, rfl⟩ := okWide_slice Tryd.underlying54 hv
  obtain ⟨fuel, hf⟩ := h
  rcases open_slice_pairs Tryd.underlying54 Tryd.underlying24 cellsWide rfl rfl (by kernel_rfl) (by kernel_rfl) hf with ⟨hcs, hx⟩ | ⟨a, len', cap', m, n, V0, V1, D0, D1, P0, P1, hcs, _, hl, hm, hmm, hx, hi⟩
  · simp [Value.cells] at hcs
    obtain ⟨rfl, rfl, rfl⟩ := hcs
    exact ⟨[], none, 0, rfl, ⟨none, 0, rfl, fun i s h => by simp at h⟩, by simp, by simp, fun _ => rfl, fun s hs => by simp at hs⟩
  · simp [Value.cells] at hcs
    obtain ⟨rfl, rfl, rfl⟩ := hcs
    simp only [if_true] at hmm
    subst hmm
    simp only [Prod.mk.injEq] at hx
    obtain ⟨rfl, rfl⟩ := hx
    have each : ∀ i, ∃ s : Int × Int, i < m → w.cell? (a.add (i * 2)) = some (.int .i64 s.1) ∧ w.cell? (a.add (i * 2 + 1)) = some (.int .u64 s.2) ∧ (Lit.int .i64 s.1).wf = true ∧ (Lit.int .u64 s.2).wf = true := by
      intro i
      by_cases g : i < m
      · obtain ⟨c0, c1, t0, t1⟩ := hi i g
        obtain ⟨x, e0, _, wx⟩ := DataW.trod_int Tryd.underlying2 t0
        obtain ⟨y, e1, _, wy⟩ := DataW.trod_int Tryd.underlying22 t1
        simp at e0 e1
        rw [e0] at c0
        rw [e1] at c1
        exact ⟨(x, y), fun _ => ⟨c0, c1, wx, wy⟩⟩
      · exact ⟨(0, 0), fun h => absurd h g⟩
    obtain ⟨S, hS⟩ := Classical.axiomOfChoice each
    have hlen : ((List.range len).map S).length = len := by simp
    refine ⟨(List.range len).map S, some a, _, by rw [hlen], ⟨some a, _, by rw [hlen], fun i s hs => ?_⟩, by rw [hlen]; unfold maxLen at hm; omega, by rw [hlen]; exact hl, (fun h => by cases h), fun s hs => ?_⟩
    · have hil : i < len := by have := (List.getElem?_eq_some_iff.1 hs).1; rw [hlen] at this; exact this
      rw [List.getElem?_map, List.getElem?_range hil] at hs
      injection hs with hs
      subst hs
      obtain ⟨c0, c1, _, _⟩ := hS i (by omega)
      obtain ⟨c00, _, _, _⟩ := hS 0 (by omega)
      have sp : a.spot = none := by simpa [Addr.add] using World.cell?_spot c00
      obtain ⟨b, off, sq⟩ := a
      simp only at sp
      subst sp
      refine ⟨b, off, rfl, hlt (.cell b off) (by refine List.mem_append_left _ ?_; simp only [MemPlace.row, List.mem_map, List.mem_range]; exact ⟨0, by omega, by simp⟩), ?_, ?_⟩
      · by_cases g0 : i = 0
        · subst g0; simpa [Addr.add] using c0
        · have g1 : ¬ i * 2 = 0 := by omega
          simpa [Addr.add, g1] using c0
      · simpa [Addr.add, Nat.add_assoc] using c1
    · obtain ⟨i, hi1, rfl⟩ := List.mem_map.1 hs
      have hil : i < len := List.mem_range.1 hi1
      obtain ⟨_, _, wx, wy⟩ := hS i (by omega)
      exact ⟨i64_wf.1 wx, u64_wf.1 wy⟩
end
end Go.Proofs.YtinppckjolkhpaaDoor
