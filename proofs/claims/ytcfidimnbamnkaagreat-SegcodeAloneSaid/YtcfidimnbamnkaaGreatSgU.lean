/-
 What the rows of layer 11 share: segments, and slices of runs, that are handed in. Conditions: those written at each fact.
-/
import Derived.Test.YtcfidimnbamnkaaGreatRowB
import Derived.Test.YtcfidimnbamnkaaGreatSGA
import Derived.Deep.Slices
import Derived.Deep.Fields
namespace Go.Proofs.YtcfidimnbamnkaaGreat.P11
open Go.ChangeShapes Go.WideShapes Go.ChangeAt Go.RowKit Go.Joins Go.Deep Go.Proofs.YtcfidimnbamnkaaGreat.P7

theorem cellsRun : Tryz.prog.cellsOf 44 = 3 := by kernel_rfl
theorem cellsSeg : Tryz.prog.cellsOf 27 = 8 := by kernel_rfl
theorem array8 {α : Type} {cs : Array α} (h : cs.size = 8) : ∃ c0 c1 c2 c3 c4 c5 c6 c7, cs = #[c0, c1, c2, c3, c4, c5, c6, c7] := by
 obtain ⟨l⟩ := cs
 match l, h with
 | [c0, c1, c2, c3, c4, c5, c6, c7], _ => exact ⟨c0, c1, c2, c3, c4, c5, c6, c7, rfl⟩
section
variable {H : Type} {enc : TypeId × Value → H} {w : World}
set_option maxRecDepth 100000 in
theorem run_cells {base n : Nat} {spare : Nat → Bool} {held : Bool} {c0 c1 c2 : Value} {x : DataW H × List MemPlace} (h : DataW.trod enc Tryz.prog w base spare held n 44 [c0, c1, c2] = some x) :
  ∃ f s c : Int, c0 = .int .i64 f ∧ c1 = .int .i64 s ∧ c2 = .int .i64 c := by
 obtain ⟨ys, m, _, _, _, hlen, hg⟩ := DataW.trod_struct Tryz.underlying44 h
 match ys, hlen with
 | [y0, y1, y2], _ =>
  have k0 : DataW.trod enc Tryz.prog w base spare held m 2 [c0] = some y0 := hg 0 _ rfl
  have k1 : DataW.trod enc Tryz.prog w base spare held m 2 [c1] = some y1 := hg 1 _ rfl
  have k2 : DataW.trod enc Tryz.prog w base spare held m 3 [c2] = some y2 := hg 2 _ rfl
  obtain ⟨a, e0, _, _⟩ := DataW.trod_int Tryz.underlying2 k0
  obtain ⟨b, e1, _, _⟩ := DataW.trod_int Tryz.underlying2 k1
  obtain ⟨c, e2, _, _⟩ := DataW.trod_int Tryz.underlying3 k2
  simp at e0 e1 e2
  exact ⟨a, b, c, e0, e1, e2⟩
set_option maxRecDepth 100000 in
theorem runs_cell {fuel : Nat} {v : Value} {x : DataW H × List MemPlace} (hf : DataW.trod enc Tryz.prog w 0 (fun _ => true) true fuel 22 [v] = some x) (hlt : ∀ y ∈ x.2, y.block < w.heap.size) :
  ∃ l : List Rn, ReadsR w v l ∧ l.length ≤ 9223372036854775807 := by
 rcases open_slice Tryz.underlying22 hf with ⟨hcs, hx⟩ | ⟨a, len, cap, m, n, D, Pl, hcs, _, hl, hm, hmm, hx, hi⟩
 ·simp at hcs
  subst hcs
  exact ⟨[], ⟨none, _, rfl, Nat.zero_le _, fun i s h => by simp at h⟩, by simp⟩
 ·simp at hcs
  subst hcs
  simp only [if_true] at hmm
  subst hmm
  rw [cellsRun] at hx hi
  subst hx
  have each : ∀ i, ∃ s : Rn, i < m → w.cell? (a.add (i * 3)) = some (.int .i64 s.f) ∧ w.cell? ((a.add (i * 3)).add 1) = some (.int .i64 s.s) ∧ w.cell? ((a.add (i * 3)).add 2) = some (.int .i64 s.c) := by
   intro i
   by_cases g : i < m
   ·obtain ⟨cs', hc, ht'⟩ := hi i g
    obtain ⟨_, hcl, hat⟩ := World.cells?_some hc
    match cs', hcl with
    | [c0, c1, c2], _ =>
     obtain ⟨x, y, z, rfl, rfl, rfl⟩ := run_cells ht'
     refine ⟨⟨x, y, z⟩, fun _ => ⟨?_, hat 1 (by omega), hat 2 (by omega)⟩⟩
     have := hat 0 (by omega)
     simpa [Addr.add] using this
   ·exact ⟨⟨0, 0, 0⟩, fun h => absurd h g⟩
  obtain ⟨S, hS⟩ := Classical.axiomOfChoice each
  have hlen : ((List.range len).map S).length = len := by simp
  refine ⟨(List.range len).map S, ⟨some a, _, by rw [hlen], by rw [hlen]; omega, fun i s hs => ?_⟩, by rw [hlen]; unfold maxLen at hm; omega⟩
  have hil : i < len := by have := (List.getElem?_eq_some_iff.1 hs).1; rw [hlen] at this; exact this
  rw [List.getElem?_map, List.getElem?_range hil] at hs
  injection hs with hs
  subst hs
  obtain ⟨c0, c1, c2⟩ := hS i (by omega)
  obtain ⟨c00, _⟩ := hS 0 (by omega)
  have sp : a.spot = none := by simpa [Addr.add] using World.cell?_spot c00
  obtain ⟨b, off, sq⟩ := a
  simp only at sp
  subst sp
  refine ⟨b, off, rfl, hlt (.cell b off) (by refine List.mem_append_left _ ?_; simp only [MemPlace.row, List.mem_map, List.mem_range]; exact ⟨0, by omega, by simp⟩), ?_, ?_, ?_⟩
  ·by_cases g0 : i = 0
   ·subst g0; simpa [Addr.add] using c0
   ·have g1 : ¬ i * 3 = 0 := by omega
    simpa [Addr.add, g1] using c0
  ·by_cases g0 : i = 0
   ·subst g0; simpa [Addr.add] using c1
   ·have g1 : ¬ i * 3 = 0 := by omega
    simpa [Addr.add, g1] using c1
  ·by_cases g0 : i = 0
   ·subst g0; simpa [Addr.add] using c2
   ·have g1 : ¬ i * 3 = 0 := by omega
    simpa [Addr.add, g1] using c2
set_option maxRecDepth 100000 in
theorem ints_cell {fuel : Nat} {v : Value} {x : DataW H × List MemPlace} (hf : DataW.trod enc Tryz.prog w 0 (fun _ => true) true fuel 25 [v] = some x) (hlt : ∀ y ∈ x.2, y.block < w.heap.size) :
  ∃ l : List Int, Reads .i64 w v l ∧ l.length ≤ 9223372036854775807 ∧ ∀ z ∈ l, I64 z := by
 rcases open_ints Tryz.underlying25 Tryz.underlying2 (by kernel_rfl) hf with ⟨hcs, hx⟩ | ⟨a, len, cap, zs, hcs, _, hl, hm, hz, hx, hcell, hwz⟩
 ·simp at hcs
  subst hcs
  exact ⟨[], Reads.nil, by simp, by simp⟩
 ·simp at hcs
  subst hcs hx
  simp only [if_true] at hz
  have hlen : (zs.take len).length = len := by rw [List.length_take]; omega
  refine ⟨zs.take len, ⟨some a, cap, by rw [hlen], by rw [hlen]; exact hl, fun i z hi => ?_⟩, by rw [hlen]; unfold maxLen at hm; omega, fun z hz' => i64_wf.1 (hwz z (List.mem_of_mem_take hz'))⟩
  rw [List.getElem?_take] at hi
  split at hi
  ·rename_i hil
   have hi' : i < zs.length := (List.getElem?_eq_some_iff.1 hi).1
   have c0 := hcell 0 (by omega)
   have sp : a.spot = none := by simpa [Addr.add] using World.cell?_spot c0
   have ci := hcell i hi'
   have eg : zs.getD i 0 = z := by simp [List.getD, hi]
   rw [eg] at ci
   obtain ⟨b, off, s⟩ := a
   simp only at sp
   subst sp
   refine ⟨b, off, rfl, hlt (.cell b off) (by simp only [MemPlace.row, List.mem_map, List.mem_range]; exact ⟨0, by omega, by simp⟩), ?_⟩
   by_cases g0 : i = 0
   ·subst g0; simpa [Addr.add] using ci
   ·simpa [Addr.add, g0] using ci
  ·cases hi
structure Fit64 (s : Sg) : Prop where
 k : I64 s.k
 a : I64 s.a
 r : I64 s.r
 n : I64 s.n
 d : I64 s.d
 e : I64 s.e
 V : ∀ z ∈ s.V, I64 z
set_option maxRecDepth 100000 in
theorem open_seg {r : Reach} {b0 : Nat} {v : Value} {d : DataW H} {p : List MemPlace}
  (hv : Value.okWide Tryz.prog w r b0 27 v) (h : DataW.Trod enc Tryz.prog w 0 (fun _ => true) true 27 v d p) (hlt : ∀ x ∈ p, x.block < w.heap.size) :
  ∃ (s : Sg) (rv uv : Value), v = sgOf s rv uv ∧ ReadsR w rv s.R ∧ Reads .i64 w uv s.V ∧ s.R.length ≤ 9223372036854775807 ∧ s.V.length ≤ 9223372036854775807 ∧ Fit64 s := by
 obtain ⟨cs, rfl, hsz⟩ := okWide_struct Tryz.underlying27 hv
 obtain ⟨c0, c1, c2, c3, c4, c5, c6, c7, rfl⟩ := array8 (hsz.trans cellsSeg)
 obtain ⟨fuel, hf⟩ := h
 have hf' : DataW.trod enc Tryz.prog w 0 (fun _ => true) true fuel 27 [c0, c1, c2, c3, c4, c5, c6, c7] = some (d, p) := by simpa [Value.cells] using hf
 obtain ⟨ys, f, _, hx, _, hlen, hg⟩ := DataW.trod_struct Tryz.underlying27 hf'
 match ys, hlen with
 | [y0, y1, y2, y3, y4], _ =>
  have k0 : DataW.trod enc Tryz.prog w 0 (fun _ => true) true f 3 [c0] = some y0 := hg 0 _ rfl
  have k1 : DataW.trod enc Tryz.prog w 0 (fun _ => true) true f 22 [c1] = some y1 := hg 1 _ rfl
  have k2 : DataW.trod enc Tryz.prog w 0 (fun _ => true) true f 24 [c2, c3, c4, c5] = some y2 := hg 2 _ rfl
  have k3 : DataW.trod enc Tryz.prog w 0 (fun _ => true) true f 25 [c6] = some y3 := hg 3 _ rfl
  have k4 : DataW.trod enc Tryz.prog w 0 (fun _ => true) true f 2 [c7] = some y4 := hg 4 _ rfl
  have hp : p = y0.2 ++ (y1.2 ++ (y2.2 ++ (y3.2 ++ (y4.2 ++ [])))) := by
   have := congrArg Prod.snd hx
   simpa using this
  obtain ⟨k, e0, q0, w0⟩ := DataW.trod_int Tryz.underlying3 k0
  obtain ⟨e, e7, q7, w7⟩ := DataW.trod_int Tryz.underlying2 k4
  obtain ⟨zs, f2, _, hx1, _, hlen2, hg2⟩ := DataW.trod_struct Tryz.underlying24 k2
  obtain ⟨R, hR, nR⟩ := runs_cell k1 (fun y hy => hlt y (by rw [hp]; simp [hy]))
  obtain ⟨V, hV, nV, wV⟩ := ints_cell k3 (fun y hy => hlt y (by rw [hp]; simp [hy]))
  match zs, hlen2 with
  | [z0, z1, z2, z3], _ =>
   have j0 : DataW.trod enc Tryz.prog w 0 (fun _ => true) true f2 2 [c2] = some z0 := hg2 0 _ rfl
   have j1 : DataW.trod enc Tryz.prog w 0 (fun _ => true) true f2 2 [c3] = some z1 := hg2 1 _ rfl
   have j2 : DataW.trod enc Tryz.prog w 0 (fun _ => true) true f2 2 [c4] = some z2 := hg2 2 _ rfl
   have j3 : DataW.trod enc Tryz.prog w 0 (fun _ => true) true f2 2 [c5] = some z3 := hg2 3 _ rfl
   obtain ⟨a, e2, _, w2⟩ := DataW.trod_int Tryz.underlying2 j0
   obtain ⟨r1, e3, _, w3⟩ := DataW.trod_int Tryz.underlying2 j1
   obtain ⟨n, e4, _, w4⟩ := DataW.trod_int Tryz.underlying2 j2
   obtain ⟨d1, e5, _, w5⟩ := DataW.trod_int Tryz.underlying2 j3
   simp at e0 e2 e3 e4 e5 e7
   subst e0 e2 e3 e4 e5 e7
   exact ⟨⟨k, R, a, r1, n, d1, V, e⟩, c1, c6, rfl, hR, hV, nR, nV, ⟨i64_wf.1 w0, i64_wf.1 w2, i64_wf.1 w3, i64_wf.1 w4, i64_wf.1 w5, i64_wf.1 w7, wV⟩⟩
end
end Go.Proofs.YtcfidimnbamnkaaGreat.P11
