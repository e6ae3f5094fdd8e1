/-
 Layer 7: runs: Join, with the error by which it is left. Conditions: those written at each fact.
-/
import Derived.Test.YtcfidimnbamnkaaGreatNC
import Derived.Test.YtcfidimnbamnkaaGreatEq
import Derived.Lib.SliceRun
namespace Go.Proofs.YtcfidimnbamnkaaGreat.P7
open Go.RowKit Go.Shelf

end Go.Proofs.YtcfidimnbamnkaaGreat.P7

/-
 Layer 7: the law's helpers: equal rows, a row of the law's own. Conditions: those written at each fact.
-/
namespace Go.Proofs.YtcfidimnbamnkaaGreat.P7
open Go.RowKit Go.Shelf

theorem readsR_take {w : World} {A : Option Addr} {c : Nat} {l : List Rn} (h : ReadsR w (.slice A l.length c) l) (m : Nat) (hm : m ≤ l.length) : ReadsR w (.slice A m c) (l.take m) := by
 obtain ⟨A', c', e, hc, hk⟩ := h
 cases e
 refine ⟨A, c, by rw [List.length_take, Nat.min_eq_left hm], by rw [List.length_take, Nat.min_eq_left hm]; omega, fun i r hi => hk i r ?_⟩
 rw [List.getElem?_take] at hi
 split at hi
 ·exact hi
 ·cases hi
theorem reads_flatR {W : World} {ad : Addr} {n c : Nat} {l : List Rn} (h : ReadsR W (.slice (some ad) n c) l) : ∀ (j : Nat) (u : Value), (flatR l)[j]? = some u → W.cell? (ad.add j) = some u := by
 intro j u hj
 obtain ⟨A', c', e, hc, hk⟩ := h
 cases e
 cases l with
 | nil => simp [flatR] at hj
 | cons r l =>
  obtain ⟨b, off, e1, _⟩ := hk 0 r rfl
  cases e1
  exact reads_flat (fun i r2 hi => by obtain ⟨b', off', e2, _, e3⟩ := hk i r2 hi; cases e2; exact e3) j u hj
end Go.Proofs.YtcfidimnbamnkaaGreat.P7

/-
 Layer 7: the law's first line: does the layer do anything? Conditions: none.
-/
namespace Go.Proofs.YtcfidimnbamnkaaGreat.P7
open Go.RowKit Go.Shelf

end Go.Proofs.YtcfidimnbamnkaaGreat.P7

/-
 Layer 7: sorted rows, and rows without what stands twice. Conditions: those written at each fact.
-/
namespace Go.Proofs.YtcfidimnbamnkaaGreat.P7
open Go.RowKit Go.Shelf

def Ints (W : World) (g n : Nat) : Prop := g < W.heap.size ∧ ∀ j, j < n → (∃ z, W.cell? ⟨g, j, none⟩ = some (.int .i64 z)) ∧ W.frozen? ⟨g, j, none⟩ = false
theorem Ints.below {W W' : World} {g n : Nat} (h : Ints W g n) (hb : Below W.heap.size W W') : Ints W' g n :=
 ⟨Nat.lt_of_lt_of_le h.1 hb.size, fun j hj => by
  obtain ⟨⟨z, h1⟩, h2⟩ := h.2 j hj
  exact ⟨⟨z, (hb.cell (p := ⟨g, j, none⟩) h.1).trans h1⟩, (hb.frozen (p := ⟨g, j, none⟩) h.1).trans h2⟩⟩
theorem Ints.set {W : World} {g n m : Nat} {x : Int} (h : Ints W g n) : Ints (W.setCell ⟨g, m, none⟩ (.int .i64 x)) g n :=
 ⟨by simpa [World.setCell] using h.1, fun j hj => by
  obtain ⟨⟨z, h1⟩, h2⟩ := h.2 j hj
  refine ⟨?_, by rw [World.frozen?_setCell]; exact h2⟩
  by_cases e : m = j
  ·subst e; exact ⟨x, World.cell?_setCell_same' _ _ _ (by rw [h1]; rfl)⟩
  ·exact ⟨z, (World.cell?_setCell_other _ _ _ _ (by intro e2; cases e2; exact e rfl)).trans h1⟩⟩
end Go.Proofs.YtcfidimnbamnkaaGreat.P7

/-
 Layer 7: the law RunsClipped holds of every input. Conditions: those of the law's row.
-/
namespace Go.Proofs.YtcfidimnbamnkaaGreat.P7
open Go.RowKit Go.Shelf

end Go.Proofs.YtcfidimnbamnkaaGreat.P7

/-
 Layer 7: rows of numbers that are copied; what an asked row tells. Conditions: those written at each fact.
-/
namespace Go.Proofs.YtcfidimnbamnkaaGreat.P7
open Go.RowKit Go.Shelf

theorem reads_takeI {w : World} {A : Option Addr} {c : Nat} {l : List Int} (h : Reads .i64 w (.slice A l.length c) l) (m : Nat) (hm : m ≤ l.length) : Reads .i64 w (.slice A m c) (l.take m) := by
 obtain ⟨A', c', e, hc, hk⟩ := h
 cases e
 refine ⟨A, c, by rw [List.length_take, Nat.min_eq_left hm], by rw [List.length_take, Nat.min_eq_left hm]; omega, fun i r hi => hk i r ?_⟩
 rw [List.getElem?_take] at hi
 split at hi
 ·exact hi
 ·cases hi
theorem reads_addI {w : World} {ad : Addr} {n c : Nat} {l : List Int} (h : Reads .i64 w (.slice (some ad) n c) l) (j : Nat) (u : Value) (hj : (l.map (Value.int .i64))[j]? = some u) : w.cell? (ad.add j) = some u := by
 obtain ⟨A', c', e, hc, hk⟩ := h
 cases e
 rw [List.getElem?_map] at hj
 cases hz : l[j]? with
 | none => rw [hz] at hj; cases hj
 | some z =>
  rw [hz] at hj
  obtain ⟨b, off, e1, _, e3⟩ := hk j z hz
  cases e1
  cases hj
  by_cases g0 : j = 0
  ·subst g0; simpa [Addr.add] using e3
  ·simpa [Addr.add, g0] using e3
theorem ints_one (l : List Int) : ∀ u ∈ l.map (Value.int .i64), u.oneCell' = true := by
 intro u hu; obtain ⟨x, _, rfl⟩ := List.mem_map.1 hu; rfl
end Go.Proofs.YtcfidimnbamnkaaGreat.P7
