/-
 Tools for walks that store: what cells hold behind a store into one of them. Conditions: those written at each fact.
-/
import Derived.Test.YtcfidimnbamnkaaGreatKitX
import Derived.Test.YtcfidimnbamnkaaGreatStruct
namespace Go.Proofs.YtcfidimnbamnkaaGreat
open Go.RowKit

def updL (b o : Nat) (u : Value) (L : List (Nat × Nat × Value)) : List (Nat × Nat × Value) := L.map fun q => if q.1 = b ∧ q.2.1 = o then (q.1, q.2.1, u) else q
theorem Cells.upd {b o : Nat} {u a : Value} {W : World} (ha : W.cell? ⟨b, o, none⟩ = some a) : ∀ {L : List (Nat × Nat × Value)}, Cells L W → Cells (updL b o u L) (W.setCell ⟨b, o, none⟩ u)
 | [], _ => trivial
 | (b', o', v) :: L, h => by
  obtain ⟨⟨h1, h2, h3⟩, h4⟩ := h
  have ih := Cells.upd (u := u) ha h4
  have hz : b' < (W.setCell ⟨b, o, none⟩ u).heap.size := by simpa [World.setCell] using h1
  have hf : (W.setCell ⟨b, o, none⟩ u).frozen? ⟨b', o', none⟩ = false := by rw [World.frozen?_setCell]; exact h3
  unfold updL at *
  simp only [List.map_cons]
  by_cases g : b' = b ∧ o' = o
  ·rw [if_pos g]
   refine ⟨⟨hz, ?_, hf⟩, ih⟩
   obtain ⟨rfl, rfl⟩ := g
   exact World.cell?_setCell_same' _ _ _ (by rw [ha]; rfl)
  ·rw [if_neg g]
   refine ⟨⟨hz, ?_, hf⟩, ih⟩
   exact off_cell (fun e => g (by cases e; exact ⟨rfl, rfl⟩)) h2
theorem Keeps.upd {w W : World} {L : List (Nat × Nat × Value)} {b o : Nat} {a : Value} (h : Keeps w L W) (ha : W.cell? ⟨b, o, none⟩ = some a) (hb : w.heap.size ≤ b) (u : Value) : Keeps w (updL b o u L) (W.setCell ⟨b, o, none⟩ u) :=
 ⟨h.1.setCell (p := ⟨b, o, none⟩) hb u, h.2.upd ha⟩
end Go.Proofs.YtcfidimnbamnkaaGreat
