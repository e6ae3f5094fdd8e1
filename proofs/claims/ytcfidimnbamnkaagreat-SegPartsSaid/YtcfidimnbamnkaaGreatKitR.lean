/-
 Tools for regions that lay blocks of two cells, store into them and call: cells carried on. Conditions: those written at each fact.
-/
import Derived.Test.YtcfidimnbamnkaaGreatStruct
namespace Go.Proofs.YtcfidimnbamnkaaGreat
open Go.RowKit

theorem Keeps.mv2 {w W : World} {L M : List (Nat × Nat × Value)} {B : Nat} {u0 u1 : Value} (h : Keeps w M W) (_ : Keeps w L ((W.setCell ⟨B, 0, none⟩ u0).setCell ⟨B, 1, none⟩ u1)) (hB : w.heap.size ≤ B) (hne : ∀ q ∈ M, q.1 ≠ B) :
  Keeps w M ((W.setCell ⟨B, 0, none⟩ u0).setCell ⟨B, 1, none⟩ u1) := (h.set (p := ⟨B, 0, none⟩) hB hne u0).set (p := ⟨B, 1, none⟩) hB hne u1
theorem Keeps.alloc2 {w W : World} {L M : List (Nat × Nat × Value)} {o : Obj} (h : Keeps w M W) (_ : Keeps w L (W.alloc o)) : Keeps w M (W.alloc o) := h.alloc o
theorem Cells.undrew : ∀ {M : List (Nat × Nat × Value)} {W : World}, Cells M W.drew → Cells M W
 | [], _, _ => trivial
 | (_, _, _) :: _, _, ⟨⟨h1, h2, h3⟩, h4⟩ => ⟨⟨h1, h2, h3⟩, Cells.undrew h4⟩
theorem Keeps.alloc2e {w W : World} {L M : List (Nat × Nat × Value)} {o : Obj} (h : Keeps w M W.drew) (_ : Keeps w L (W.alloc o).drew) : Keeps w M (W.alloc o).drew :=
 (Keeps.alloc (W := W) ⟨⟨h.1.os, h.1.tape, h.1.output, h.1.size, h.1.block⟩, h.2.undrew⟩ o).drew
theorem Keeps.add2 {w W : World} {L : List (Nat × Nat × Value)} {B : Nat} {u0 u1 a0 a1 : Value} (h : Keeps w L ((W.setCell ⟨B, 0, none⟩ u0).setCell ⟨B, 1, none⟩ u1)) (z : B < W.heap.size) (c0 : W.cell? ⟨B, 0, none⟩ = some a0) (f0 : W.frozen? ⟨B, 0, none⟩ = false)
  (c1 : W.cell? ⟨B, 1, none⟩ = some a1) (f1 : W.frozen? ⟨B, 1, none⟩ = false) : Keeps w ((B, 0, u0) :: (B, 1, u1) :: L) ((W.setCell ⟨B, 0, none⟩ u0).setCell ⟨B, 1, none⟩ u1) := by
 obtain ⟨d0, d1⟩ := Go.Proofs.YtcfidimnbamnkaaGreat.set2 (u0 := u0) (u1 := u1) c0 c1
 exact ⟨h.1, ⟨by simpa [World.setCell] using z, d0, by simp only [World.frozen?_setCell]; exact f0⟩, ⟨by simpa [World.setCell] using z, d1, by simp only [World.frozen?_setCell]; exact f1⟩, h.2⟩
end Go.Proofs.YtcfidimnbamnkaaGreat
