/-
 Tools for the walks of this seat: a struct result's cells, stored one behind the other into its block. Conditions: none beyond those written at each fact.
-/
import Derived.Test.YtcfidimnbamnkaaGreatKit
namespace Go.Proofs.YtcfidimnbamnkaaGreat
open Go.RowKit

theorem set2 {W : World} {B : Nat} {u0 u1 a0 a1 : Value} (h0 : W.cell? ⟨B, 0, none⟩ = some a0) (h1 : W.cell? ⟨B, 1, none⟩ = some a1) :
  ((W.setCell ⟨B, 0, none⟩ u0).setCell ⟨B, 1, none⟩ u1).cell? ⟨B, 0, none⟩ = some u0 ∧ ((W.setCell ⟨B, 0, none⟩ u0).setCell ⟨B, 1, none⟩ u1).cell? ⟨B, 1, none⟩ = some u1 := by
 refine ⟨?_, ?_⟩
 ·rw [World.cell?_setCell_other _ _ _ _ (by simp)]; exact World.cell?_setCell_same' _ _ _ (by rw [h0]; rfl)
 ·exact World.cell?_setCell_same' _ _ _ (by rw [World.cell?_setCell_other _ _ _ _ (by simp), h1]; rfl)
theorem set3 {W : World} {B : Nat} {u0 u1 u2 a0 a1 a2 : Value} (h0 : W.cell? ⟨B, 0, none⟩ = some a0) (h1 : W.cell? ⟨B, 1, none⟩ = some a1) (h2 : W.cell? ⟨B, 2, none⟩ = some a2) :
  (((W.setCell ⟨B, 0, none⟩ u0).setCell ⟨B, 1, none⟩ u1).setCell ⟨B, 2, none⟩ u2).cell? ⟨B, 0, none⟩ = some u0 ∧ (((W.setCell ⟨B, 0, none⟩ u0).setCell ⟨B, 1, none⟩ u1).setCell ⟨B, 2, none⟩ u2).cell? ⟨B, 1, none⟩ = some u1 ∧
   (((W.setCell ⟨B, 0, none⟩ u0).setCell ⟨B, 1, none⟩ u1).setCell ⟨B, 2, none⟩ u2).cell? ⟨B, 2, none⟩ = some u2 := by
 obtain ⟨k0, k1⟩ := set2 (u0 := u0) (u1 := u1) h0 h1
 refine ⟨?_, ?_, ?_⟩
 ·rw [World.cell?_setCell_other _ _ _ _ (by simp)]; exact k0
 ·rw [World.cell?_setCell_other _ _ _ _ (by simp)]; exact k1
 ·exact World.cell?_setCell_same' _ _ _ (by rw [World.cell?_setCell_other _ _ _ _ (by simp), World.cell?_setCell_other _ _ _ _ (by simp), h2]; rfl)
theorem set4 {W : World} {B : Nat} {u0 u1 u2 u3 a0 a1 a2 a3 : Value} (h0 : W.cell? ⟨B, 0, none⟩ = some a0) (h1 : W.cell? ⟨B, 1, none⟩ = some a1) (h2 : W.cell? ⟨B, 2, none⟩ = some a2) (h3 : W.cell? ⟨B, 3, none⟩ = some a3) :
  ((((W.setCell ⟨B, 0, none⟩ u0).setCell ⟨B, 1, none⟩ u1).setCell ⟨B, 2, none⟩ u2).setCell ⟨B, 3, none⟩ u3).cell? ⟨B, 0, none⟩ = some u0 ∧ ((((W.setCell ⟨B, 0, none⟩ u0).setCell ⟨B, 1, none⟩ u1).setCell ⟨B, 2, none⟩ u2).setCell ⟨B, 3, none⟩ u3).cell? ⟨B, 1, none⟩ = some u1 ∧
   ((((W.setCell ⟨B, 0, none⟩ u0).setCell ⟨B, 1, none⟩ u1).setCell ⟨B, 2, none⟩ u2).setCell ⟨B, 3, none⟩ u3).cell? ⟨B, 2, none⟩ = some u2 ∧ ((((W.setCell ⟨B, 0, none⟩ u0).setCell ⟨B, 1, none⟩ u1).setCell ⟨B, 2, none⟩ u2).setCell ⟨B, 3, none⟩ u3).cell? ⟨B, 3, none⟩ = some u3 := by
 obtain ⟨k0, k1, k2⟩ := set3 (u0 := u0) (u1 := u1) (u2 := u2) h0 h1 h2
 refine ⟨?_, ?_, ?_, ?_⟩
 ·rw [World.cell?_setCell_other _ _ _ _ (by simp)]; exact k0
 ·rw [World.cell?_setCell_other _ _ _ _ (by simp)]; exact k1
 ·rw [World.cell?_setCell_other _ _ _ _ (by simp)]; exact k2
 ·exact World.cell?_setCell_same' _ _ _ (by rw [World.cell?_setCell_other _ _ _ _ (by simp), World.cell?_setCell_other _ _ _ _ (by simp), World.cell?_setCell_other _ _ _ _ (by simp), h3]; rfl)
theorem off_cell {W : World} {p q : Addr} {u v : Value} (hne : p ≠ q) (h : W.cell? q = some v) : (W.setCell p u).cell? q = some v := (World.cell?_setCell_other _ _ _ _ hne).trans h
theorem run_field {P : Program} (w : World) (t : TypeId) (fields : Array Field) (cs : Array Value) (i : Nat) (f : Field) (v : Value) (h : P.underlying t = some (.struct fields)) (hf : fields[i]? = some f) (ha : (isAgg f.type).run P w = .ok false w)
  (hv : cs[f.offset]? = some v) : (Instr.field t (.agg cs) i).run P w = .ok v w := by
 simp [Instr.field, run_underlying h, hf, asAgg, part, ha, hv, go_sem]
end Go.Proofs.YtcfidimnbamnkaaGreat
