/-
  Layer 4: what rows of spans come to: Join, Meet, Least, Most. Conditions: those written at each fact.
-/
import Derived.Test.YtnacdofidmgfmaaSpB
namespace Go.Proofs.Ytnacdofidmgfmaa
open Go.RowKit

/-- What some spans come to. -/
def accS (f g : Int → Int → Int) (l : List (Int × Int)) : Int × Int := match l with | [] => (0, 0) | s :: t => foldS f g s (s :: t)
/-- What is told of them. -/
def resS (f g : Int → Int → Int) (l : List (Int × Int)) : Value :=
  if l = [] then .tuple #[spV 0 0, .int .i64 9] else if badS l then .tuple #[spV 0 0, .int .i64 140] else .tuple #[spV (accS f g l).1 (accS f g l).2, .int .i64 0]
theorem set2a {W : World} {B : Nat} {u0 u1 a0 a1 : Value} {o : Obj} (hB : B < W.heap.size) (h0 : W.cell? ⟨B, 0, none⟩ = some a0) (h1 : W.cell? ⟨B, 1, none⟩ = some a1) :
    (((W.setCell ⟨B, 0, none⟩ u0).setCell ⟨B, 1, none⟩ u1).alloc o).cell? ⟨B, 0, none⟩ = some u0 ∧ (((W.setCell ⟨B, 0, none⟩ u0).setCell ⟨B, 1, none⟩ u1).alloc o).cell? ⟨B, 1, none⟩ = some u1 := by
  obtain ⟨d0, d1⟩ := set2 (u0 := u0) (u1 := u1) h0 h1
  exact ⟨((below_alloc _ o).cell (p := ⟨B, 0, none⟩) (by simpa using hB)).trans d0, ((below_alloc _ o).cell (p := ⟨B, 1, none⟩) (by simpa using hB)).trans d1⟩
theorem resS_form (f g : Int → Int → Int) (l : List (Int × Int)) : ∃ q0 q1 cd, resS f g l = .tuple #[spV q0 q1, .int .i64 cd] := by
  unfold resS
  split
  · exact ⟨_, _, _, rfl⟩
  · split
    · exact ⟨_, _, _, rfl⟩
    · exact ⟨_, _, _, rfl⟩
/-- What Meet tells. -/
def meetR (l : List (Int × Int)) : Int × Int × Int :=
  if l = [] then (0, 0, 9) else if badS l then (0, 0, 140) else if (accS max min l).2 < (accS max min l).1 then (0, 0, 9) else ((accS max min l).1, (accS max min l).2, 0)
end Go.Proofs.Ytnacdofidmgfmaa
