/-
  Tools for walks that store: what cells hold behind a store into one of them. Conditions: those written at each fact.
-/
import Derived.Test.YtgmflnfdmcphnaaGreatKitX
import Derived.Test.YtgmflnfdmcphnaaGreatStruct
namespace Go.Proofs.YtgmflnfdmcphnaaGreat
open Go.RowKit

/-- A statement that neither panics nor leaves. -/
theorem wp_calm {P : Program} {s : Code} {K : Act → World → Prop} {Q' : Exit → Act → World → Prop} {a : Act} {w : World} (h : s.wp P (Exit.then K (fun _ _ _ => False)) a w) : s.wp P (Exit.then K Q') a w := by
  refine wp_mono h ?_
  intro e a' w' hq
  cases e with
  | normal => exact hq
  | exit id => exact hq.elim
  | goto l => exact hq.elim
  | ret => exact hq.elim
  | panic ch => exact hq.elim
  | outgrown => exact hq.elim
theorem wp_calmQ {P : Program} {s : Code} {Q : Exit → Act → World → Prop} {a : Act} {w : World} (h : s.wp P (Exit.then (Q .normal) (fun _ _ _ => False)) a w) : s.wp P Q a w := by
  refine wp_mono h ?_
  intro e a' w' hq
  cases e with
  | normal => exact hq
  | exit id => exact hq.elim
  | goto l => exact hq.elim
  | ret => exact hq.elim
  | panic ch => exact hq.elim
  | outgrown => exact hq.elim
/-- The list of cells behind a store of u at (b, o). -/
def updL (b o : Nat) (u : Value) (L : List (Nat × Nat × Value)) : List (Nat × Nat × Value) := L.map fun q => if q.1 = b ∧ q.2.1 = o then (q.1, q.2.1, u) else q
theorem Cells.upd {b o : Nat} {u a : Value} {W : World} (ha : W.cell? ⟨b, o, none⟩ = some a) : ∀ {L : List (Nat × Nat × Value)}, Cells L W → Cells (updL b o u L) (W.setCell ⟨b, o, none⟩ u)
  | [], _ => trivial
  | (b', o', v) :: L, h => by
    obtain ⟨⟨h1, h2, h3⟩, h4⟩ := h
    have ih := Cells.upd (u := u) ha h4
    have hz : b' < (W.setCell ⟨b, o, none⟩ u).heap.size := by simpa [World.setCell] using h1
    have hf : (W.setCell ⟨b, o, none⟩ u).frozen? ⟨b', o', none⟩ = false := by rw [World.frozen?_setCell]; exact h3
    unfold updL at *
    simp only [List.map_cons]
    by_cases g : b' = b ∧ o' = o
    · rw [if_pos g]
      refine ⟨⟨hz, ?_, hf⟩, ih⟩
      obtain ⟨rfl, rfl⟩ := g
      exact World.cell?_setCell_same' _ _ _ (by rw [ha]; rfl)
    · rw [if_neg g]
      refine ⟨⟨hz, ?_, hf⟩, ih⟩
      exact off_cell (fun e => g (by cases e; exact ⟨rfl, rfl⟩)) h2
theorem Keeps.upd {w W : World} {L : List (Nat × Nat × Value)} {b o : Nat} {a : Value} (h : Keeps w L W) (ha : W.cell? ⟨b, o, none⟩ = some a) (hb : w.heap.size ≤ b) (u : Value) : Keeps w (updL b o u L) (W.setCell ⟨b, o, none⟩ u) :=
  ⟨h.1.setCell (p := ⟨b, o, none⟩) hb u, h.2.upd ha⟩
theorem Keeps.upd2 {w W : World} {L : List (Nat × Nat × Value)} {b o o' : Nat} {a a' : Value} (h : Keeps w L W) (ha : W.cell? ⟨b, o, none⟩ = some a) (ha' : W.cell? ⟨b, o', none⟩ = some a') (hne : o ≠ o') (hb : w.heap.size ≤ b) (u u' : Value) :
    Keeps w (updL b o' u' (updL b o u L)) ((W.setCell ⟨b, o, none⟩ u).setCell ⟨b, o', none⟩ u') :=
  (h.upd ha hb u).upd (off_cell (fun e => by cases e; exact hne rfl) ha') hb u'
/-- .. of the head. -/
theorem Keeps.upd4 {w W : World} {M : List (Nat × Nat × Value)} {b : Nat} {a0 a1 a2 a3 : Value} (h : Keeps w ((b, 0, a0) :: (b, 1, a1) :: (b, 2, a2) :: (b, 3, a3) :: M) W) (hb : w.heap.size ≤ b) (hne : ∀ q ∈ M, q.1 ≠ b) (u0 u1 u2 u3 : Value) :
    Keeps w ((b, 0, u0) :: (b, 1, u1) :: (b, 2, u2) :: (b, 3, u3) :: M) ((((W.setCell ⟨b, 0, none⟩ u0).setCell ⟨b, 1, none⟩ u1).setCell ⟨b, 2, none⟩ u2).setCell ⟨b, 3, none⟩ u3) := by
  obtain ⟨h1, ⟨z0, c0, f0⟩, ⟨z1, c1, f1⟩, ⟨z2, c2, f2⟩, ⟨z3, c3, f3⟩, h2⟩ := h
  obtain ⟨d0, d1, d2, d3⟩ := set4 (u0 := u0) (u1 := u1) (u2 := u2) (u3 := u3) c0 c1 c2 c3
  have hz : b < ((((W.setCell ⟨b, 0, none⟩ u0).setCell ⟨b, 1, none⟩ u1).setCell ⟨b, 2, none⟩ u2).setCell ⟨b, 3, none⟩ u3).heap.size := by simpa [World.setCell] using z0
  exact ⟨(((h1.setCell (p := ⟨b, 0, none⟩) hb _).setCell (p := ⟨b, 1, none⟩) hb _).setCell (p := ⟨b, 2, none⟩) hb _).setCell (p := ⟨b, 3, none⟩) hb _,
    ⟨hz, d0, by simp only [World.frozen?_setCell]; exact f0⟩, ⟨hz, d1, by simp only [World.frozen?_setCell]; exact f1⟩, ⟨hz, d2, by simp only [World.frozen?_setCell]; exact f2⟩, ⟨hz, d3, by simp only [World.frozen?_setCell]; exact f3⟩,
    (((h2.set (p := ⟨b, 0, none⟩) hne _).set (p := ⟨b, 1, none⟩) hne _).set (p := ⟨b, 2, none⟩) hne _).set (p := ⟨b, 3, none⟩) hne _⟩
end Go.Proofs.YtgmflnfdmcphnaaGreat
