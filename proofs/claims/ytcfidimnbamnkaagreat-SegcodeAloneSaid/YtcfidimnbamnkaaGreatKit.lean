/-
 Tools for the walks of this seat: what a call leaves as it was, the cells of its own that a function keeps, and regions that draw their order. Conditions: none beyond those written at each fact.
-/
import Derived.WalkKit
import Derived.WalkSpells
import Derived.StillTactics
import Derived.Laws.Pointers
import Derived.Deep.RegionHeld3
import Derived.RowKit3
import Derived.Handy
import Derived.Deep.DeepCutAuto
import Derived.Lib.Hide
namespace Go.Proofs.YtcfidimnbamnkaaGreat
open Go.RowKit

def Ret (w : World) (v : Value) (e : Ending) (w' : World) : Prop := e = .returned v ∧ Below w.heap.size w w'

theorem under {w W w' : World} (h : Below w.heap.size w W) (k : Below W.heap.size W w') : Below w.heap.size w w' := h.trans (k.mono h.size)
theorem undrew {B : Nat} {w w' : World} (h : Below B w.drew w') : Below B w w' := ⟨h.os, h.tape, h.output, h.size, h.block⟩
def Cells : List (Nat × Nat × Value) → World → Prop
 | [], _ => True
 | (b, o, v) :: l, w => (b < w.heap.size ∧ w.cell? ⟨b, o, none⟩ = some v ∧ w.frozen? ⟨b, o, none⟩ = false) ∧ Cells l w
def Keeps (w : World) (L : List (Nat × Nat × Value)) (W : World) : Prop := Below w.heap.size w W ∧ Cells L W

theorem Cells.next {L : List (Nat × Nat × Value)} {W w' : World} (h : Cells L W) (hb : Below W.heap.size W w') : Cells L w' := by
 induction L with
 | nil => trivial
 | cons q l ih =>
  obtain ⟨b, o, v⟩ := q
  obtain ⟨⟨h1, h2, h3⟩, h4⟩ := h
  exact ⟨⟨Nat.lt_of_lt_of_le h1 hb.size, (hb.cell (p := ⟨b, o, none⟩) h1).trans h2, (hb.frozen (p := ⟨b, o, none⟩) h1).trans h3⟩, ih h4⟩
theorem Keeps.next {w W w' : World} {L : List (Nat × Nat × Value)} (h : Keeps w L W) (hb : Below W.heap.size W w') : Keeps w L w' := ⟨under h.1 hb, h.2.next hb⟩
theorem below_alloc (W : World) (o : Obj) : Below W.heap.size W (W.alloc o) := (Below.refl _ _).alloc (Nat.le_refl _) o
theorem Cells.alloc {L : List (Nat × Nat × Value)} {W : World} (h : Cells L W) (o : Obj) : Cells L (W.alloc o) := h.next (below_alloc W o)
theorem Keeps.alloc {w W : World} {L : List (Nat × Nat × Value)} (h : Keeps w L W) (o : Obj) : Keeps w L (W.alloc o) := h.next (below_alloc W o)
theorem Cells.drew {L : List (Nat × Nat × Value)} {W : World} (h : Cells L W) : Cells L W.drew := h.next (Below.refl _ _).drew
theorem Keeps.drew {w W : World} {L : List (Nat × Nat × Value)} (h : Keeps w L W) : Keeps w L W.drew := h.next (Below.refl _ _).drew
theorem Cells.set {L : List (Nat × Nat × Value)} {W : World} (h : Cells L W) {p : Addr} (hne : ∀ q ∈ L, q.1 ≠ p.block) (u : Value) : Cells L (W.setCell p u) := by
 induction L with
 | nil => trivial
 | cons q l ih =>
  obtain ⟨b, o, v⟩ := q
  obtain ⟨⟨h1, h2, h3⟩, h4⟩ := h
  have e := Below.heap_setCell W p u b (hne _ (List.mem_cons_self ..))
  exact ⟨⟨by simpa [World.setCell] using h1, (World.cell?_of_block (w := W) e).trans h2, (World.frozen?_of_block (w := W) e).trans h3⟩, ih h4 fun q hq => hne q (List.mem_cons_of_mem _ hq)⟩
theorem Keeps.set {w W : World} {L : List (Nat × Nat × Value)} (h : Keeps w L W) {p : Addr} (hp : w.heap.size ≤ p.block) (hne : ∀ q ∈ L, q.1 ≠ p.block) (u : Value) : Keeps w L (W.setCell p u) :=
 ⟨h.1.setCell hp u, h.2.set hne u⟩
theorem Cells.ne {L : List (Nat × Nat × Value)} {W : World} (h : Cells L W) : ∀ q ∈ L, q.1 ≠ W.heap.size := by
 induction L with
 | nil => intro q hq; cases hq
 | cons q l ih =>
  obtain ⟨⟨h1, _, _⟩, h4⟩ := h
  intro q' hq'
  rcases List.mem_cons.1 hq' with rfl | hq'
  ·exact Nat.ne_of_lt h1
  ·exact ih h4 q' hq'
theorem Cells.app {l m : List (Nat × Nat × Value)} {W : World} (h : Cells l W) (k : Cells m W) : Cells (l ++ m) W := by
 induction l with
 | nil => exact k
 | cons q l ih => exact ⟨h.1, ih h.2⟩
theorem Keeps.app {w W : World} {l m : List (Nat × Nat × Value)} (h : Keeps w l W) (k : Keeps w m W) : Keeps w (l ++ m) W := ⟨h.1, h.2.app k.2⟩
theorem newK2 {w W : World} {L : List (Nat × Nat × Value)} {a b : Value} {t : TypeId} (h : Keeps w L (W.alloc (.cells #[a, b] t))) : Keeps w [(W.heap.size, 0, a), (W.heap.size, 1, b)] (W.alloc (.cells #[a, b] t)) :=
 ⟨h.1, ⟨by simp, by simp [go_sem], by simp [go_sem]⟩, ⟨by simp, by simp [go_sem], by simp [go_sem]⟩, trivial⟩
theorem newK3 {w W : World} {L : List (Nat × Nat × Value)} {a b c : Value} {t : TypeId} (h : Keeps w L (W.alloc (.cells #[a, b, c] t))) : Keeps w [(W.heap.size, 0, a), (W.heap.size, 1, b), (W.heap.size, 2, c)] (W.alloc (.cells #[a, b, c] t)) :=
 ⟨h.1, ⟨by simp, by simp [go_sem], by simp [go_sem]⟩, ⟨by simp, by simp [go_sem], by simp [go_sem]⟩, ⟨by simp, by simp [go_sem], by simp [go_sem]⟩, trivial⟩
theorem Keeps.undrew {w W : World} {L : List (Nat × Nat × Value)} (h : Keeps w L W.drew) : Keeps w [] W := ⟨⟨h.1.os, h.1.tape, h.1.output, h.1.size, h.1.block⟩, trivial⟩
theorem newK2d {w W : World} {L : List (Nat × Nat × Value)} {a b : Value} {t : TypeId} (h : Keeps w L (W.alloc (.cells #[a, b] t)).drew) : Keeps w [(W.heap.size, 0, a), (W.heap.size, 1, b)] (W.alloc (.cells #[a, b] t)).drew :=
 (newK2 h.undrew).drew
theorem region_keeps {P : Program} {ops : Array Oper} {Q : Exit → Act → World → Prop} {id : Nat} {a : Act} {w0 w : World} {L : List (Nat × Nat × Value)} (hm : P.follows .mixedOrders = true)
  (hk : Keeps w0 L w) (h : Keeps w0 L w.drew → wpAnyH P .any ops Q (Keeps w0 L) ops.size (Array.replicate ops.size false) a w.drew) : (Code.region id ops true).wp P Q a w :=
 wp_region_held_drew (S := Keeps w0 L) hm hk.drew h
end Go.Proofs.YtcfidimnbamnkaaGreat
