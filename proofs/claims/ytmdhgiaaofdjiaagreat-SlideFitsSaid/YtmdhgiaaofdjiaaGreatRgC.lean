/-
  Tools for ranges over functions whose bodies turn blocks that lay there; rows that grow within them. Conditions: those written at each fact.
-/
import Derived.Test.YtmdhgiaaofdjiaaGreatIter
import Derived.Test.YtmdhgiaaofdjiaaGreatKitX
import Derived.Test.YtmdhgiaaofdjiaaGreatRead
import Derived.Maps.AppendAt
import Derived.Maps.OwnIn
import Derived.Laws.Rows
import Derived.RangeFuncNested
namespace Go.Proofs.YtmdhgiaaofdjiaaGreat.P8
open Go.RowKit Go.Shelf
attribute [local go_sem] Oper.semAt_some

attribute [local go_sem] Oper.semAt_some

/-- Cells lie on, but in the blocks X; and X grows by new blocks alone. -/
def KeepsC (X : World → Nat → Prop) (W W' : World) : Prop :=
  W.heap.size ≤ W'.heap.size ∧ (∀ k, X W' k → X W k ∨ (W.heap.size ≤ k ∧ k < W'.heap.size)) ∧ ∀ (k : Nat) (o : Obj), W.heap[k]? = some o → o.isCells = true → ¬ X W k → W'.heap[k]? = some o

theorem KeepsC.trans {X : World → Nat → Prop} {A B C : World} (h : KeepsC X A B) (k : KeepsC X B C) : KeepsC X A C := by
  refine ⟨Nat.le_trans h.1 k.1, fun j hj => ?_, fun j o ho hc hx => ?_⟩
  · rcases k.2.1 j hj with h1 | h1
    · rcases h.2.1 j h1 with h2 | h2
      · exact .inl h2
      · exact .inr ⟨h2.1, Nat.lt_of_lt_of_le h2.2 k.1⟩
    · exact .inr ⟨Nat.le_trans h.1 h1.1, h1.2⟩
  · refine k.2.2 j o (h.2.2 j o ho hc hx) hc fun hx2 => ?_
    rcases h.2.1 j hx2 with h3 | h3
    · exact hx h3
    · have := (Array.getElem?_eq_some_iff.1 ho).1; omega

/-- X hangs on block b alone. -/
def Hangs (X : World → Nat → Prop) (b : Nat) : Prop := ∀ W W' k, W'.heap[b]? = W.heap[b]? → X W' k → X W k

theorem KeepsC.put {X : World → Nat → Prop} {b : Nat} (hX : Hangs X b) {w : World} (hb : b < w.heap.size) (W : World) (l : Nat) (o o' : Obj) (hl : w.heap.size ≤ l) (h : W.heap[l]? = some o) (hc : o.isCells = false) (_ : o.isWalk = false) : KeepsC X W (W.putObj l o') :=
  ⟨by simp, fun k hk => .inl (hX W _ k (World.putObj_heap_other (by omega)) hk), fun k o2 ho hc2 _ => (World.putObj_heap_other (fun e => by subst e; rw [h] at ho; cases ho; rw [hc] at hc2; cases hc2)).trans ho⟩

attribute [local go_sem] Oper.semAt_some

theorem new_cells1 {W : World} {a : Value} {t : TypeId} {n : Nat} (hn : n = W.heap.size) : ∀ (j : Nat) (u : Value), [a][j]? = some u → (W.alloc (.cells #[a] t)).cell? ((⟨n, 0, none⟩ : Addr).add j) = some u := by
  subst hn
  intro j u h
  match j, h with
  | 0, h => cases h; simp [Addr.add, go_sem]
  | j + 1, h => simp at h

end Go.Proofs.YtmdhgiaaofdjiaaGreat.P8
