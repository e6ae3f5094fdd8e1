/-
 Tools for the walks of this seat: slices of numbers that are read, copied and made. Conditions: none beyond those written at each fact.
-/
import Derived.Test.YtcfidimnbamnkaaGreatKit
import Derived.Laws.CopyOwn
import Derived.Laws.MakeOwn
import Derived.RangeFuncRecord
namespace Go.Proofs.YtcfidimnbamnkaaGreat
open Go.RowKit

def Reads (k : IntKind) (w : World) (v : Value) (l : List Int) : Prop :=
 ∃ A c, v = .slice A l.length c ∧ l.length ≤ c ∧ ∀ i z, l[i]? = some z → ∃ b off, A = some ⟨b, off, none⟩ ∧ b < w.heap.size ∧ w.cell? ⟨b, off + i, none⟩ = some (.int k z)
theorem Reads.below {k : IntKind} {w w' : World} {v : Value} {l : List Int} (h : Reads k w v l) (hb : Below w.heap.size w w') : Reads k w' v l := by
 obtain ⟨A, c, e, hc, hk⟩ := h
 refine ⟨A, c, e, hc, fun i z hi => ?_⟩
 obtain ⟨b, off, e1, e2, e3⟩ := hk i z hi
 exact ⟨b, off, e1, Nat.lt_of_lt_of_le e2 hb.size, (hb.cell (by exact e2)).trans e3⟩
theorem Reads.nil {k : IntKind} {w : World} : Reads k w (.slice none 0 0) [] := ⟨none, 0, rfl, Nat.le_refl _, fun i z h => by simp at h⟩
theorem reads_own {k : IntKind} {w : World} {B : Nat} {t : TypeId} {v : Value} {l : List Int} (h : w.ownsRow B t 1 v l.length (l.map (Value.int k))) : Reads k w v l := by
 obtain ⟨hl, h⟩ := h
 rcases h with ⟨rfl, h0⟩ | ⟨g, cap, cur, rfl, _, hg, hn, _, hs, ht⟩
 ·have : l = [] := List.eq_nil_of_length_eq_zero h0
  subst this
  exact Reads.nil
 ·refine ⟨_, _, rfl, hn, fun i z hi => ⟨g, 0, rfl, (Array.getElem?_eq_some_iff.1 hg).1, ?_⟩⟩
  have hi' : i < l.length := (List.getElem?_eq_some_iff.1 hi).1
  have e : cur[i]? = some (.int k z) := by
   have e1 : (cur.toList.take (l.length * 1))[i]? = (l.map (Value.int k))[i]? := by rw [ht]
   rw [List.getElem?_take, if_pos (by omega), List.getElem?_map, hi] at e1
   simpa using e1
  simp [World.cell?, hg, e]
theorem Reads.at {k : IntKind} {w : World} {A : Option Addr} {n c : Nat} {l : List Int} (h : Reads k w (.slice A n c) l) : n = l.length ∧ l.length ≤ c ∧ ∀ i z, l[i]? = some z → ∃ b off, A = some ⟨b, off, none⟩ ∧ b < w.heap.size ∧ w.cell? ⟨b, off + i, none⟩ = some (.int k z) := by
 obtain ⟨A', c', e, hc, hk⟩ := h
 cases e
 exact ⟨rfl, hc, hk⟩

theorem owns_less {w : World} {B B' : Nat} {e : TypeId} {size : Nat} {v : Value} {n : Nat} {xs : List Value} (h : w.ownsRow B e size v n xs) (hB : B' ≤ B) : w.ownsRow B' e size v n xs := by
 obtain ⟨h1, h2⟩ := h
 refine ⟨h1, ?_⟩
 rcases h2 with h2 | ⟨g, cap, cur, e1, e2, e3⟩
 ·exact .inl h2
 ·exact .inr ⟨g, cap, cur, e1, Nat.le_trans hB e2, e3⟩
theorem owns_below {w w' : World} {B : Nat} {e : TypeId} {size : Nat} {v : Value} {n : Nat} {xs : List Value} (h : w.ownsRow B e size v n xs) (hb : Below w.heap.size w w') : w'.ownsRow B e size v n xs := by
 obtain ⟨h1, h2⟩ := h
 refine ⟨h1, ?_⟩
 rcases h2 with h2 | ⟨g, cap, cur, y1, y2, y3, y4⟩
 ·exact .inl h2
 ·exact .inr ⟨g, cap, cur, y1, y2, (hb.block g (Array.getElem?_eq_some_iff.1 y3).1).trans y3, y4⟩
section
variable {P : Program}
end
end Go.Proofs.YtcfidimnbamnkaaGreat
