/-
 Tools for the walks of this seat: slices of numbers that are read, copied and made. Conditions: none beyond those written at each fact.
-/
import Derived.Test.YtcfidimnbamnkaaGreatKit
import Derived.Laws.CopyOwn
import Derived.Laws.MakeOwn
import Derived.RangeFuncRecord
namespace Go.Proofs.YtcfidimnbamnkaaGreat
open Go.RowKit

def Reads (k : IntKind) (w : World) (v : Value) (l : List Int) : Prop :=
 ∃ A c, v = .slice A l.length c ∧ l.length ≤ c ∧ ∀ i z, l[i]? = some z → ∃ b off, A = some ⟨b, off, none⟩ ∧ b < w.heap.size ∧ w.cell? ⟨b, off + i, none⟩ = some (.int k z)
theorem Reads.below {k : IntKind} {w w' : World} {v : Value} {l : List Int} (h : Reads k w v l) (hb : Below w.heap.size w w') : Reads k w' v l := by
 obtain ⟨A, c, e, hc, hk⟩ := h
 refine ⟨A, c, e, hc, fun i z hi => ?_⟩
 obtain ⟨b, off, e1, e2, e3⟩ := hk i z hi
 exact ⟨b, off, e1, Nat.lt_of_lt_of_le e2 hb.size, (hb.cell (by exact e2)).trans e3⟩
theorem Reads.nil {k : IntKind} {w : World} : Reads k w (.slice none 0 0) [] := ⟨none, 0, rfl, Nat.le_refl _, fun i z h => by simp at h⟩
theorem reads_own {k : IntKind} {w : World} {B : Nat} {t : TypeId} {v : Value} {l : List Int} (h : w.ownsRow B t 1 v l.length (l.map (Value.int k))) : Reads k w v l := by
 obtain ⟨hl, h⟩ := h
 rcases h with ⟨rfl, h0⟩ | ⟨g, cap, cur, rfl, _, hg, hn, _, hs, ht⟩
 ·have : l = [] := List.eq_nil_of_length_eq_zero h0
  subst this
  exact Reads.nil
 ·refine ⟨_, _, rfl, hn, fun i z hi => ⟨g, 0, rfl, (Array.getElem?_eq_some_iff.1 hg).1, ?_⟩⟩
  have hi' : i < l.length := (List.getElem?_eq_some_iff.1 hi).1
  have e : cur[i]? = some (.int k z) := by
   have e1 : (cur.toList.take (l.length * 1))[i]? = (l.map (Value.int k))[i]? := by rw [ht]
   rw [List.getElem?_take, if_pos (by omega), List.getElem?_map, hi] at e1
   simpa using e1
  simp [World.cell?, hg, e]
theorem Reads.at {k : IntKind} {w : World} {A : Option Addr} {n c : Nat} {l : List Int} (h : Reads k w (.slice A n c) l) : n = l.length ∧ l.length ≤ c ∧ ∀ i z, l[i]? = some z → ∃ b off, A = some ⟨b, off, none⟩ ∧ b < w.heap.size ∧ w.cell? ⟨b, off + i, none⟩ = some (.int k z) := by
 obtain ⟨A', c', e, hc, hk⟩ := h
 cases e
 exact ⟨rfl, hc, hk⟩

theorem owns_less {w : World} {B B' : Nat} {e : TypeId} {size : Nat} {v : Value} {n : Nat} {xs : List Value} (h : w.ownsRow B e size v n xs) (hB : B' ≤ B) : w.ownsRow B' e size v n xs := by
 obtain ⟨h1, h2⟩ := h
 refine ⟨h1, ?_⟩
 rcases h2 with h2 | ⟨g, cap, cur, e1, e2, e3⟩
 ·exact .inl h2
 ·exact .inr ⟨g, cap, cur, e1, Nat.le_trans hB e2, e3⟩
theorem owns_below {w w' : World} {B : Nat} {e : TypeId} {size : Nat} {v : Value} {n : Nat} {xs : List Value} (h : w.ownsRow B e size v n xs) (hb : Below w.heap.size w w') : w'.ownsRow B e size v n xs := by
 obtain ⟨h1, h2⟩ := h
 refine ⟨h1, ?_⟩
 rcases h2 with h2 | ⟨g, cap, cur, y1, y2, y3, y4⟩
 ·exact .inl h2
 ·exact .inr ⟨g, cap, cur, y1, y2, (hb.block g (Array.getElem?_eq_some_iff.1 y3).1).trans y3, y4⟩
theorem reads_new {k : IntKind} {w : World} {t : TypeId} {l : List Int} (n : Nat) (hn : l.length = n) : Reads k (w.alloc (.cells (l.map (Value.int k)).toArray t)) (.slice (some ⟨w.heap.size, 0, none⟩) n n) l := by
 subst hn
 refine ⟨_, _, rfl, Nat.le_refl _, fun i z hi => ⟨w.heap.size, 0, rfl, by simp, ?_⟩⟩
 have hg := World.alloc_heap_new w (.cells (l.map (Value.int k)).toArray t)
 show (match (w.alloc (Obj.cells (l.map (Value.int k)).toArray t)).heap[w.heap.size]? with | some (.cells c _ _) => c[0 + i]? | _ => none) = _
 rw [hg]
 simp [hi]
theorem reads_one {k : IntKind} {w : World} {t : TypeId} {z : Int} : Reads k (w.alloc (.cells #[.int k z] t)) (.slice (some ⟨w.heap.size, 0, none⟩) 1 1) [z] := reads_new (l := [z]) 1 rfl
theorem reads_two {k : IntKind} {w : World} {t : TypeId} {y z : Int} : Reads k (w.alloc (.cells #[.int k y, .int k z] t)) (.slice (some ⟨w.heap.size, 0, none⟩) 2 2) [y, z] := reads_new (l := [y, z]) 2 rfl
theorem reads_three {k : IntKind} {w : World} {t : TypeId} {x y z : Int} : Reads k (w.alloc (.cells #[.int k x, .int k y, .int k z] t)) (.slice (some ⟨w.heap.size, 0, none⟩) 3 3) [x, y, z] := reads_new (l := [x, y, z]) 3 rfl

section
variable {P : Program}
theorem run_copy_made {k : IntKind} {w : World} (dT sT ty elem : TypeId) (hu : P.underlying dT = some (.slice elem)) (hsz : (P.info? elem).map (·.size) = some 1)
  (g cap : Nat) (l : List Int) (v : Value) (hv : Reads k w v l)
  (cur : Array Value) (hg : w.heap[g]? = some (.cells cur elem (0, 0))) (hcur : cur.size = cap) (hcap : l.length ≤ cap) (hmax : cap ≤ maxLen) (base : Nat) (hB : base ≤ g) :
  ∃ w', (Builtin.copy_ #[dT, sT] ty #[.slice (some ⟨g, 0, none⟩) l.length cap, v]).run P w = .ok (.int .i64 l.length) w' ∧ w.grownBy w' (some g) ∧ w'.ownsRow base elem 1 (.slice (some ⟨g, 0, none⟩) l.length cap) l.length (l.map (Value.int k)) := by
 obtain ⟨A, c, rfl, hc, hk⟩ := hv
 by_cases h0 : l = []
 ·subst h0
  refine ⟨w, run_copy_none (P := P) w dT sT ty elem _ A _ cap _ c hu hsz rfl, ⟨rfl, rfl, rfl, Nat.le_refl _, fun _ _ _ => rfl⟩, rfl, .inr ⟨g, cap, cur, rfl, hB, hg, hcap, hmax, by omega, by simp⟩⟩
 ·obtain ⟨z0, l0, rfl⟩ := List.exists_cons_of_ne_nil h0
  obtain ⟨b, off, rfl, _, _⟩ := hk 0 z0 rfl
  have hlen : ((z0 :: l0).map (Value.int k)).length = (z0 :: l0).length := List.length_map ..
  have key := run_copy_row (P := P) w dT sT ty elem g 0 (z0 :: l0).length cap ⟨b, off, none⟩ (z0 :: l0).length c cur elem ((z0 :: l0).map (Value.int k)) hu hsz hg
   (by rw [hlen]; exact (Nat.min_self _).symm)
   (fun j v hj => by
    rw [List.getElem?_map] at hj
    cases hz : (z0 :: l0)[j]? with
    | none => rw [hz] at hj; cases hj
    | some z =>
     rw [hz] at hj
     obtain ⟨b', off', e1, _, e3⟩ := hk j z hz
     cases e1
     cases hj
     by_cases g0 : j = 0
     ·subst g0; simpa [Addr.add] using e3
     ·simpa [Addr.add, g0] using e3)
   (by rw [hlen]; omega) (fun v hv => by obtain ⟨z, _, rfl⟩ := List.mem_map.1 hv; rfl)
  rw [hlen] at key
  refine ⟨_, key, ⟨rfl, rfl, rfl, by simp [World.setRow], fun j _ hj => setRow_other w g j _ (fun e => hj (by rw [e]))⟩, by rw [hlen]; omega, .inr ⟨g, cap, _, rfl, hB, setRow_heap w g _ _ elem _ hg, hcap, hmax, ?_, ?_⟩⟩
  ·simp at hcap ⊢; omega
  ·simp
end
end Go.Proofs.YtcfidimnbamnkaaGreat
