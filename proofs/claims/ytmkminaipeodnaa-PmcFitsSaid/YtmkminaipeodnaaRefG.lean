/-
  The document's own answers, seventh part: two sizes, multiplied. Conditions: those written at each fact.
-/
import Derived.Test.YtmkminaipeodnaaRefF
import Derived.Laws.AppendOwnNone
namespace Go.Proofs.Ytmkminaipeodnaa
open Go.RowKit

theorem valB_size (x : Nat) : valB (sizeL x) = x := by
  induction x using Nat.strongRecOn with
  | _ x ih =>
    by_cases g : x = 0
    · subst g; rw [sizeL_zero]; rfl
    · rw [sizeL_pos g, valB, ih (x / 2) (by omega)]
      omega
theorem size_digits (x : Nat) : ∀ d ∈ sizeL x, d = 0 ∨ d = 1 := by
  induction x using Nat.strongRecOn with
  | _ x ih =>
    by_cases g : x = 0
    · subst g; rw [sizeL_zero]; simp
    · rw [sizeL_pos g]
      intro d hd
      rcases List.mem_cons.1 hd with e | e
      · omega
      · exact ih (x / 2) (by omega) d e
theorem own_new {w : World} {B : Nat} {t : TypeId} {x : Value} (hB : B ≤ w.heap.size) : (w.alloc (.cells #[x] t)).ownsRow B t 1 (.slice (some ⟨w.heap.size, 0, none⟩) 1 1) 1 [x] :=
  ⟨rfl, Or.inr ⟨w.heap.size, 1, #[x], rfl, hB, heap_alloc_new w _, Nat.le_refl _, by unfold maxLen; omega, rfl, rfl⟩⟩
theorem num_cells {w : World} {ad : Addr} {n c x : Nat} (h : Num w (.slice (some ad) n c) x) : n = (sizeL x).length ∧ ∀ (j : Nat) (u : Value), ((sizeL x).map (Value.int .i64))[j]? = some u → w.cell? (ad.add j) = some u := by
  obtain ⟨A, c', e, _, hk⟩ := h
  injection e with e1 e2 e3
  subst e1 e2 e3
  refine ⟨rfl, fun j u hu => ?_⟩
  have hj : j < (sizeL x).length := by
    rcases Nat.lt_or_ge j (sizeL x).length with g | g
    · exact g
    · rw [List.getElem?_eq_none (by simpa using g)] at hu; cases hu
  obtain ⟨b, off, e1, _, e3⟩ := hk j hj
  injection e1 with e1
  subst e1
  rw [List.getElem?_map, bit_at j x hj] at hu
  injection hu with hu
  have e : (⟨b, off, none⟩ : Addr).add j = ⟨b, off + j, none⟩ := by unfold Addr.add; split <;> simp_all
  rw [e, e3, ← hu]
theorem ints_one {l : List Int} : ∀ u ∈ l.map (Value.int .i64), u.oneCell' = true := by
  intro u hu
  obtain ⟨z, _, rfl⟩ := List.mem_map.1 hu
  rfl
theorem num_nil {w : World} {v : Value} {x : Nat} (h : Num w v x) : v = .slice none 0 0 ∧ sizeL x = [] ∨ ∃ ad n c, v = .slice (some ad) n c := by
  obtain ⟨A, c, rfl, hc, hk⟩ := h
  cases A with
  | none =>
    have hl : (sizeL x).length = 0 := by
      rcases Nat.eq_zero_or_pos (sizeL x).length with e | e
      · exact e
      · obtain ⟨_, _, e1, _⟩ := hk 0 e
        cases e1
    rw [hc.2 rfl, hl]
    exact Or.inl ⟨rfl, List.eq_nil_of_length_eq_zero hl⟩
  | some ad => exact Or.inr ⟨ad, _, c, rfl⟩
theorem times_step (x y s : Nat) : 2 * (y / 2 ^ (s + 1) * x) + y / 2 ^ s % 2 * x = y / 2 ^ s * x := by
  rw [pow_half]
  generalize y / 2 ^ s = Y
  rw [← Nat.mul_assoc, ← Nat.add_mul]
  congr 1
  omega

end Go.Proofs.Ytmkminaipeodnaa
