/-
  The law WideTotals: rows of numbers of two words. Conditions: those written at each fact.
-/
import Derived.Test.YtinppckjolkhpaaDoorTxt
import Derived.Test.YtinppckjolkhpaaDoorWakes
import Derived.Laws.AppendOwn
import Derived.Laws.OwnMore
import Derived.Lib.SliceRun
namespace Go.Proofs.YtinppckjolkhpaaDoor
open Go.RowKit

/-- The slice v reads as these numbers of two words. -/
def ReadsW (w : World) (v : Value) (l : List (Int × Int)) : Prop :=
  ∃ A c, v = .slice A l.length c ∧ ∀ i s, l[i]? = some s → ∃ b off, A = some ⟨b, off, none⟩ ∧ b < w.heap.size ∧ w.cell? ⟨b, off + i * 2, none⟩ = some (.int .i64 s.1) ∧ w.cell? ⟨b, off + i * 2 + 1, none⟩ = some (.int .u64 s.2)
theorem ReadsW.below {w w' : World} {v : Value} {l : List (Int × Int)} (h : ReadsW w v l) (hb : Below w.heap.size w w') : ReadsW w' v l := by
  obtain ⟨A, c, e, hk⟩ := h
  refine ⟨A, c, e, fun i s hi => ?_⟩
  obtain ⟨b, off, e1, e2, e3, e4⟩ := hk i s hi
  exact ⟨b, off, e1, Nat.lt_of_lt_of_le e2 hb.size, (hb.cell (by exact e2)).trans e3, (hb.cell (by exact e2)).trans e4⟩
def flatW : List (Int × Int) → List Value
  | [] => []
  | s :: l => .int .i64 s.1 :: .int .u64 s.2 :: flatW l
theorem flatW_length : ∀ l : List (Int × Int), (flatW l).length = l.length * 2
  | [] => rfl
  | s :: l => by simp [flatW, flatW_length l]; omega
theorem flatW_at : ∀ (l : List (Int × Int)) (i : Nat) (s : Int × Int), l[i]? = some s → (flatW l)[i * 2]? = some (.int .i64 s.1) ∧ (flatW l)[i * 2 + 1]? = some (.int .u64 s.2)
  | [], i, s, h => by simp at h
  | x :: l, 0, s, h => by simp at h; subst h; exact ⟨rfl, rfl⟩
  | x :: l, i + 1, s, h => by
    have := flatW_at l i s (by simpa using h)
    rw [show (i + 1) * 2 = i * 2 + 2 by omega]
    exact this
theorem flatW_one (l : List (Int × Int)) : ∀ u ∈ flatW l, u.oneCell' = true := by
  induction l with
  | nil => intro u hu; cases hu
  | cons s l ih =>
    intro u hu
    rcases List.mem_cons.1 hu with rfl | hu
    · rfl
    · rcases List.mem_cons.1 hu with rfl | hu
      · rfl
      · exact ih u hu
theorem flatW_inv : ∀ (l : List (Int × Int)) (j : Nat) (u : Value), (flatW l)[j]? = some u → ∃ i s, l[i]? = some s ∧ (j = i * 2 ∧ u = .int .i64 s.1 ∨ j = i * 2 + 1 ∧ u = .int .u64 s.2)
  | [], j, u, h => by simp [flatW] at h
  | s :: l, 0, u, h => ⟨0, s, rfl, .inl ⟨rfl, by simpa [flatW] using h.symm⟩⟩
  | s :: l, 1, u, h => ⟨0, s, rfl, .inr ⟨rfl, by simpa [flatW] using h.symm⟩⟩
  | s :: l, j + 2, u, h => by
    obtain ⟨i, x, h1, h2⟩ := flatW_inv l j u (by simpa [flatW] using h)
    rcases h2 with ⟨rfl, h2⟩ | ⟨rfl, h2⟩
    · exact ⟨i + 1, x, by simpa using h1, .inl ⟨by omega, h2⟩⟩
    · exact ⟨i + 1, x, by simpa using h1, .inr ⟨by omega, h2⟩⟩
theorem reads_flatW {w : World} {ad : Addr} {n c : Nat} {l : List (Int × Int)} (h : ReadsW w (.slice (some ad) n c) l) : ∀ (j : Nat) (u : Value), (flatW l)[j]? = some u → w.cell? (ad.add j) = some u := by
  intro j u hj
  obtain ⟨A, c', e, hk⟩ := h
  injection e with e1 e2 e3
  subst e1
  obtain ⟨i, s, h1, h2⟩ := flatW_inv l j u hj
  obtain ⟨b, off, e4, _, k1, k2⟩ := hk i s h1
  injection e4 with e4
  subst e4
  have ea : ∀ q, (⟨b, off, none⟩ : Addr).add q = ⟨b, off + q, none⟩ := fun q => by unfold Addr.add; split <;> simp_all
  rw [ea]
  rcases h2 with ⟨rfl, rfl⟩ | ⟨rfl, rfl⟩
  · exact k1
  · exact k2
theorem readsW_own {w : World} {B : Nat} {t : TypeId} {v : Value} {l : List (Int × Int)} (h : w.ownsRow B t 2 v l.length (flatW l)) : ReadsW w v l := by
  obtain ⟨hl, h⟩ := h
  rcases h with ⟨rfl, h0⟩ | ⟨g, cap, cur, rfl, _, hg, hn, _, hs, ht⟩
  · have : l = [] := List.eq_nil_of_length_eq_zero h0
    subst this
    exact ⟨none, 0, rfl, fun i s h => by simp at h⟩
  · refine ⟨_, _, rfl, fun i s hi => ⟨g, 0, rfl, (Array.getElem?_eq_some_iff.1 hg).1, ?_⟩⟩
    have hi' : i < l.length := (List.getElem?_eq_some_iff.1 hi).1
    obtain ⟨e1, e2⟩ := flatW_at l i s hi
    rw [← ht, List.getElem?_take, if_pos (by omega)] at e1
    rw [← ht, List.getElem?_take, if_pos (by omega)] at e2
    exact ⟨by simp [World.cell?, hg]; simpa using e1, by simp [World.cell?, hg]; simpa using e2⟩
theorem owns_some {w : World} {B : Nat} {t : TypeId} {s n : Nat} {v : Value} {xs : List Value} (h : w.ownsRow B t s v n xs) (hv : v ≠ .slice none 0 0) : ∃ g cap, v = .slice (some ⟨g, 0, none⟩) n cap ∧ g < w.heap.size := by
  obtain ⟨_, h⟩ := h
  rcases h with ⟨rfl, h0⟩ | ⟨g, cap, cur, rfl, _, hg, _⟩
  · exact absurd rfl hv
  · exact ⟨g, cap, rfl, (Array.getElem?_eq_some_iff.1 hg).1⟩
theorem readsW_take {w : World} {A : Option Addr} {c : Nat} {l : List (Int × Int)} (h : ReadsW w (.slice A l.length c) l) (m : Nat) (hm : m ≤ l.length) : ReadsW w (.slice A m c) (l.take m) := by
  obtain ⟨A', c', e, hk⟩ := h
  injection e with e1 e2 e3
  subst e1 e3
  refine ⟨A, c, by rw [List.length_take, Nat.min_eq_left hm], fun i s hi => ?_⟩
  rw [List.getElem?_take] at hi
  split at hi
  · exact hk i s hi
  · cases hi
theorem infoWide : (Tryd.prog.info? 24).map (fun i => (i.zero, i.size, i.bytes)) = some (some (.agg #[.int .i64 0, .int .u64 0]), 2, 16) := by kernel_rfl
/-- What is added up so far: all of it, or the first that leaves the numbers. -/
def SumI (m : List (Int × Int)) (k : Nat) (over : Bool) (s : Int) : Prop := (over = false ∧ tot 0 m = tot s (m.drop k) ∧ Fits s) ∨ (over = true ∧ tot 0 m = none ∧ ¬ Fits s ∧ s.natAbs < 2 ^ 200)
theorem sumI_next {m : List (Int × Int)} {k : Nat} {s : Int} {x : Int × Int} (h : SumI m k false s) (hx : m[k]? = some x) (i : I64 x.1) (j : U64 x.2) : SumI m (k + 1) (!decide (Fits (s + val x.1 x.2))) (s + val x.1 x.2) := by
  rcases h with ⟨_, h, hf⟩ | ⟨h, _⟩
  · obtain ⟨a1, e1⟩ := List.getElem?_eq_some_iff.1 hx
    rw [List.drop_eq_getElem_cons a1, e1, tot] at h
    by_cases g : Fits (s + val x.1 x.2)
    · rw [if_pos g] at h
      exact Or.inl ⟨by simp [g], h, g⟩
    · rw [if_neg g] at h
      refine Or.inr ⟨by simp [g], h, g, ?_⟩
      have := fits_val i j
      unfold Fits at hf this
      omega
  · cases h
theorem sumI_skip {m : List (Int × Int)} {k : Nat} {s : Int} (h : SumI m k true s) : SumI m (k + 1) true s := by
  rcases h with ⟨h, _⟩ | h
  · cases h
  · exact Or.inr h
theorem sumI_end {m : List (Int × Int)} {o : Bool} {s : Int} (h : SumI m m.length o s) : totV (tot 0 m) = .tuple #[wideV (rhi s) (rlo s), .int .i64 (rcode s)] ∧ s.natAbs < 2 ^ 200 := by
  rcases h with ⟨_, h, hf⟩ | ⟨_, h, hf, hs⟩
  · rw [h, List.drop_length]
    refine ⟨?_, by unfold Fits at hf; omega⟩
    unfold totV rcode
    rw [if_pos hf]
    rfl
  · rw [h]
    refine ⟨?_, hs⟩
    unfold totV rhi rlo rcode
    rw [if_neg hf, if_neg hf, if_neg hf]
    rfl
end Go.Proofs.YtinppckjolkhpaaDoor
