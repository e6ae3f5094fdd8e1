/-
  Layer 8: the laws' helpers: rows of bands. Conditions: those written at each fact.
-/
import Derived.Test.YtmkminaipeodnaaBdK
import Derived.Laws.AppendOwn
namespace Go.Proofs.Ytmkminaipeodnaa.P8
open Go.RowKit Go.Shelf

theorem infoBand : (Try.prog.info? 36).map (fun i => (i.zero, i.size, i.bytes)) = some (some (.agg #[.int .i64 0, .int .i64 0, .int .i64 0]), 3, 24) := by kernel_rfl

/-- The cells of runs. -/
def flatD : List Bd → List Value
  | [] => []
  | r :: l => .int .i64 r.t :: .int .i64 r.lo :: .int .i64 r.hi :: flatD l

theorem flatD_app : ∀ l m : List Bd, flatD (l ++ m) = flatD l ++ flatD m
  | [], _ => rfl
  | s :: l, m => by simp [flatD, flatD_app l m]

theorem flatD_length : ∀ l : List Bd, (flatD l).length = l.length * 3
  | [] => rfl
  | s :: l => by simp [flatD, flatD_length l]; omega

theorem flatD_at : ∀ (l : List Bd) (i : Nat) (r : Bd), l[i]? = some r → (flatD l)[i * 3]? = some (.int .i64 r.t) ∧ (flatD l)[i * 3 + 1]? = some (.int .i64 r.lo) ∧ (flatD l)[i * 3 + 2]? = some (.int .i64 r.hi)
  | [], i, s, h => by simp at h
  | x :: l, 0, s, h => by simp at h; subst h; exact ⟨rfl, rfl, rfl⟩
  | x :: l, i + 1, s, h => by
    have := flatD_at l i s (by simpa using h)
    rw [show (i + 1) * 3 = i * 3 + 3 by omega]
    exact this

theorem flatD_one (l : List Bd) : ∀ u ∈ flatD l, u.oneCell' = true := by
  induction l with
  | nil => intro u hu; simp [flatD] at hu
  | cons a l ih =>
    intro u hu
    simp only [flatD, List.mem_cons] at hu
    rcases hu with rfl | rfl | rfl | hu
    · rfl
    · rfl
    · rfl
    · exact ih u hu

/-- Runs in a row of the call's own read. -/
theorem readsD_own {w : World} {B : Nat} {t : TypeId} {v : Value} {l : List Bd} (h : w.ownsRow B t 3 v l.length (flatD l)) : ReadsD w v l := by
  obtain ⟨hl, h⟩ := h
  rcases h with ⟨rfl, h0⟩ | ⟨g, cap, cur, rfl, hB, hg, hn, _, hs, ht⟩
  · rw [List.eq_nil_of_length_eq_zero h0]
    exact ⟨none, 0, rfl, Nat.le_refl _, fun i r hi => by simp at hi⟩
  · refine ⟨_, _, rfl, hn, fun i r hi => ⟨g, 0, rfl, (Array.getElem?_eq_some_iff.1 hg).1, ?_⟩⟩
    have hi' : i < l.length := (List.getElem?_eq_some_iff.1 hi).1
    obtain ⟨e1, e2, e3⟩ := flatD_at l i r hi
    rw [← ht, List.getElem?_take, if_pos (by omega)] at e1
    rw [← ht, List.getElem?_take, if_pos (by omega)] at e2
    rw [← ht, List.getElem?_take, if_pos (by omega)] at e3
    refine ⟨?_, ?_, ?_⟩
    · simp [World.cell?, hg]; simpa using e1
    · simp [World.cell?, hg]; simpa using e2
    · simp [World.cell?, hg]; simpa using e3

/-- The cells of some runs of a row, from one on. -/
theorem reads_flat {W : World} {b off : Nat} : ∀ {m : List Bd}, (∀ i r, m[i]? = some r → W.cell? ⟨b, off + i * 3, none⟩ = some (.int .i64 r.t) ∧ W.cell? ⟨b, off + i * 3 + 1, none⟩ = some (.int .i64 r.lo) ∧ W.cell? ⟨b, off + i * 3 + 2, none⟩ = some (.int .i64 r.hi)) →
    ∀ (j : Nat) (u : Value), (flatD m)[j]? = some u → W.cell? ((⟨b, off, none⟩ : Addr).add j) = some u := by
  intro m h j u hj
  have hadd : (⟨b, off, none⟩ : Addr).add j = ⟨b, off + j, none⟩ := by unfold Addr.add; split <;> simp_all
  rw [hadd]
  have hlt : j < m.length * 3 := by rw [← flatD_length]; exact (List.getElem?_eq_some_iff.1 hj).1
  obtain ⟨r, hr⟩ : ∃ r, m[j / 3]? = some r := ⟨_, List.getElem?_eq_getElem (by omega)⟩
  obtain ⟨a1, a2, a3⟩ := flatD_at m (j / 3) r hr
  obtain ⟨b1, b2, b3⟩ := h (j / 3) r hr
  have h3 : j % 3 = 0 ∨ j % 3 = 1 ∨ j % 3 = 2 := by omega
  rcases h3 with h3 | h3 | h3
  · rw [show j / 3 * 3 = j by omega] at a1 b1
    rw [b1, ← hj, a1]
  · rw [show j / 3 * 3 + 1 = j by omega] at a2
    rw [show off + j / 3 * 3 + 1 = off + j by omega] at b2
    rw [b2, ← hj, a2]
  · rw [show j / 3 * 3 + 2 = j by omega] at a3
    rw [show off + j / 3 * 3 + 2 = off + j by omega] at b3
    rw [b3, ← hj, a3]

theorem readsD_take {w : World} {A : Option Addr} {c : Nat} {l : List Bd} (h : ReadsD w (.slice A l.length c) l) (m : Nat) (hm : m ≤ l.length) : ReadsD w (.slice A m c) (l.take m) := by
  obtain ⟨A', c', e, hc, hk⟩ := h
  cases e
  refine ⟨A, c, by rw [List.length_take, Nat.min_eq_left hm], by rw [List.length_take, Nat.min_eq_left hm]; omega, fun i r hi => hk i r ?_⟩
  rw [List.getElem?_take] at hi
  split at hi
  · exact hi
  · cases hi

theorem reads_flatD {W : World} {ad : Addr} {n c : Nat} {l : List Bd} (h : ReadsD W (.slice (some ad) n c) l) : ∀ (j : Nat) (u : Value), (flatD l)[j]? = some u → W.cell? (ad.add j) = some u := by
  intro j u hj
  obtain ⟨A', c', e, hc, hk⟩ := h
  cases e
  cases l with
  | nil => simp [flatD] at hj
  | cons r l =>
    obtain ⟨b, off, e1, _⟩ := hk 0 r rfl
    cases e1
    exact reads_flat (fun i r2 hi => by obtain ⟨b', off', e2, _, e3⟩ := hk i r2 hi; cases e2; exact e3) j u hj

/-- A row of runs that fills its block. -/
def RowAt (W : World) (g : Nat) (m : List Bd) : Prop := W.heap[g]? = some (.cells (flatD m).toArray 36 (0, 0))

theorem RowAt.cells {W : World} {g : Nat} {m : List Bd} (h : RowAt W g m) {k : Nat} {r : Bd} (hk : m[k]? = some r) :
    g < W.heap.size ∧ W.cell? ⟨g, k * 3, none⟩ = some (.int .i64 r.t) ∧ W.cell? ⟨g, k * 3 + 1, none⟩ = some (.int .i64 r.lo) ∧ W.cell? ⟨g, k * 3 + 2, none⟩ = some (.int .i64 r.hi) ∧ ∀ j, W.frozen? ⟨g, j, none⟩ = false := by
  obtain ⟨a1, a2, a3⟩ := flatD_at m k r hk
  have e : W.heap[g]? = _ := h
  refine ⟨(Array.getElem?_eq_some_iff.1 e).1, ?_, ?_, ?_, fun j => ?_⟩
  · simp [World.cell?, e]; exact a1
  · simp [World.cell?, e]; exact a2
  · simp [World.cell?, e]; exact a3
  · simp [World.frozen?, e]

/-- Runs that are written out. -/
theorem readsD_new {w : World} {l : List Bd} (n : Nat) (hn : l.length = n) : ReadsD (w.alloc (.cells (flatD l).toArray 36)) (.slice (some ⟨w.heap.size, 0, none⟩) n n) l := by
  subst hn
  refine ⟨_, _, rfl, Nat.le_refl _, fun i r hi => ⟨w.heap.size, 0, rfl, by simp, ?_⟩⟩
  have h : RowAt (w.alloc (.cells (flatD l).toArray 36)) w.heap.size l := World.alloc_heap_new w _
  obtain ⟨_, a1, a2, a3, _⟩ := h.cells hi
  rw [Nat.zero_add]
  exact ⟨a1, a2, a3⟩

theorem new_cells3 {W : World} {a b c : Value} {t : TypeId} {n : Nat} (hn : n = W.heap.size) : ∀ (j : Nat) (u : Value), [a, b, c][j]? = some u → (W.alloc (.cells #[a, b, c] t)).cell? ((⟨n, 0, none⟩ : Addr).add j) = some u := by
  subst hn
  intro j u h
  match j, h with
  | 0, h => cases h; simp [Addr.add, go_sem]
  | 1, h => cases h; simp [Addr.add, go_sem]
  | 2, h => cases h; simp [Addr.add, go_sem]
  | j + 3, h => simp at h

/-- A row of bands of the call's own. -/
def LaidD (w : World) (l : List Bd) (e : Ending) (w' : World) : Prop := ∃ v, e = .returned v ∧ Below w.heap.size w w' ∧ w'.ownsRow w.heap.size 36 3 v l.length (flatD l)
end Go.Proofs.Ytmkminaipeodnaa.P8
