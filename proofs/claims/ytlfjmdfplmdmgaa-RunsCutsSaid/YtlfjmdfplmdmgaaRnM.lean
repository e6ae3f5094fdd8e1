/-
  Layer 7: runs: tools for the pieces: a row of runs that is copied and trimmed. Conditions: those written at each fact.
-/
import Derived.Test.YtlfjmdfplmdmgaaRnJ
import Derived.Lib.SlBuf
import Derived.Laws.CopyRow
namespace Go.Proofs.Ytlfjmdfplmdmgaa
open Go.RowKit Go.Shelf

theorem run_copy_wide {P : Program} (w : World) (dT sT ty elem : TypeId) (g o dLen dCap : Nat) (a : Addr) (sLen sCap size : Nat) (cur : Array Value) (t : TypeId) (cs : List Value)
    (hu : P.underlying dT = some (.slice elem)) (hs : (P.info? elem).map (·.size) = some size)
    (hg : w.heap[g]? = some (.cells cur t (0, 0))) (hn : Nat.min sLen dLen * size = cs.length)
    (hsrc : ∀ j v, cs[j]? = some v → w.cell? (a.add j) = some v) (hfit : o + cs.length ≤ cur.size) (h1 : ∀ v ∈ cs, v.oneCell' = true) :
    (Builtin.copy_ #[dT, sT] ty #[.slice (some ⟨g, o, none⟩) dLen dCap, .slice (some a) sLen sCap]).run P w =
      .ok (goInt (Nat.min sLen dLen)) (w.setRow g (cur.toList.take o ++ cs ++ cur.toList.drop (o + cs.length)).toArray) := by
  have hl := run_loadCells_list (P := P) w a cs hsrc
  have hst := run_storeCells_at P g o t cs 0 cur w hg (by simpa using hfit) h1
  cases hq : P.info? elem with
  | none => simp [hq] at hs
  | some i =>
    have hi : i.size = size := by simpa [hq] using hs
    simp [Builtin.copy_, run_underlying hu, Builtin.lenOf, Builtin.firstCells, sizeOf, typeInfo, hq, hi, hn, hl, hst]

theorem whereR_lt : ∀ {l : List Rn} {p : Int}, (∀ r ∈ l, 1 ≤ r.c) → 0 ≤ p → p < totalR l → ∃ r, l[(whereR l p).1]? = some r ∧ 0 ≤ (whereR l p).2 ∧ (whereR l p).2 < r.c
  | [], p, _, h0, h1 => by simp only [totalR] at h1; omega
  | r :: l, p, h, h0, h1 => by
    simp only [totalR] at h1
    unfold whereR
    split
    · next e => exact ⟨r, rfl, h0, e⟩
    · next e =>
      obtain ⟨r2, a1, a2, a3⟩ := whereR_lt (l := l) (p := p - r.c) (fun x hx => h x (List.mem_cons_of_mem _ hx)) (by omega) (by omega)
      exact ⟨r2, by simpa using a1, a2, a3⟩
theorem whereR_mono : ∀ {l : List Rn} {p q : Int}, p ≤ q → (whereR l p).1 ≤ (whereR l q).1
  | [], _, _, _ => Nat.le_refl _
  | r :: l, p, q, h => by
    unfold whereR
    split
    · exact Nat.zero_le _
    · rw [if_neg (by omega)]
      exact Nat.succ_le_succ (whereR_mono (l := l) (by omega))

/-- Runs, trimmed at both ends: of the last one q + 1 times are left, of the first one none of the first p. -/
def trimR (m : List Rn) (p q : Int) : List Rn :=
  match (match m[m.length - 1]? with | some r => m.set (m.length - 1) ⟨r.f, r.s, q + 1⟩ | none => m) with
  | [] => []
  | r :: t => ⟨r.f + p * r.s, r.s, r.c - p⟩ :: t
/-- The parts of runs at the places from i to j. -/
def piecesR (l : List Rn) (i j : Int) : List Rn :=
  trimR ((l.drop (whereR l i).1).take ((whereR l (j - 1)).1 + 1 - (whereR l i).1)) (whereR l i).2 (whereR l (j - 1)).2
/-- A row of runs that fills its block. -/
def RowAt (W : World) (g : Nat) (m : List Rn) : Prop := W.heap[g]? = some (.cells (flatR m).toArray 36 (0, 0))
theorem RowAt.cells {W : World} {g : Nat} {m : List Rn} (h : RowAt W g m) {k : Nat} {r : Rn} (hk : m[k]? = some r) :
    g < W.heap.size ∧ W.cell? ⟨g, k * 3, none⟩ = some (.int .i64 r.f) ∧ W.cell? ⟨g, k * 3 + 1, none⟩ = some (.int .i64 r.s) ∧ W.cell? ⟨g, k * 3 + 2, none⟩ = some (.int .i64 r.c) ∧ ∀ j, W.frozen? ⟨g, j, none⟩ = false := by
  obtain ⟨a1, a2, a3⟩ := flatR_at m k r hk
  have e : W.heap[g]? = _ := h
  refine ⟨(Array.getElem?_eq_some_iff.1 e).1, ?_, ?_, ?_, fun j => ?_⟩
  · simp [World.cell?, e]; exact a1
  · simp [World.cell?, e]; exact a2
  · simp [World.cell?, e]; exact a3
  · simp [World.frozen?, e]
theorem flatR_set : ∀ (m : List Rn) (k : Nat) (r : Rn) (x : Int), m[k]? = some r → (flatR m).set (k * 3 + 2) (.int .i64 x) = flatR (m.set k ⟨r.f, r.s, x⟩) ∧ (flatR m).set (k * 3) (.int .i64 x) = flatR (m.set k ⟨x, r.s, r.c⟩)
  | [], k, r, x, h => by simp at h
  | a :: m, 0, r, x, h => by simp at h; subst h; exact ⟨rfl, rfl⟩
  | a :: m, k + 1, r, x, h => by
    obtain ⟨h1, h2⟩ := flatR_set m k r x (by simpa using h)
    rw [show (k + 1) * 3 = k * 3 + 3 by omega]
    simp only [flatR, List.set_cons_succ, show k * 3 + 3 + 2 = (k * 3 + 2) + 3 by omega]
    exact ⟨by rw [h1], by rw [h2]⟩
theorem RowAt.setC {W : World} {g : Nat} {m : List Rn} (h : RowAt W g m) {k : Nat} {r : Rn} (hk : m[k]? = some r) (x : Int) : RowAt (W.setCell ⟨g, k * 3 + 2, none⟩ (.int .i64 x)) g (m.set k ⟨r.f, r.s, x⟩) := by
  have := heap_setCell_same W g (k * 3 + 2) _ _ (.int .i64 x) h
  rw [List.setIfInBounds_toArray, (flatR_set m k r x hk).1] at this
  exact this
theorem RowAt.setF {W : World} {g : Nat} {m : List Rn} (h : RowAt W g m) {k : Nat} {r : Rn} (hk : m[k]? = some r) (x : Int) : RowAt (W.setCell ⟨g, k * 3, none⟩ (.int .i64 x)) g (m.set k ⟨x, r.s, r.c⟩) := by
  have := heap_setCell_same W g (k * 3) _ _ (.int .i64 x) h
  rw [List.setIfInBounds_toArray, (flatR_set m k r x hk).2] at this
  exact this
theorem RowAt.owns {W : World} {g : Nat} {m : List Rn} (h : RowAt W g m) {B : Nat} (hB : B ≤ g) (hm : m.length ≤ maxLen) : W.ownsRow B 36 3 (.slice (some ⟨g, 0, none⟩) m.length m.length) m.length (flatR m) :=
  ⟨flatR_length m, .inr ⟨g, m.length, (flatR m).toArray, rfl, hB, h, Nat.le_refl _, hm, by simp [flatR_length], by rw [← flatR_length]; simp⟩⟩
theorem flatR_one (l : List Rn) : ∀ u ∈ flatR l, u.oneCell' = true := by
  induction l with
  | nil => intro u hu; simp [flatR] at hu
  | cons a l ih =>
    intro u hu
    simp only [flatR, List.mem_cons] at hu
    rcases hu with rfl | rfl | rfl | hu
    · rfl
    · rfl
    · rfl
    · exact ih u hu
/-- The cells of some runs of a row, from one on. -/
theorem reads_flat {W : World} {b off : Nat} : ∀ {m : List Rn}, (∀ i r, m[i]? = some r → W.cell? ⟨b, off + i * 3, none⟩ = some (.int .i64 r.f) ∧ W.cell? ⟨b, off + i * 3 + 1, none⟩ = some (.int .i64 r.s) ∧ W.cell? ⟨b, off + i * 3 + 2, none⟩ = some (.int .i64 r.c)) →
    ∀ (j : Nat) (u : Value), (flatR m)[j]? = some u → W.cell? ((⟨b, off, none⟩ : Addr).add j) = some u := by
  intro m h j u hj
  have hadd : (⟨b, off, none⟩ : Addr).add j = ⟨b, off + j, none⟩ := by unfold Addr.add; split <;> simp_all
  rw [hadd]
  have hlt : j < m.length * 3 := by rw [← flatR_length]; exact (List.getElem?_eq_some_iff.1 hj).1
  obtain ⟨r, hr⟩ : ∃ r, m[j / 3]? = some r := ⟨_, List.getElem?_eq_getElem (by omega)⟩
  obtain ⟨a1, a2, a3⟩ := flatR_at m (j / 3) r hr
  obtain ⟨b1, b2, b3⟩ := h (j / 3) r hr
  have h3 : j % 3 = 0 ∨ j % 3 = 1 ∨ j % 3 = 2 := by omega
  rcases h3 with h3 | h3 | h3
  · rw [show j / 3 * 3 = j by omega] at a1 b1
    rw [b1, ← hj, a1]
  · rw [show j / 3 * 3 + 1 = j by omega] at a2
    rw [show off + j / 3 * 3 + 1 = off + j by omega] at b2
    rw [b2, ← hj, a2]
  · rw [show j / 3 * 3 + 2 = j by omega] at a3
    rw [show off + j / 3 * 3 + 2 = off + j by omega] at b3
    rw [b3, ← hj, a3]
end Go.Proofs.Ytlfjmdfplmdmgaa
