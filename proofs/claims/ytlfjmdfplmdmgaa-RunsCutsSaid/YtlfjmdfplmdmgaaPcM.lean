/-
  Layer 7: the parts of runs at some places, one run after the other. Conditions: those written at each fact.
-/
import Derived.Test.YtlfjmdfplmdmgaaRfM
namespace Go.Proofs.Ytlfjmdfplmdmgaa
open Go.RowKit

/-- The parts of runs at the places from i to j, one run after the other. -/
def pcsR : List Rn → Int → Int → List Rn
  | [], _, _ => []
  | r :: l, i, j => (if max i 0 < min j r.c then [⟨r.f + max i 0 * r.s, r.s, min j r.c - max i 0⟩] else []) ++ pcsR l (i - r.c) (j - r.c)
def setLast (m : List Rn) (x : Int) : List Rn := match m[m.length - 1]? with | some r => m.set (m.length - 1) ⟨r.f, r.s, x⟩ | none => m
theorem trim_last (m : List Rn) (p q : Int) : trimR m p q = match setLast m (q + 1) with | [] => [] | r :: t => ⟨r.f + p * r.s, r.s, r.c - p⟩ :: t := rfl
theorem last_cons {r : Rn} {m : List Rn} (h : m ≠ []) (x : Int) : setLast (r :: m) x = r :: setLast m x := by
  have hl := List.length_pos_iff.2 h
  obtain ⟨n, hn⟩ : ∃ n, m.length = n + 1 := ⟨m.length - 1, by omega⟩
  unfold setLast
  rw [List.length_cons, Nat.add_sub_cancel, hn, Nat.add_sub_cancel, List.getElem?_cons_succ]
  cases m[n]? with
  | none => rfl
  | some y => rfl
theorem pcs_none : ∀ (l : List Rn) (i j : Int), (∀ r ∈ l, 1 ≤ r.c) → j ≤ 0 → pcsR l i j = []
  | [], _, _, _, _ => rfl
  | r :: l, i, j, h, hj => by
    have h1 := h r (List.mem_cons_self ..)
    rw [pcsR, if_neg (by omega), pcs_none l _ _ (fun x hx => h x (List.mem_cons_of_mem _ hx)) (by omega)]
    rfl
theorem total_pos {l : List Rn} (h : 0 < totalR l) : l ≠ [] := by rintro rfl; simp [totalR] at h
theorem pcs_head : ∀ (l : List Rn) (i j : Int), (∀ r ∈ l, 1 ≤ r.c) → i ≤ 0 → 0 < j → j ≤ totalR l → pcsR l i j = setLast (l.take ((whereR l (j - 1)).1 + 1)) ((whereR l (j - 1)).2 + 1)
  | [], i, j, _, _, h1, h2 => by simp only [totalR] at h2; omega
  | ⟨f, s, c⟩ :: l, i, j, h, hi, h1, h2 => by
    have hc : 1 ≤ c := h _ (List.mem_cons_self ..)
    have h' : ∀ r ∈ l, 1 ≤ r.c := fun x hx => h x (List.mem_cons_of_mem _ hx)
    simp only [totalR] at h2
    rw [pcsR, show max i 0 = 0 by omega]
    simp only
    by_cases g : j ≤ c
    · rw [if_pos (by omega), pcs_none l _ _ h' (by omega), whereR, if_pos (by simp only; omega)]
      simp only [setLast, Nat.zero_add, List.take_succ_cons, List.take_zero, List.length_singleton, Nat.sub_self, List.getElem?_cons_zero, List.set_cons_zero, List.append_nil, List.cons.injEq, Rn.mk.injEq, and_true, true_and]
      omega
    · have hne : l ≠ [] := total_pos (by omega)
      have ht : l.take ((whereR l (j - 1 - c)).1 + 1) ≠ [] := by
        intro e
        have := congrArg List.length e
        have := List.length_pos_iff.2 hne
        rw [List.length_take, List.length_nil] at *
        omega
      have IH := pcs_head l (i - c) (j - c) h' (by omega) (by omega) (by omega)
      rw [show j - c - 1 = j - 1 - c by omega] at IH
      rw [if_pos (by omega), IH, whereR, if_neg (by simp only; omega)]
      simp only [List.take_succ_cons]
      rw [last_cons ht]
      simp only [List.cons_append, List.nil_append, List.cons.injEq, Rn.mk.injEq, and_true, true_and]
      omega
theorem pieces_pcs : ∀ (l : List Rn) (i j : Int), (∀ r ∈ l, 1 ≤ r.c) → 0 ≤ i → i < j → j ≤ totalR l → piecesR l i j = pcsR l i j
  | [], i, j, _, _, h1, h2 => by simp only [totalR] at h2; omega
  | ⟨f, s, c⟩ :: l, i, j, h, hi, h1, h2 => by
    have hc : 1 ≤ c := h _ (List.mem_cons_self ..)
    have h' : ∀ r ∈ l, 1 ≤ r.c := fun x hx => h x (List.mem_cons_of_mem _ hx)
    simp only [totalR] at h2
    have ei : max i 0 = i := by omega
    rw [pcsR, ei]
    simp only
    by_cases g : i < c
    · have wi : whereR (⟨f, s, c⟩ :: l) i = (0, i) := by rw [whereR, if_pos (by simp only; omega)]
      by_cases gj : j ≤ c
      · have wj : whereR (⟨f, s, c⟩ :: l) (j - 1) = (0, j - 1) := by rw [whereR, if_pos (by simp only; omega)]
        rw [if_pos (by omega), pcs_none l _ _ h' (by omega), piecesR, wi, wj, trim_last]
        simp only [setLast, Nat.zero_add, Nat.sub_zero, List.drop_zero, List.take_succ_cons, List.take_zero, List.length_singleton, Nat.sub_self, List.getElem?_cons_zero, List.set_cons_zero, List.append_nil, List.cons.injEq, Rn.mk.injEq, and_true, true_and]
        omega
      · have wj : whereR (⟨f, s, c⟩ :: l) (j - 1) = ((whereR l (j - 1 - c)).1 + 1, (whereR l (j - 1 - c)).2) := by rw [whereR, if_neg (by simp only; omega)]
        have hne : l ≠ [] := total_pos (by omega)
        have ht : l.take ((whereR l (j - 1 - c)).1 + 1) ≠ [] := by
          intro e
          have := congrArg List.length e
          have := List.length_pos_iff.2 hne
          rw [List.length_take, List.length_nil] at *
          omega
        have IH := pcs_head l (i - c) (j - c) h' (by omega) (by omega) (by omega)
        rw [show j - c - 1 = j - 1 - c by omega] at IH
        rw [if_pos (by omega), IH, piecesR, wi, wj, trim_last]
        simp only [Nat.sub_zero, List.drop_zero, List.take_succ_cons]
        rw [last_cons ht]
        simp only [List.cons_append, List.nil_append, List.cons.injEq, Rn.mk.injEq, and_true, true_and]
        omega
    · have wi : whereR (⟨f, s, c⟩ :: l) i = ((whereR l (i - c)).1 + 1, (whereR l (i - c)).2) := by rw [whereR, if_neg (by simp only; omega)]
      have wj : whereR (⟨f, s, c⟩ :: l) (j - 1) = ((whereR l (j - 1 - c)).1 + 1, (whereR l (j - 1 - c)).2) := by rw [whereR, if_neg (by simp only; omega)]
      have IH := pieces_pcs l (i - c) (j - c) h' (by omega) (by omega) (by omega)
      rw [if_neg (by omega), List.nil_append, ← IH, piecesR, piecesR, wi, wj, show j - c - 1 = j - 1 - c by omega]
      simp only [List.drop_succ_cons]
      rw [show (whereR l (j - 1 - c)).1 + 1 + 1 - ((whereR l (i - c)).1 + 1) = (whereR l (j - 1 - c)).1 + 1 - (whereR l (i - c)).1 by omega]
/-- How many of a run's first n times are at the places from i to j, where pl are ahead of it; and the first of them. -/
def cntP (i j pl n : Int) : Int := max (min (j - pl) n - max (i - pl) 0) 0
def frP (f s i j pl n : Int) : Int := if cntP i j pl n = 0 then 0 else f + max (i - pl) 0 * s
theorem cnt_small (i j pl : Int) {n : Int} (h : 0 ≤ n) : 0 ≤ cntP i j pl n ∧ cntP i j pl n ≤ n := by unfold cntP; omega
theorem cnt_zero (i j pl : Int) : cntP i j pl 0 = 0 := by unfold cntP; omega
theorem cnt_in {i j pl n : Int} (h0 : 0 ≤ n) (h1 : i ≤ pl + n) (h2 : pl + n < j) : cntP i j pl (n + 1) = cntP i j pl n + 1 ∧ (cntP i j pl n = 0 → max (i - pl) 0 = n) := by unfold cntP; omega
theorem cnt_out {i j pl n : Int} (h0 : 0 ≤ n) (h1 : pl + n < i ∨ j ≤ pl + n) : cntP i j pl (n + 1) = cntP i j pl n := by unfold cntP; omega
theorem fr_zero (f s i j pl : Int) : frP f s i j pl 0 = 0 := by unfold frP; rw [if_pos (cnt_zero i j pl)]
theorem fr_first {f s i j pl n : Int} (h0 : 0 ≤ n) (h1 : i ≤ pl + n) (h2 : pl + n < j) (hz : cntP i j pl n = 0) : frP f s i j pl (n + 1) = f + n * s := by
  obtain ⟨e1, e2⟩ := cnt_in h0 h1 h2
  unfold frP
  rw [e1, if_neg (by omega), e2 hz]
theorem fr_next {f s i j pl n : Int} (h0 : 0 ≤ n) (h1 : i ≤ pl + n) (h2 : pl + n < j) (hz : ¬ cntP i j pl n = 0) : frP f s i j pl (n + 1) = frP f s i j pl n := by
  obtain ⟨e1, -⟩ := cnt_in h0 h1 h2
  have := (cnt_small i j pl h0).1
  unfold frP
  rw [e1, if_neg (by omega), if_neg hz]
theorem fr_out {f s i j pl n : Int} (h0 : 0 ≤ n) (h1 : pl + n < i ∨ j ≤ pl + n) : frP f s i j pl (n + 1) = frP f s i j pl n := by
  unfold frP; rw [cnt_out h0 h1]
theorem pcs_step {l : List Rn} {k : Nat} {f s c i j p : Int} (hx : l[k]? = some ⟨f, s, c⟩) : pcsR (l.drop k) (i - p) (j - p) = (if 0 < cntP i j p c then [⟨frP f s i j p c, s, cntP i j p c⟩] else []) ++ pcsR (l.drop (k + 1)) (i - (p + c)) (j - (p + c)) := by
  rw [drop_of hx, pcsR]
  simp only
  rw [show i - p - c = i - (p + c) by omega, show j - p - c = j - (p + c) by omega]
  by_cases g : max (i - p) 0 < min (j - p) c
  · have e : cntP i j p c = min (j - p) c - max (i - p) 0 := by unfold cntP; omega
    rw [if_pos g, if_pos (by omega)]
    unfold frP
    rw [if_neg (by omega), e]
  · rw [if_neg g, if_neg (by unfold cntP; omega)]
end Go.Proofs.Ytlfjmdfplmdmgaa
