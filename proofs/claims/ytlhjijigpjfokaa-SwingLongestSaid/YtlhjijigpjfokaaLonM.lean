/-
  Layer 9: parts of bands: none could be longer. Conditions: those written at each fact.
-/
import Derived.Test.YtlhjijigpjfokaaFitsL
import Derived.Test.YtlhjijigpjfokaaSwR
namespace Go.Proofs.Ytlhjijigpjfokaa.P9
open Go.RowKit Go.Shelf Go.Proofs.Ytlhjijigpjfokaa.P8

theorem goS_take : ∀ (l : List Bd) (x : Dr) (s : Nat), goS x (l.take s) = min s (goS x l)
  | [], x, s => by simp [goS]
  | b :: l, x, 0 => by simp [goS]
  | b :: l, x, s + 1 => by
    rw [List.take_succ_cons, goS, goS]
    split
    · simp
    · rw [goS_take l (stepD x b) s]
      omega
theorem firN_take {l : List Bd} {s : Nat} (h1 : 1 ≤ s) : firN (l.take s) = min s (firN l) := by
  cases l with
  | nil => simp [firN]
  | cons b t =>
    obtain ⟨s', rfl⟩ : ∃ s', s = s' + 1 := ⟨s - 1, by omega⟩
    have h := goS_take (b :: t) (open0 b) (s' + 1)
    rw [List.take_succ_cons] at h ⊢
    exact h
theorem fit_some {r : List Bd} (hk : okD r = true) {s : Nat} (h1 : 1 ≤ s) (h2 : s ≤ firN r) : fitE (r.take s) = 0 := by
  have hl := (firN_le (okD_ne hk)).2
  have e1 : (r.take s).length = s := by rw [List.length_take]; omega
  have e2 : firN (r.take s) = s := by rw [firN_take h1]; omega
  rw [fitE, okD_take hk h1, e1, e2]
  simp
theorem fit_more {r : List Bd} (hk : okD r = true) (h : firN r < r.length) : fitE (r.take (firN r + 1)) = 4 := by
  have e1 : (r.take (firN r + 1)).length = firN r + 1 := by rw [List.length_take]; omega
  have e2 : firN (r.take (firN r + 1)) = firN r := by rw [firN_take (by omega)]; omega
  rw [fitE, okD_take hk (by omega), e1, e2]
  simp
/-- The line of the first part goes through it. -/
theorem line_thr {r : List Bd} (hk : okD r = true) : thrB (firX r).v 0 (flatN (firX r)) (flatE (firX r)) (r.take (firN r)) = true := by
  obtain ⟨b0, l, rfl⟩ := List.exists_cons_of_ne_nil (okD_ne hk)
  rw [firX_v]
  exact part_thr hk (okD_take hk (firN_le (okD_ne hk)).1)
theorem flatI_at : ∀ (l : List (List Bd × Dr)) (i : Nat) (p : List Bd × Dr), l[i]? = some p → (flatI l)[i]? = some (.int .i64 (p.1.length : Int))
  | [], i, p, h => by simp at h
  | q :: l, 0, p, h => by simp at h; subst h; simp [flatI]
  | q :: l, i + 1, p, h => by simpa [flatI] using flatI_at l i p (by simpa using h)
theorem flatX_at : ∀ (l : List (List Bd × Dr)) (i : Nat) (p : List Bd × Dr), l[i]? = some p → (flatX l)[i * 4]? = some (.int .i64 p.2.v) ∧ (flatX l)[i * 4 + 1]? = some (.int .i64 0) ∧ (flatX l)[i * 4 + 2]? = some (.int .i64 (flatN p.2)) ∧ (flatX l)[i * 4 + 3]? = some (.int .i64 (flatE p.2))
  | [], i, p, h => by simp at h
  | q :: l, 0, p, h => by simp at h; subst h; simp [flatX]
  | q :: l, i + 1, p, h => by
    obtain ⟨h0, h1, h2, h3⟩ := flatX_at l i p (by simpa using h)
    rw [show (i + 1) * 4 = i * 4 + 1 + 1 + 1 + 1 by omega, show i * 4 + 1 + 1 + 1 + 1 + 1 = i * 4 + 1 + 1 + 1 + 1 + 1 by rfl]
    refine ⟨?_, ?_, ?_, ?_⟩
    · simpa [flatX] using h0
    · simpa [flatX] using h1
    · simpa [flatX] using h2
    · simpa [flatX] using h3
theorem flatX_length : ∀ l : List (List Bd × Dr), (flatX l).length = l.length * 4
  | [] => rfl
  | _ :: l => by simp [flatX, flatX_length l]; omega
theorem flatI_length : ∀ l : List (List Bd × Dr), (flatI l).length = l.length
  | [] => rfl
  | _ :: l => by simp [flatI, flatI_length l]
theorem parts_none {l : List Bd} (h : partsS l = []) : l = [] := by
  cases l with
  | nil => rfl
  | cons b l => rw [partsS_next (by simp)] at h; cases h
/-- One round: what is told of the part at hand. -/
theorem part_here {m : List Bd} (hk : okD m = true) {done : List (List Bd × Dr)} {i a : Nat} (hd : done.length = i) (hD : done ++ partsS (m.drop a) = partsS m) (hi : i < (partsS m).length) :
    a < m.length ∧ okD (m.drop a) = true ∧ 1 ≤ firN (m.drop a) ∧ firN (m.drop a) ≤ m.length - a ∧ (partsS m)[i]? = some ((m.drop a).take (firN (m.drop a)), firX (m.drop a)) ∧ ((m.drop a).take (firN (m.drop a))).length = firN (m.drop a) ∧
      (done ++ [((m.drop a).take (firN (m.drop a)), firX (m.drop a))]) ++ partsS (m.drop (a + firN (m.drop a))) = partsS m := by
  have hne : m.drop a ≠ [] := by
    intro e
    rw [e, partsS_nil, List.append_nil] at hD
    rw [← hD] at hi
    omega
  have hlt : a < m.length := by
    by_cases g : a < m.length
    · exact g
    · exact absurd (List.drop_eq_nil_of_le (by omega)) hne
  obtain ⟨h1, h2⟩ := firN_le hne
  rw [List.length_drop] at h2
  rw [partsS_next hne, List.drop_drop] at hD
  refine ⟨hlt, okD_drop hk hlt, h1, h2, ?_, by rw [List.length_take, List.length_drop]; omega, by rw [List.append_assoc]; exact hD⟩
  rw [← hD, List.getElem?_append_right (by omega), hd, Nat.sub_self]
  rfl
end Go.Proofs.Ytlhjijigpjfokaa.P9
