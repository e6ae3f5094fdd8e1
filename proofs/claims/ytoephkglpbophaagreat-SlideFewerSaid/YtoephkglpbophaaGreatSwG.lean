/-
  Layer 9: swing: how many bands the first part has. Conditions: those written at each fact.
-/
import Derived.Test.YtoephkglpbophaaGreatSwF
namespace Go.Proofs.YtoephkglpbophaaGreat.P9
open Go.RowKit Go.Shelf Go.Proofs.YtoephkglpbophaaGreat.P8

/-- The door that took all of these. -/
def fD (x : Dr) (l : List Bd) : Dr := l.foldl stepD x
/-- How many bands are taken ahead of the first one that shuts the door. -/
def goS : Dr → List Bd → Nat
  | _, [] => 0
  | x, b :: l => if shutD (stepD x b) then 0 else goS (stepD x b) l + 1
theorem seqD_length : ∀ (l : List Bd) (k : Nat) (x : Dr), (seqD k x l).length = l.length
  | [], _, _ => rfl
  | _ :: l, k, x => by rw [seqD, List.length_cons, seqD_length l, List.length_cons]
theorem seqD_at : ∀ (l : List Bd) (k : Nat) (x : Dr) (i : Nat) (p : Nat × Dr), (seqD k x l)[i]? = some p → i < l.length ∧ p = (k + i + 1, fD x (l.take (i + 1)))
  | [], _, _, i, p, h => by simp [seqD] at h
  | b :: l, k, x, 0, p, h => by
    simp only [seqD, List.getElem?_cons_zero, Option.some.injEq] at h
    subst h
    simp [fD]
  | b :: l, k, x, i + 1, p, h => by
    simp only [seqD, List.getElem?_cons_succ] at h
    obtain ⟨h1, h2⟩ := seqD_at l (k + 1) (stepD x b) i p h
    refine ⟨by simp; omega, ?_⟩
    rw [h2, List.take_succ_cons]
    have e : k + 1 + i + 1 = k + (i + 1) + 1 := by omega
    rw [e]
    rfl
theorem seqD_next {l : List Bd} {x : Dr} {pre : List (Nat × Dr)} {p : Nat × Dr} (h : pre ++ [p] <+: seqD 0 x l) : pre.length < l.length ∧ p = (pre.length + 1, fD x (l.take (pre.length + 1))) := by
  obtain ⟨t, ht⟩ := h
  have := seqD_at l 0 x pre.length p (by rw [← ht]; simp)
  simpa using this
theorem goS_eq : ∀ (l : List Bd) (x : Dr) (n : Nat), n ≤ l.length → (∀ i, i < n → shutD (fD x (l.take (i + 1))) = false) → (n = l.length ∨ shutD (fD x (l.take (n + 1))) = true) → goS x l = n
  | [], x, n, h, _, _ => by simp at h; subst h; rfl
  | b :: l, x, 0, _, _, h => by
    rcases h with h | h
    · simp at h
    · rw [goS, if_pos (by simpa [fD] using h)]
  | b :: l, x, n + 1, h1, h2, h3 => by
    have h0 := h2 0 (by omega)
    rw [goS, if_neg (by simp only [fD, List.take_succ_cons, List.take_zero, List.foldl_cons, List.foldl_nil] at h0; simp [h0])]
    congr 1
    refine goS_eq l (stepD x b) n (by simpa using h1) (fun i hi => ?_) ?_
    · have := h2 (i + 1) (by omega)
      simpa [fD] using this
    · rcases h3 with h3 | h3
      · exact .inl (by simpa using h3)
      · exact .inr (by simpa [fD] using h3)
theorem goS_all {l : List Bd} {x : Dr} (h : ∀ p ∈ seqD 0 x l, shutD p.2 = false) : goS x l = l.length := by
  refine goS_eq l x l.length (Nat.le_refl _) (fun i hi => ?_) (.inl rfl)
  have hi2 : i < (seqD 0 x l).length := by rw [seqD_length]; exact hi
  have he := seqD_at l 0 x i _ (List.getElem?_eq_getElem hi2)
  have := h _ (List.getElem_mem hi2)
  rw [he.2] at this
  exact this
theorem goS_stop {l : List Bd} {x : Dr} {pre : List (Nat × Dr)} {q : Nat × Dr} (h : pre ++ [q] <+: seqD 0 x l) (hp : ∀ p ∈ pre, shutD p.2 = false) (hq : shutD q.2 = true) : goS x l = pre.length := by
  obtain ⟨h1, h2⟩ := seqD_next h
  refine goS_eq l x pre.length (by omega) (fun i hi => ?_) (.inr (by rw [h2] at hq; exact hq))
  obtain ⟨t, ht⟩ := h
  have he := seqD_at l 0 x i pre[i] (by rw [← ht, List.append_assoc, List.getElem?_append_left hi]; exact List.getElem?_eq_getElem hi)
  have := hp _ (List.getElem_mem hi)
  rw [he.2] at this
  exact this
theorem goS_le : ∀ (l : List Bd) (x : Dr), goS x l ≤ l.length
  | [], _ => Nat.le_refl _
  | b :: l, x => by
    rw [goS]
    split
    · simp
    · have := goS_le l (stepD x b); simp; omega
theorem step_own (b : Bd) : stepD (open0 b) b = open0 b := by
  unfold stepD
  rw [if_neg (by simp [open0])]
theorem open_unshut (b : Bd) : shutD (open0 b) = false := by simp [shutD, open0]
theorem open_ok {b : Bd} (h : BdOk b) : DrOk (open0 b) := by
  obtain ⟨h1, h2, h3⟩ := band_ok h
  have hm := mid_in h
  refine ⟨h1, ?_, by simp [open0, slopeB], by simp [open0, slopeB], by simp [open0, lowN, lowD, gcdI], by simp [open0, lowN, lowD, gcdI]⟩
  rw [backB_iff] at *
  simp only [open0]
  omega
theorem goS_one (b : Bd) (l : List Bd) : 1 ≤ goS (open0 b) (b :: l) := by
  rw [goS, step_own, open_unshut, if_neg (by simp)]
  omega
theorem fD_ok : ∀ (l : List Bd) {x : Dr}, DrOk x → (∀ b ∈ l, BdOk b) → DrOk (fD x l)
  | [], _, h, _ => h
  | b :: l, x, h, hR => fD_ok l (x := stepD x b) (step_ok h (hR b (List.mem_cons_self ..))) (fun c hc => hR c (List.mem_cons_of_mem _ hc))
/-- The first part: how many bands it has, and its door. -/
def firN : List Bd → Nat
  | [] => 0
  | b :: l => goS (open0 b) (b :: l)
def firX : List Bd → Dr
  | [] => ⟨0, 0, 0, 0, 0, 0⟩
  | b :: l => fD (open0 b) ((b :: l).take (goS (open0 b) (b :: l)))
end Go.Proofs.YtoephkglpbophaaGreat.P9
