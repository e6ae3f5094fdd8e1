/-
  Layer 7: the runs of times, as the document's answer makes them, one whole run at a time. Conditions: those written at each fact.
-/
import Derived.Test.YtlfjmdfplmdmgaaRfA
import Derived.Test.YtlfjmdfplmdmgaaJnL
namespace Go.Proofs.Ytlfjmdfplmdmgaa
open Go.RowKit

/-- The runs of the first k times. -/
structure OfInv (T : List Int) (P : List Rn) (k : Nat) : Prop where
  rest : restB none 0 P = true
  times : timesR P = T.take k
  fol : ∀ t, T[k]? = some t → followB (lastO none P) ⟨t, 0, 1⟩ = true
theorem OfInv.start (T : List Int) : OfInv T [] 0 := ⟨rfl, rfl, fun _ _ => rfl⟩
theorem rest_pos {P : List Rn} (h : restB none 0 P = true) : ∀ r ∈ P, 1 ≤ r.c := fun r hr =>
  ((okB_facts (l := P) (by unfold okB; rw [h, Bool.and_true]; exact decide_eq_true (List.ne_nil_of_mem hr))).2.1 r hr).1
theorem OfInv.total {T : List Int} {P : List Rn} {k : Nat} (h : OfInv T P k) (hk : k ≤ T.length) : totalR P = k := by
  have e := timesR_length (l := P) (fun r hr => by have := rest_pos h.rest r hr; omega)
  rw [h.times, List.length_take] at e
  omega
theorem OfInv.small {T : List Int} {P : List Rn} {k : Nat} (h : OfInv T P k) (hk : k ≤ T.length) : P.length ≤ k := by
  have e := h.total hk
  have h1 : ∀ l : List Rn, (∀ r ∈ l, 1 ≤ r.c) → (l.length : Int) ≤ totalR l := by
    intro l
    induction l with
    | nil => simp [totalR]
    | cons a l ih =>
      intro hl
      have := ih (fun r hr => hl r (List.mem_cons_of_mem _ hr))
      have := hl a (List.mem_cons_self ..)
      simp only [totalR, List.length_cons]
      omega
  have := h1 P (rest_pos h.rest)
  omega
theorem OfInv.done {T : List Int} {P : List Rn} {k : Nat} (h : OfInv T P k) (hk : k = T.length) (hA : areB T = true) : laidR T = P := by
  have e : timesR P = T := by rw [h.times, hk, List.take_length]
  have hne : P ≠ [] := by
    rintro rfl
    have := ((areB_iff T).1 hA).1
    rw [← e] at this
    simp [timesR] at this
  have ok : okB P = true := by unfold okB; rw [h.rest, Bool.and_true]; exact decide_eq_true hne
  rw [← e]; exact laid_times ok
theorem up_range {T : List Int} (h : Up T) {i : Nat} {a : Int} (hi : T[i]? = some a) : 0 ≤ a ∧ a ≤ 281474976710656 := h.1 a (List.mem_of_getElem? hi)
theorem up_less {T : List Int} (h : Up T) {i j : Nat} {a b : Int} (hi : T[i]? = some a) (hj : T[j]? = some b) (hij : i < j) : a < b := by
  obtain ⟨a1, e1⟩ := List.getElem?_eq_some_iff.1 hi
  obtain ⟨b1, e2⟩ := List.getElem?_eq_some_iff.1 hj
  subst e1 e2
  exact List.pairwise_iff_getElem.1 h.2 i j a1 b1 hij
/-- From place k to place m the times go on by s. -/
def Even (T : List Int) (k m : Nat) (f s : Int) : Prop := ∀ q, k ≤ q → q ≤ m → T[q]? = some (f + ((q - k : Nat) : Int) * s)
theorem even_take {T : List Int} {k m : Nat} {f s : Int} (hq : Even T k m f s) : ∀ n, k + n ≤ m + 1 → T.take (k + n) = T.take k ++ stepsR f s n
  | 0, _ => by simp [stepsR]
  | n + 1, h => by
    obtain ⟨a1, e1⟩ := List.getElem?_eq_some_iff.1 (hq (k + n) (by omega) (by omega))
    rw [← Nat.add_assoc, List.take_succ_eq_append_getElem a1, e1, even_take hq n (by omega), steps_more, List.append_assoc, Nat.add_sub_cancel_left, Int.mul_comm s]
theorem even_two {T : List Int} {k : Nat} {f g : Int} (h1 : T[k]? = some f) (h2 : T[k + 1]? = some g) : Even T k (k + 1) f (g - f) := by
  intro q a b
  rcases Nat.lt_or_ge k q with c | c
  · obtain rfl : q = k + 1 := by omega
    rw [h2, show k + 1 - k = 1 by omega]
    congr 1
    simp only [Int.natCast_one, Int.one_mul]
    omega
  · obtain rfl : q = k := by omega
    rw [h1, Nat.sub_self]
    simp
theorem even_more {T : List Int} {k m : Nat} {f s x y : Int} (h : Even T k m f s) (hkm : k ≤ m) (hx : T[m]? = some x) (hy : T[m + 1]? = some y) (e : y - x = s) : Even T k (m + 1) f s := by
  intro q a b
  rcases Nat.lt_or_ge m q with c | c
  · obtain rfl : q = m + 1 := by omega
    have := h m hkm (Nat.le_refl _)
    rw [hx] at this
    injection this with this
    rw [hy, show m + 1 - k = (m - k) + 1 by omega]
    congr 1
    rw [Int.natCast_add, Int.add_mul]
    simp only [Int.natCast_one, Int.one_mul]
    omega
  · exact h q a c
theorem OfInv.next {T : List Int} {P : List Rn} {k : Nat} (h : OfInv T P k) (hA : areB T = true) {f s : Int} {m : Nat} (hkm : k < m) (hq : Even T k m f s) (hend : ∀ x y, T[m]? = some x → T[m + 1]? = some y → ¬ y - x = s) :
    OfInv T (P ++ [⟨f, s, (m : Int) - k + 1⟩]) (m + 1) := by
  obtain ⟨t1, t2, hU⟩ := (areB_iff T).1 hA
  have a0 := hq k (Nat.le_refl _) (by omega)
  have a1 := hq (k + 1) (by omega) (by omega)
  have am := hq m (by omega) (Nat.le_refl _)
  rw [Nat.sub_self] at a0
  rw [show k + 1 - k = 1 by omega] at a1
  simp only [Int.natCast_zero, Int.zero_mul, Int.add_zero] at a0
  simp only [Int.natCast_one, Int.one_mul] at a1
  have hm : m < T.length := (List.getElem?_eq_some_iff.1 am).1
  have r0 := up_range hU a0
  have r1 := up_range hU a1
  have rm := up_range hU am
  have l01 := up_less hU a0 a1 (by omega)
  have tot := h.total (k := k) (by omega)
  have ec : (m : Int) - k + 1 - 1 = ((m - k : Nat) : Int) := by omega
  have ec2 : (m : Int) - k + 1 = ((m - k : Nat) : Int) + 1 := by omega
  refine ⟨?_, ?_, ?_⟩
  · rw [restB_snoc, h.rest, follow_f (b := ⟨f, s, (m : Int) - k + 1⟩) (h.fol f a0) rfl, Bool.true_and, Bool.and_true]
    refine (runB_iff _ _).2 ⟨by simp only; omega, by simp only; omega, r0, ?_⟩
    simp only
    rw [if_neg (by omega), ec]
    exact ⟨by omega, by omega, rm⟩
  · rw [timesR_app, h.times]
    simp only [timesR, List.append_nil]
    rw [show ((m : Int) - k + 1).toNat = m - k + 1 by omega, ← even_take hq (m - k + 1) (by omega), show k + (m - k + 1) = m + 1 by omega]
  · intro t ht
    rw [lastO_snoc]
    have lt := up_less hU am ht (by omega)
    have ne := hend _ _ am ht
    simp only [followB, behindB, Bool.and_eq_true, decide_eq_true_eq]
    refine ⟨by omega, by rw [ec]; exact lt, ?_⟩
    intro e
    apply ne
    rw [ec2, Int.add_mul, Int.one_mul] at e
    omega
theorem OfInv.last {T : List Int} {P : List Rn} {k : Nat} (h : OfInv T P k) (hA : areB T = true) {f : Int} (hf : T[k]? = some f) (hk : k + 1 = T.length) : laidR T = P ++ [⟨f, 0, 1⟩] := by
  obtain ⟨t1, t2, hU⟩ := (areB_iff T).1 hA
  have tot := h.total (k := k) (by omega)
  obtain ⟨a1, e1⟩ := List.getElem?_eq_some_iff.1 hf
  refine OfInv.done (k := k + 1) ⟨?_, ?_, fun t ht => ?_⟩ hk hA
  · rw [restB_snoc, h.rest, h.fol f hf, Bool.true_and, Bool.and_true]
    exact (runB_iff _ _).2 ⟨by simp, by simp only; omega, up_range hU hf, by simp⟩
  · rw [timesR_app, h.times, List.take_succ_eq_append_getElem a1, e1]
    simp [timesR, stepsR]
  · have := (List.getElem?_eq_some_iff.1 ht).1
    omega
end Go.Proofs.Ytlfjmdfplmdmgaa
