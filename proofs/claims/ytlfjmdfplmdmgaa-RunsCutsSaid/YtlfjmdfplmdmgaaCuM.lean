/-
  Layer 7: the law RunsCuts holds of every input. Conditions: those of the law's row.
-/
import Derived.Test.YtlfjmdfplmdmgaaPcL
import Derived.Test.YtlfjmdfplmdmgaaRfS
import Derived.Test.YtlfjmdfplmdmgaaBackL
namespace Go.Proofs.Ytlfjmdfplmdmgaa
open Go.RowKit Go.Shelf

theorem reads_mid {w : World} {g N cap I J : Nat} {T : List Int} (hTN : T.length = N) (h : Reads .i64 w (.slice (some ⟨g, 0, none⟩) N cap) T) (h1 : I ≤ J) (h2 : J ≤ N) : Reads .i64 w (.slice (some ⟨g, I, none⟩) (J - I) (cap - I)) ((T.drop I).take (J - I)) := by
  subst hTN
  obtain ⟨A', c', e, hc, hk⟩ := h
  cases e
  have hlen : ((T.drop I).take (J - I)).length = J - I := by rw [List.length_take, List.length_drop]; omega
  refine ⟨some ⟨g, I, none⟩, cap - I, by rw [hlen], by rw [hlen]; omega, fun i z hi => ?_⟩
  have hi' : T[I + i]? = some z := by
    rw [List.getElem?_take] at hi
    split at hi
    · rwa [List.getElem?_drop] at hi
    · cases hi
  obtain ⟨b, off, e1, e2, e3⟩ := hk (I + i) z hi'
  cases e1
  exact ⟨g, I, rfl, e2, by simpa using e3⟩
theorem areB_mid {T : List Int} (h : areB T = true) {I J : Nat} (h1 : I < J) (h2 : J ≤ T.length) : areB ((T.drop I).take (J - I)) = true := by
  obtain ⟨g1, g2, g3⟩ := (areB_iff T).1 h
  have hlen : ((T.drop I).take (J - I)).length = J - I := by rw [List.length_take, List.length_drop]; omega
  exact (areB_iff _).2 ⟨by omega, by omega, (g3.drop I).take (J - I)⟩
theorem first_least {m : List Rn} (h1 : ∀ r ∈ m, 1 ≤ r.c) {y : Rn} (hy : m[0]? = some y) (hU : Up (timesR m)) : ∀ t ∈ timesR m, y.f ≤ t := by
  cases m with
  | nil => simp at hy
  | cons a m =>
    obtain rfl : a = y := by simpa using hy
    have hc : 1 ≤ a.c := h1 a (List.mem_cons_self ..)
    obtain ⟨k, hk⟩ : ∃ k, a.c.toNat = k + 1 := ⟨a.c.toNat - 1, by omega⟩
    intro t ht
    rw [timesR, hk, stepsR, List.cons_append] at ht hU
    rcases List.mem_cons.1 ht with rfl | ht
    · exact Int.le_refl _
    · exact Int.le_of_lt (hU.cons.2.1 t ht)
theorem last_most {l : List Rn} (h1 : ∀ r ∈ l, 1 ≤ r.c) {x : Rn} (hx : l[l.length - 1]? = some x) (hU : Up (timesR l)) : ∀ t ∈ timesR l, t ≤ x.f + (x.c - 1) * x.s := by
  obtain ⟨e, -⟩ := set_last (y := x) hx
  have hc : 1 ≤ x.c := h1 x (List.mem_of_getElem? hx)
  obtain ⟨k, hk⟩ : ∃ k, x.c.toNat = k + 1 := ⟨x.c.toNat - 1, by omega⟩
  have e2 : timesR l = (timesR (l.take (l.length - 1)) ++ stepsR x.f x.s k) ++ [x.f + (x.c - 1) * x.s] := by
    conv => lhs; rw [e, timesR_app]
    simp only [timesR, List.append_nil]
    rw [hk, steps_more2, List.append_assoc, show (k : Int) = x.c - 1 by omega]
  intro t ht
  rw [e2] at ht hU
  rcases List.mem_append.1 ht with ht | ht
  · exact Int.le_of_lt ((List.pairwise_append.1 hU.2).2.2 t ht _ (List.mem_singleton.2 rfl))
  · rcases List.mem_singleton.1 ht with rfl
    exact Int.le_refl _
/-- Times behind times are times where the rows may be joined. -/
theorem join_are {l m : List Rn} (gl : okB l = true) (gm : okB m = true) : areB (timesR l ++ timesR m) = decide (codeJ l m = 0) := by
  obtain ⟨f1, f2, f3, f4⟩ := okB_facts gl
  obtain ⟨e1, e2, e3, e4⟩ := okB_facts gm
  have hl1 : ∀ r ∈ l, 1 ≤ r.c := fun r hr => (f2 r hr).1
  have hm1 : ∀ r ∈ m, 1 ≤ r.c := fun r hr => (e2 r hr).1
  have nl := timesR_length (l := l) (fun r hr => by have := hl1 r hr; omega)
  have nm := timesR_length (l := m) (fun r hr => by have := hm1 r hr; omega)
  obtain ⟨a1, a2, a3⟩ := (areB_iff _).1 (times_are gl)
  obtain ⟨b1, b2, b3⟩ := (areB_iff _).1 (times_are gm)
  have pl := List.length_pos_iff.2 f1
  have pm := List.length_pos_iff.2 e1
  obtain ⟨x, hx⟩ : ∃ s, l[l.length - 1]? = some s := ⟨_, List.getElem?_eq_getElem (by omega)⟩
  obtain ⟨y, hy⟩ : ∃ s, m[0]? = some s := ⟨_, List.getElem?_eq_getElem (by omega)⟩
  have hb : behindL l m = decide (x.f + (x.c - 1) * x.s < y.f) := by unfold behindL; rw [hx, hy]
  have m1 := last_mem hl1 hx
  have m2 := first_mem hm1 hy
  cases g : areB (timesR l ++ timesR m) with
  | true =>
    obtain ⟨g1, g2, g3, g4⟩ := (areB_iff _).1 g
    have lt := (List.pairwise_append.1 g4).2.2 _ m1 _ m2
    rw [List.length_append] at g2
    symm
    refine decide_eq_true ?_
    unfold codeJ
    rw [gl, gm, hb, decide_eq_true lt, decide_eq_true (show totalR l + totalR m ≤ 256 by omega)]
    rfl
  | false =>
    symm
    refine decide_eq_false fun e => ?_
    have e5 : behindL l m = true ∧ totalR l + totalR m ≤ 256 := by
      unfold codeJ at e
      rw [gl, gm] at e
      simp only [Bool.and_self, if_true] at e
      by_cases c : (behindL l m && decide (totalR l + totalR m ≤ 256)) = true
      · simp only [Bool.and_eq_true, decide_eq_true_eq] at c; exact c
      · rw [if_neg c] at e; exact absurd e (by decide)
    rw [hb] at e5
    have lt := of_decide_eq_true e5.1
    have lo := last_most hl1 hx a3
    have hi := first_least hm1 hy b3
    have : areB (timesR l ++ timesR m) = true := (areB_iff _).2 ⟨by rw [List.length_append]; omega, by rw [List.length_append]; omega, fun t ht => by
      rcases List.mem_append.1 ht with ht | ht
      · exact a3.1 t ht
      · exact b3.1 t ht, List.pairwise_append.2 ⟨a3.2, b3.2, fun p hp q hq => by have := lo p hp; have := hi q hq; omega⟩⟩
    rw [g] at this
    cases this

end Go.Proofs.Ytlfjmdfplmdmgaa
