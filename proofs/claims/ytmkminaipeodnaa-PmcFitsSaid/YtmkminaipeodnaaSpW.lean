/-
  Layer 4: Within, Width, Middle's refusal. Conditions: the ends are of 64 bits.
-/
import Derived.Test.YtmkminaipeodnaaSpC
namespace Go.Proofs.Ytmkminaipeodnaa
open Go.RowKit

/-- A row of two spans, written out. -/
theorem readsS_two {w : World} {t : TypeId} {a b c d : Int} {v : Value} (hv : v = .slice (some ⟨w.heap.size, 0, none⟩) 2 2) : ReadsS (w.alloc (.cells #[.int .i64 a, .int .i64 b, .int .i64 c, .int .i64 d] t)) v [(a, b), (c, d)] := by
  subst hv
  refine ⟨some ⟨w.heap.size, 0, none⟩, 2, rfl, fun i s hi => ⟨w.heap.size, 0, rfl, by simp, ?_⟩⟩
  match i, hi with
  | 0, hi => cases hi; exact ⟨by simp [go_sem], by simp [go_sem]⟩
  | 1, hi => cases hi; exact ⟨by simp [go_sem], by simp [go_sem]⟩
  | n + 2, hi => simp at hi
theorem below_then {w W w' : World} (h : Below w.heap.size w W) (k : Below W.heap.size W w') : Below w.heap.size w w' := under h k
/-- Does a span lie in another one? -/
def withinB (a b c d : Int) : Bool := decide (a ≤ b ∧ c ≤ d ∧ c ≤ a ∧ b ≤ d)
theorem meet_two (a b c d : Int) : (decide ((meetR [(a, b), (c, d)]).2.2 = 0) && (decide ((meetR [(a, b), (c, d)]).1 = a) && decide ((meetR [(a, b), (c, d)]).2.1 = b))) = withinB a b c d := by
  rw [Bool.eq_iff_iff]
  have e : accS max min [(a, b), (c, d)] = (max a c, min b d) := by
    show (max (max a a) c, min (min b b) d) = (max a c, min b d)
    rw [Int.max_self, Int.min_self]
  have m1 : b ≤ d ∧ min b d = b ∨ ¬ b ≤ d ∧ min b d = d := by omega
  have m2 : a ≤ c ∧ max a c = c ∨ ¬ a ≤ c ∧ max a c = a := by omega
  unfold withinB meetR badS
  rw [e]
  clear e
  generalize min b d = m at *
  generalize max a c = q at *
  simp only [if_false, List.any_cons, List.any_nil, Bool.or_false, Bool.or_eq_true, decide_eq_true_eq, Bool.and_eq_true, List.cons_ne_nil]
  by_cases g : b < a ∨ d < c
  · rw [if_pos g]; simp only [show ((140 : Int) = 0) = False by simp, false_and, false_iff]; omega
  · rw [if_neg g]
    by_cases g2 : m < q
    · rw [if_pos g2]; simp only [show ((9 : Int) = 0) = False by simp, false_and, false_iff]; omega
    · rw [if_neg g2]; simp only [true_and]; omega
set_option maxRecDepth 100000 in
set_option maxHeartbeats 400000 in
theorem within_any (a b c d : Int) (w : World) : Calls Try.prog 42 #[spV a b, spV c d] w (Ret w (.bool (withinB a b c d))) := by
  have MT := Lib.hid (fun v W k => meetR_any [(a, b), (c, d)] (by simp) v W k)
  rw [← meet_two]
  generalize meetR [(a, b), (c, d)] = m at *
  obtain ⟨q0, q1, cd⟩ := m
  simp only at MT ⊢
  obtain ⟨R, hR⟩ : ∃ R, R = (decide (cd = 0) && (decide (q0 = a) && decide (q1 = b))) := ⟨_, rfl⟩
  rw [← hR]
  replace hR := Lib.hid hR
  go_enter Try.func42, Try.ntmps42
  go_wp2_with fail
  refine Calls.mono (MT.out _ _ ?_) ?_
  · exact readsS_two (by simp)
  rintro en w1 ⟨rfl, hb1⟩
  have hHeld : Keeps w [(w.heap.size, 0, .int .i64 a), (w.heap.size, 1, .int .i64 b)] w1 := Keeps.next (by refine ⟨by go_grown, ?_⟩; simp [Cells, go_sem]) hb1
  clear hb1
  obtain ⟨⟨kz0, kc0, kf0⟩, ⟨kz1, kc1, kf1⟩, _⟩ := hHeld.2
  go_wp2_with fail
  all_goals
    go_ret
    exact ⟨by rw [hR.out]; simp [*], (hHeld.alloc _).1⟩
end Go.Proofs.Ytmkminaipeodnaa
