/-
  The walk of the law LineRounds. Conditions: the numbers are of 64 bits.
-/
import Derived.Test.YtldfkfienlcipaaLnW
namespace Go.Proofs.Ytldfkfienlcipaa
open Go.RowKit

set_option maxRecDepth 100000 in
set_option maxHeartbeats 2000000 in
theorem rounds_walk (a r n d t m Q E : Int) (b5 : Bool) (w : World)
    (AT : ∀ W, Calls Try.prog 14 #[lnV a r n d, .int .i64 t] W (Ret W (.tuple #[.int .i64 Q, .int .i64 E])))
    (hE : E = 0 ∨ E = 150 ∨ E = 2 ∨ E = 5) (hb : E = 0 → -2305844108725321728 ≤ Q ∧ Q ≤ 2305844108725321728)
    (W1 : E = 0 → ∀ W, Calls Try.prog 16 #[lnV a r n d, .int .i64 t, .int .i64 Q, .int .i64 (Q + 1)] W (Ret W (.bool true)))
    (W2 : E = 0 → ∀ W, Calls Try.prog 16 #[lnV a r n d, .int .i64 t, .int .i64 (Q + 1), .int .i64 (Q + 1)] W (Ret W (.bool false)))
    (W3 : E = 0 → ∀ W, Calls Try.prog 16 #[lnV a r n d, .int .i64 t, .int .i64 (Q + 1), .int .i64 4611686018427387904] W (Ret W (.bool false)))
    (W4 : E = 0 → ∀ W, Calls Try.prog 16 #[lnV a r n d, .int .i64 t, .int .i64 (-4611686018427387904), .int .i64 (Q - 1)] W (Ret W (.bool false)))
    (W5 : E = 0 → ∀ W, Calls Try.prog 16 #[lnV a r n d, .int .i64 t, .int .i64 m, .int .i64 4611686018427387904] W (Ret W (.bool b5)))
    (h5 : E = 0 → b5 = decide (m ≤ Q)) :
    Calls Try.prog 8 #[lnV a r n d, .int .i64 t, .int .i64 m] w (Ret w (.bool true)) := by
  have WK := Lib.hid (fun W => wakes_any W)
  replace AT := Lib.hid AT
  by_cases e0 : E = 0
  · replace W1 := Lib.hid (W1 e0)
    replace W2 := Lib.hid (W2 e0)
    replace W3 := Lib.hid (W3 e0)
    replace W4 := Lib.hid (W4 e0)
    replace W5 := Lib.hid (W5 e0)
    obtain ⟨p0, p1⟩ := hb e0
    have h6 := h5 e0
    subst e0
    clear hE hb h5
    cases b5
    · have g : decide (Q < m) = true := by have := h6.symm; simp at this; simpa using this
      clear h6
      go_enter Try.func8, Try.ntmps8
      go_wp2_with fail
      refine (WK.out _).mono ?_
      rintro e w1 ⟨rfl, hb⟩
      have hHeld : Keeps w [(w.heap.size, 0, .int .i64 a), (w.heap.size, 1, .int .i64 r), (w.heap.size, 2, .int .i64 n), (w.heap.size, 3, .int .i64 d)] _ := Keeps.next (by refine ⟨by go_grown, ?_⟩; simp [Cells, go_sem]) hb
      clear hb
      obtain ⟨⟨kz0, kc0, kf0⟩, ⟨kz1, kc1, kf1⟩, ⟨kz2, kc2, kf2⟩, ⟨kz3, kc3, kf3⟩, _⟩ := hHeld.2
      go_wp2_with fail
      refine (AT.out _).mono ?_
      rintro e w2 ⟨rfl, hb⟩
      replace hHeld := Keeps.next (hHeld) hb
      clear hb kz0 kc0 kf0 kz1 kc1 kf1 kz2 kc2 kf2 kz3 kc3 kf3
      obtain ⟨⟨kz0, kc0, kf0⟩, ⟨kz1, kc1, kf1⟩, ⟨kz2, kc2, kf2⟩, ⟨kz3, kc3, kf3⟩, _⟩ := hHeld.2
      go_wp2_with fail
      refine (W1.out _).mono ?_
      rintro e w3 ⟨rfl, hb⟩
      replace hHeld := Keeps.next (hHeld) hb
      clear hb kz0 kc0 kf0 kz1 kc1 kf1 kz2 kc2 kf2 kz3 kc3 kf3
      obtain ⟨⟨kz0, kc0, kf0⟩, ⟨kz1, kc1, kf1⟩, ⟨kz2, kc2, kf2⟩, ⟨kz3, kc3, kf3⟩, _⟩ := hHeld.2
      go_wp2_with fail
      refine (W2.out _).mono ?_
      rintro e w4 ⟨rfl, hb⟩
      replace hHeld := Keeps.next (hHeld) hb
      clear hb kz0 kc0 kf0 kz1 kc1 kf1 kz2 kc2 kf2 kz3 kc3 kf3
      obtain ⟨⟨kz0, kc0, kf0⟩, ⟨kz1, kc1, kf1⟩, ⟨kz2, kc2, kf2⟩, ⟨kz3, kc3, kf3⟩, _⟩ := hHeld.2
      go_wp2_with fail
      refine (W3.out _).mono ?_
      rintro e w5 ⟨rfl, hb⟩
      replace hHeld := Keeps.next (hHeld) hb
      clear hb kz0 kc0 kf0 kz1 kc1 kf1 kz2 kc2 kf2 kz3 kc3 kf3
      obtain ⟨⟨kz0, kc0, kf0⟩, ⟨kz1, kc1, kf1⟩, ⟨kz2, kc2, kf2⟩, ⟨kz3, kc3, kf3⟩, _⟩ := hHeld.2
      go_wp2_with fail
      refine (W4.out _).mono ?_
      rintro e w6 ⟨rfl, hb⟩
      replace hHeld := Keeps.next (hHeld) hb
      clear hb kz0 kc0 kf0 kz1 kc1 kf1 kz2 kc2 kf2 kz3 kc3 kf3
      obtain ⟨⟨kz0, kc0, kf0⟩, ⟨kz1, kc1, kf1⟩, ⟨kz2, kc2, kf2⟩, ⟨kz3, kc3, kf3⟩, _⟩ := hHeld.2
      go_wp2_with fail
      refine (W5.out _).mono ?_
      rintro e w7 ⟨rfl, hb⟩
      replace hHeld := Keeps.next (hHeld) hb
      clear hb kz0 kc0 kf0 kz1 kc1 kf1 kz2 kc2 kf2 kz3 kc3 kf3
      obtain ⟨⟨kz0, kc0, kf0⟩, ⟨kz1, kc1, kf1⟩, ⟨kz2, kc2, kf2⟩, ⟨kz3, kc3, kf3⟩, _⟩ := hHeld.2
      go_wp2_with fail
      go_ret
      exact ⟨rfl, hHeld.1⟩
    · have g : decide (m ≤ Q) = true := h6.symm
      clear h6
      go_enter Try.func8, Try.ntmps8
      go_wp2_with fail
      refine (WK.out _).mono ?_
      rintro e w1 ⟨rfl, hb⟩
      have hHeld : Keeps w [(w.heap.size, 0, .int .i64 a), (w.heap.size, 1, .int .i64 r), (w.heap.size, 2, .int .i64 n), (w.heap.size, 3, .int .i64 d)] _ := Keeps.next (by refine ⟨by go_grown, ?_⟩; simp [Cells, go_sem]) hb
      clear hb
      obtain ⟨⟨kz0, kc0, kf0⟩, ⟨kz1, kc1, kf1⟩, ⟨kz2, kc2, kf2⟩, ⟨kz3, kc3, kf3⟩, _⟩ := hHeld.2
      go_wp2_with fail
      refine (AT.out _).mono ?_
      rintro e w2 ⟨rfl, hb⟩
      replace hHeld := Keeps.next (hHeld) hb
      clear hb kz0 kc0 kf0 kz1 kc1 kf1 kz2 kc2 kf2 kz3 kc3 kf3
      obtain ⟨⟨kz0, kc0, kf0⟩, ⟨kz1, kc1, kf1⟩, ⟨kz2, kc2, kf2⟩, ⟨kz3, kc3, kf3⟩, _⟩ := hHeld.2
      go_wp2_with fail
      refine (W1.out _).mono ?_
      rintro e w3 ⟨rfl, hb⟩
      replace hHeld := Keeps.next (hHeld) hb
      clear hb kz0 kc0 kf0 kz1 kc1 kf1 kz2 kc2 kf2 kz3 kc3 kf3
      obtain ⟨⟨kz0, kc0, kf0⟩, ⟨kz1, kc1, kf1⟩, ⟨kz2, kc2, kf2⟩, ⟨kz3, kc3, kf3⟩, _⟩ := hHeld.2
      go_wp2_with fail
      refine (W2.out _).mono ?_
      rintro e w4 ⟨rfl, hb⟩
      replace hHeld := Keeps.next (hHeld) hb
      clear hb kz0 kc0 kf0 kz1 kc1 kf1 kz2 kc2 kf2 kz3 kc3 kf3
      obtain ⟨⟨kz0, kc0, kf0⟩, ⟨kz1, kc1, kf1⟩, ⟨kz2, kc2, kf2⟩, ⟨kz3, kc3, kf3⟩, _⟩ := hHeld.2
      go_wp2_with fail
      refine (W3.out _).mono ?_
      rintro e w5 ⟨rfl, hb⟩
      replace hHeld := Keeps.next (hHeld) hb
      clear hb kz0 kc0 kf0 kz1 kc1 kf1 kz2 kc2 kf2 kz3 kc3 kf3
      obtain ⟨⟨kz0, kc0, kf0⟩, ⟨kz1, kc1, kf1⟩, ⟨kz2, kc2, kf2⟩, ⟨kz3, kc3, kf3⟩, _⟩ := hHeld.2
      go_wp2_with fail
      refine (W4.out _).mono ?_
      rintro e w6 ⟨rfl, hb⟩
      replace hHeld := Keeps.next (hHeld) hb
      clear hb kz0 kc0 kf0 kz1 kc1 kf1 kz2 kc2 kf2 kz3 kc3 kf3
      obtain ⟨⟨kz0, kc0, kf0⟩, ⟨kz1, kc1, kf1⟩, ⟨kz2, kc2, kf2⟩, ⟨kz3, kc3, kf3⟩, _⟩ := hHeld.2
      go_wp2_with fail
      refine (W5.out _).mono ?_
      rintro e w7 ⟨rfl, hb⟩
      replace hHeld := Keeps.next (hHeld) hb
      clear hb kz0 kc0 kf0 kz1 kc1 kf1 kz2 kc2 kf2 kz3 kc3 kf3
      obtain ⟨⟨kz0, kc0, kf0⟩, ⟨kz1, kc1, kf1⟩, ⟨kz2, kc2, kf2⟩, ⟨kz3, kc3, kf3⟩, _⟩ := hHeld.2
      go_wp2_with fail
      go_ret
      exact ⟨rfl, hHeld.1⟩
  · clear W1 W2 W3 W4 W5 hb h5
    rcases hE with e | rfl | rfl | rfl
    · exact absurd e e0
    · go_enter Try.func8, Try.ntmps8
      go_wp2_with fail
      refine (WK.out _).mono ?_
      rintro e w1 ⟨rfl, hb⟩
      have hHeld : Keeps w [(w.heap.size, 0, .int .i64 a), (w.heap.size, 1, .int .i64 r), (w.heap.size, 2, .int .i64 n), (w.heap.size, 3, .int .i64 d)] _ := Keeps.next (by refine ⟨by go_grown, ?_⟩; simp [Cells, go_sem]) hb
      clear hb
      obtain ⟨⟨kz0, kc0, kf0⟩, ⟨kz1, kc1, kf1⟩, ⟨kz2, kc2, kf2⟩, ⟨kz3, kc3, kf3⟩, _⟩ := hHeld.2
      go_wp2_with fail
      refine (AT.out _).mono ?_
      rintro e w2 ⟨rfl, hb⟩
      replace hHeld := Keeps.next (hHeld) hb
      clear hb kz0 kc0 kf0 kz1 kc1 kf1 kz2 kc2 kf2 kz3 kc3 kf3
      obtain ⟨⟨kz0, kc0, kf0⟩, ⟨kz1, kc1, kf1⟩, ⟨kz2, kc2, kf2⟩, ⟨kz3, kc3, kf3⟩, _⟩ := hHeld.2
      go_wp2_with fail
      go_ret
      exact ⟨rfl, hHeld.1⟩
    · go_enter Try.func8, Try.ntmps8
      go_wp2_with fail
      refine (WK.out _).mono ?_
      rintro e w1 ⟨rfl, hb⟩
      have hHeld : Keeps w [(w.heap.size, 0, .int .i64 a), (w.heap.size, 1, .int .i64 r), (w.heap.size, 2, .int .i64 n), (w.heap.size, 3, .int .i64 d)] _ := Keeps.next (by refine ⟨by go_grown, ?_⟩; simp [Cells, go_sem]) hb
      clear hb
      obtain ⟨⟨kz0, kc0, kf0⟩, ⟨kz1, kc1, kf1⟩, ⟨kz2, kc2, kf2⟩, ⟨kz3, kc3, kf3⟩, _⟩ := hHeld.2
      go_wp2_with fail
      refine (AT.out _).mono ?_
      rintro e w2 ⟨rfl, hb⟩
      replace hHeld := Keeps.next (hHeld) hb
      clear hb kz0 kc0 kf0 kz1 kc1 kf1 kz2 kc2 kf2 kz3 kc3 kf3
      obtain ⟨⟨kz0, kc0, kf0⟩, ⟨kz1, kc1, kf1⟩, ⟨kz2, kc2, kf2⟩, ⟨kz3, kc3, kf3⟩, _⟩ := hHeld.2
      go_wp2_with fail
      go_ret
      exact ⟨rfl, hHeld.1⟩
    · go_enter Try.func8, Try.ntmps8
      go_wp2_with fail
      refine (WK.out _).mono ?_
      rintro e w1 ⟨rfl, hb⟩
      have hHeld : Keeps w [(w.heap.size, 0, .int .i64 a), (w.heap.size, 1, .int .i64 r), (w.heap.size, 2, .int .i64 n), (w.heap.size, 3, .int .i64 d)] _ := Keeps.next (by refine ⟨by go_grown, ?_⟩; simp [Cells, go_sem]) hb
      clear hb
      obtain ⟨⟨kz0, kc0, kf0⟩, ⟨kz1, kc1, kf1⟩, ⟨kz2, kc2, kf2⟩, ⟨kz3, kc3, kf3⟩, _⟩ := hHeld.2
      go_wp2_with fail
      refine (AT.out _).mono ?_
      rintro e w2 ⟨rfl, hb⟩
      replace hHeld := Keeps.next (hHeld) hb
      clear hb kz0 kc0 kf0 kz1 kc1 kf1 kz2 kc2 kf2 kz3 kc3 kf3
      obtain ⟨⟨kz0, kc0, kf0⟩, ⟨kz1, kc1, kf1⟩, ⟨kz2, kc2, kf2⟩, ⟨kz3, kc3, kf3⟩, _⟩ := hHeld.2
      go_wp2_with fail
      go_ret
      exact ⟨rfl, hHeld.1⟩
theorem mul_facts {z d : Int} (hd : 1 ≤ d) (lo : Int) : (lo * d ≤ z ↔ lo ≤ z / d) ∧ (lo ≤ z / d → lo * d ≤ z) :=
  ⟨(Int.le_ediv_iff_mul_le (by omega)).symm, (Int.le_ediv_iff_mul_le (by omega)).1⟩
theorem wn_plain {a r n d t lo hi : Int} (h : lineB a r n d = true) (ht : timeB t = true) : wnB a r n d t lo hi = (decide (lo ≤ exV a r n d t / d) && decide (exV a r n d t ≤ hi * d)) := by
  unfold wnB
  rw [h, ht]
  obtain ⟨l1, _⟩ := (lineB_iff _ _ _ _).1 h
  have s := (slopeB_iff _ _).1 l1
  have e : decide (lo * d ≤ exV a r n d t) = decide (lo ≤ exV a r n d t / d) := decide_eq_decide.2 (mul_facts (by omega) lo).1
  rw [e]
  simp
theorem rounds_any (a r n d t m : Int) (hm : I64 m) (w : World) : Calls Try.prog 8 #[lnV a r n d, .int .i64 t, .int .i64 m] w (Ret w (.bool true)) := by
  have T := at_told a r n d t
  have key : tlE a r n d t = 0 → lineB a r n d = true ∧ timeB t = true ∧ (-2305844108725321728 ≤ tlQ a r n d t ∧ tlQ a r n d t ≤ 2305844108725321728) ∧ tlQ a r n d t = exV a r n d t / d ∧ 1 ≤ d ∧
      (∀ hi, tlQ a r n d t < hi → decide (exV a r n d t ≤ hi * d) = true) ∧ (∀ hi, hi < tlQ a r n d t → decide (exV a r n d t ≤ hi * d) = false) := by
    intro e
    rcases T with ⟨_, _, h⟩ | ⟨_, _, _, h⟩ | ⟨_, _, _, _, h⟩ | ⟨h1, h2, h3, h4, _⟩
    · omega
    · omega
    · omega
    · obtain ⟨l1, _⟩ := (lineB_iff _ _ _ _).1 h1
      have s := (slopeB_iff _ _).1 l1
      have b := (backB_iff _).1 h3
      refine ⟨h1, h2, by omega, h4, by omega, fun hi hh => ?_, fun hi hh => ?_⟩
      · rw [decide_eq_true_eq]
        rw [h4] at hh
        have := (Int.ediv_lt_iff_lt_mul (show 0 < d by omega)).1 hh
        omega
      · rw [decide_eq_false_iff_not]
        rw [h4] at hh
        have h5 : (hi + 1) * d ≤ exV a r n d t := (Int.le_ediv_iff_mul_le (show 0 < d by omega)).1 (by omega)
        rw [Int.add_mul] at h5
        omega
  refine rounds_walk a r n d t m (tlQ a r n d t) (tlE a r n d t) (wnB a r n d t m 4611686018427387904) w (fun W => at_any a r n d t W) ?_ ?_ ?_ ?_ ?_ ?_ ?_ ?_
  · rcases T with ⟨_, _, h⟩ | ⟨_, _, _, h⟩ | ⟨_, _, _, _, h⟩ | ⟨_, _, _, _, h⟩
    · exact Or.inr (Or.inl h)
    · exact Or.inr (Or.inr (Or.inl h))
    · exact Or.inr (Or.inr (Or.inr h))
    · exact Or.inl h
  · intro e
    exact (key e).2.2.1
  · intro e W
    obtain ⟨k1, k2, k3, k4, k5, k6, k7⟩ := key e
    have := within_any a r n d t (tlQ a r n d t) (tlQ a r n d t + 1) (by unfold I64; omega) (by unfold I64; omega) W
    rw [wn_plain k1 k2, k6 _ (by omega), ← k4] at this
    simpa using this
  · intro e W
    obtain ⟨k1, k2, k3, k4, k5, k6, k7⟩ := key e
    have := within_any a r n d t (tlQ a r n d t + 1) (tlQ a r n d t + 1) (by unfold I64; omega) (by unfold I64; omega) W
    rw [wn_plain k1 k2, ← k4, decide_eq_false (show ¬ tlQ a r n d t + 1 ≤ tlQ a r n d t by omega)] at this
    exact this
  · intro e W
    obtain ⟨k1, k2, k3, k4, k5, k6, k7⟩ := key e
    have := within_any a r n d t (tlQ a r n d t + 1) 4611686018427387904 (by unfold I64; omega) (by unfold I64; omega) W
    rw [wn_plain k1 k2, ← k4, decide_eq_false (show ¬ tlQ a r n d t + 1 ≤ tlQ a r n d t by omega)] at this
    exact this
  · intro e W
    obtain ⟨k1, k2, k3, k4, k5, k6, k7⟩ := key e
    have := within_any a r n d t (-4611686018427387904) (tlQ a r n d t - 1) (by unfold I64; omega) (by unfold I64; omega) W
    rw [wn_plain k1 k2, k7 _ (by omega), Bool.and_false] at this
    exact this
  · intro e W
    exact within_any a r n d t m 4611686018427387904 hm (by unfold I64; omega) W
  · intro e
    obtain ⟨k1, k2, k3, k4, k5, k6, k7⟩ := key e
    rw [wn_plain k1 k2, k6 _ (by omega), ← k4, Bool.and_true]
end Go.Proofs.Ytldfkfienlcipaa
