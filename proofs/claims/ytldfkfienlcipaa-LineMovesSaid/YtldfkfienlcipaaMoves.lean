/-
  The walk of the law LineMoves. Conditions: the numbers are of 64 bits.
-/
import Derived.Test.YtldfkfienlcipaaLnW
namespace Go.Proofs.Ytldfkfienlcipaa
open Go.RowKit

set_option maxRecDepth 100000 in
set_option maxHeartbeats 2000000 in
theorem moves_walk (a r n d t y Q E Q2 E2 : Int) (w : World)
    (AT : ∀ W, Calls Try.prog 14 #[lnV a r n d, .int .i64 t] W (Ret W (.tuple #[.int .i64 Q, .int .i64 E])))
    (hA : E ≠ 0 → Q = 0)
    (hb : E = 0 → -1099511627776 < y.tmod 1099511627776 ∧ y.tmod 1099511627776 < 1099511627776 ∧ -2305844108725321728 ≤ Q ∧ Q ≤ 2305844108725321728 ∧ -2305844108725321728 ≤ a ∧ a ≤ 2305844108725321728)
    (A2 : E = 0 → ∀ W, Calls Try.prog 14 #[lnV (a + y.tmod 1099511627776) r n d, .int .i64 t] W (Ret W (.tuple #[.int .i64 Q2, .int .i64 E2])))
    (hc : E = 0 → (a + y.tmod 1099511627776 > 2305844108725321728 ∨ a + y.tmod 1099511627776 < -2305844108725321728) ∧ E2 = 150 ∨ ¬ (a + y.tmod 1099511627776 > 2305844108725321728 ∨ a + y.tmod 1099511627776 < -2305844108725321728) ∧ (Q + y.tmod 1099511627776 > 2305844108725321728 ∨ Q + y.tmod 1099511627776 < -2305844108725321728) ∧ E2 = 5 ∨
      ¬ (a + y.tmod 1099511627776 > 2305844108725321728 ∨ a + y.tmod 1099511627776 < -2305844108725321728) ∧ ¬ (Q + y.tmod 1099511627776 > 2305844108725321728 ∨ Q + y.tmod 1099511627776 < -2305844108725321728) ∧ E2 = 0 ∧ Q2 = Q + y.tmod 1099511627776) :
    Calls Try.prog 9 #[lnV a r n d, .int .i64 t, .int .i64 y] w (Ret w (.bool true)) := by
  have WK := Lib.hid (fun W => wakes_any W)
  replace AT := Lib.hid AT
  by_cases e0 : E = 0
  · obtain ⟨b0, b1, p0, p1, q0, q1⟩ := hb e0
    replace A2 := Lib.hid (A2 e0)
    have H := Lib.hid (hc e0)
    subst e0
    clear hc hb hA
    go_enter Try.func9, Try.ntmps9
    go_wp2_with fail
    refine (WK.out _).mono ?_
    rintro e w1 ⟨rfl, hb⟩
    have hHeld : Keeps w [(w.heap.size, 0, .int .i64 a), (w.heap.size, 1, .int .i64 r), (w.heap.size, 2, .int .i64 n), (w.heap.size, 3, .int .i64 d)] _ := Keeps.next (by refine ⟨by go_grown, ?_⟩; simp [Cells, go_sem]) hb
    clear hb
    obtain ⟨⟨kz0, kc0, kf0⟩, ⟨kz1, kc1, kf1⟩, ⟨kz2, kc2, kf2⟩, ⟨kz3, kc3, kf3⟩, _⟩ := hHeld.2
    go_wp2_with fail
    refine (AT.out _).mono ?_
    rintro e w2 ⟨rfl, hb⟩
    replace hHeld := Keeps.next (hHeld) hb
    clear hb kz0 kc0 kf0 kz1 kc1 kf1 kz2 kc2 kf2 kz3 kc3 kf3
    obtain ⟨⟨kz0, kc0, kf0⟩, ⟨kz1, kc1, kf1⟩, ⟨kz2, kc2, kf2⟩, ⟨kz3, kc3, kf3⟩, _⟩ := hHeld.2
    go_wp2_with fail
    refine (A2.out _).mono ?_
    rintro e w3 ⟨rfl, hb⟩
    replace hHeld : Keeps w [(w2.heap.size, 0, .int .i64 (a + y.tmod 1099511627776))] _ := Keeps.next ((show Keeps w [(w2.heap.size, 0, .int .i64 (a + y.tmod 1099511627776))] _ from ⟨(hHeld.alloc _).1, by simp [Cells, go_sem]⟩)) hb
    clear hb kz0 kc0 kf0 kz1 kc1 kf1 kz2 kc2 kf2 kz3 kc3 kf3
    obtain ⟨⟨kz0, kc0, kf0⟩, _⟩ := hHeld.2
    go_wp2_with fail
    all_goals
      go_ret
      refine ⟨congrArg (fun b => Ending.returned (Value.bool b)) ?_, hHeld.1⟩
      have := H.out
      (simp at *) <;> omega
  · have e2 := hA e0
    subst e2
    have e3 : (E == 0) = false := by simpa using e0
    clear hc hb hA A2 e0
    go_enter Try.func9, Try.ntmps9
    go_wp2_with fail
    refine (WK.out _).mono ?_
    rintro e w1 ⟨rfl, hb⟩
    have hHeld : Keeps w [(w.heap.size, 0, .int .i64 a), (w.heap.size, 1, .int .i64 r), (w.heap.size, 2, .int .i64 n), (w.heap.size, 3, .int .i64 d)] _ := Keeps.next (by refine ⟨by go_grown, ?_⟩; simp [Cells, go_sem]) hb
    clear hb
    obtain ⟨⟨kz0, kc0, kf0⟩, ⟨kz1, kc1, kf1⟩, ⟨kz2, kc2, kf2⟩, ⟨kz3, kc3, kf3⟩, _⟩ := hHeld.2
    go_wp2_with fail
    refine (AT.out _).mono ?_
    rintro e w2 ⟨rfl, hb⟩
    replace hHeld := Keeps.next (hHeld) hb
    clear hb kz0 kc0 kf0 kz1 kc1 kf1 kz2 kc2 kf2 kz3 kc3 kf3
    obtain ⟨⟨kz0, kc0, kf0⟩, ⟨kz1, kc1, kf1⟩, ⟨kz2, kc2, kf2⟩, ⟨kz3, kc3, kf3⟩, _⟩ := hHeld.2
    go_wp2_with fail
    go_ret
    exact ⟨rfl, hHeld.1⟩
theorem moves_any (a r n d t y : Int) (w : World) : Calls Try.prog 9 #[lnV a r n d, .int .i64 t, .int .i64 y] w (Ret w (.bool true)) := by
  have T := at_told a r n d t
  have hy : -1099511627776 < y.tmod 1099511627776 ∧ y.tmod 1099511627776 < 1099511627776 := by
    by_cases g : 0 ≤ y
    · have h1 := Int.tmod_nonneg 1099511627776 g
      have h2 := Int.tmod_lt_of_pos y (show (0 : Int) < 1099511627776 by omega)
      omega
    · have e : (-y).tmod 1099511627776 = -(y.tmod 1099511627776) := Int.neg_tmod y _
      have h1 := Int.tmod_nonneg 1099511627776 (show 0 ≤ -y by omega)
      have h2 := Int.tmod_lt_of_pos (-y) (show (0 : Int) < 1099511627776 by omega)
      omega
  generalize hb : y.tmod 1099511627776 = b at *
  have T2 := at_told (a + b) r n d t
  have key : tlE a r n d t = 0 → lineB a r n d = true ∧ timeB t = true ∧ backB (exV a r n d t / d) = true ∧ tlQ a r n d t = exV a r n d t / d := by
    intro e
    rcases T with ⟨_, _, h⟩ | ⟨_, _, _, h⟩ | ⟨_, _, _, _, h⟩ | ⟨h1, h2, h3, h4, _⟩
    · omega
    · omega
    · omega
    · exact ⟨h1, h2, h3, h4⟩
  refine moves_walk a r n d t y (tlQ a r n d t) (tlE a r n d t) (tlQ (a + b) r n d t) (tlE (a + b) r n d t) w (fun W => at_any a r n d t W) ?_ ?_ (fun _ W => by rw [hb]; exact at_any (a + b) r n d t W) ?_
  · intro h
    rcases T with ⟨_, g, _⟩ | ⟨_, _, g, _⟩ | ⟨_, _, _, g, _⟩ | ⟨_, _, _, _, g⟩
    · exact g
    · exact g
    · exact g
    · exact absurd g h
  · intro e
    obtain ⟨k1, k2, k3, k4⟩ := key e
    obtain ⟨_, _, l3, _⟩ := (lineB_iff _ _ _ _).1 k1
    have b1 := (backB_iff _).1 k3
    have b2 := (backB_iff _).1 l3
    rw [hb]
    omega
  · intro e
    obtain ⟨k1, k2, k3, k4⟩ := key e
    rw [hb]
    obtain ⟨l1, l2, l3, l4, l5⟩ := (lineB_iff _ _ _ _).1 k1
    have s := (slopeB_iff _ _).1 l1
    have hz : exV (a + b) r n d t / d = exV a r n d t / d + b := by
      rw [show exV (a + b) r n d t = exV a r n d t + d * b by unfold exV; rw [Int.add_mul, Int.mul_comm b d]; omega, Int.add_mul_ediv_left _ _ (show d ≠ 0 by omega)]
    rw [hz] at T2
    rw [k4]
    have hB := backB_iff (a + b)
    have hC := backB_iff (exV a r n d t / d + b)
    rcases T2 with ⟨h, _, h6⟩ | ⟨_, h, _⟩ | ⟨h, _, h7, _, h6⟩ | ⟨h, _, h7, h8, h6⟩
    · refine Or.inl ⟨?_, h6⟩
      by_cases g : backB (a + b) = true
      · rw [(lineB_iff _ _ _ _).2 ⟨l1, l2, g, l4, l5⟩] at h; cases h
      · have := mt hB.2 g; omega
    · rw [k2] at h; cases h
    · refine Or.inr (Or.inl ⟨?_, ?_, h6⟩)
      · have := hB.1 ((lineB_iff _ _ _ _).1 h).2.2.1; omega
      · have := mt hC.2 (by rw [h7]; simp); omega
    · refine Or.inr (Or.inr ⟨?_, ?_, h6, h8⟩)
      · have := hB.1 ((lineB_iff _ _ _ _).1 h).2.2.1; omega
      · have := hC.1 h7; omega
end Go.Proofs.Ytldfkfienlcipaa
