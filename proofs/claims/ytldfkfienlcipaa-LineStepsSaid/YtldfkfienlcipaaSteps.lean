/-
  The walk of the law LineSteps. Conditions: the numbers are of 64 bits.
-/
import Derived.Test.YtldfkfienlcipaaLnW
namespace Go.Proofs.Ytldfkfienlcipaa
open Go.RowKit

set_option maxRecDepth 100000 in
set_option maxHeartbeats 2000000 in
theorem steps_walk (a r n d t Q1 E1 Q2 E2 : Int) (w : World)
    (AT : ∀ W, Calls Try.prog 14 #[lnV a r n d, .int .i64 t] W (Ret W (.tuple #[.int .i64 Q1, .int .i64 E1])))
    (hb : E1 = 0 → ¬ d = 0 ∧ 0 ≤ t ∧ t ≤ 281474976710656 ∧ -2305844108725321728 ≤ Q1 ∧ Q1 ≤ 2305844108725321728 ∧ -2305844108725321728 ≤ Q2 ∧ Q2 ≤ 2305844108725321728 ∧ -4611688217450643456 ≤ n.tdiv d ∧ n.tdiv d ≤ 4611688217450643456)
    (h2 : E1 = 0 → t ≠ 281474976710656 → ∀ W, Calls Try.prog 14 #[lnV a r n d, .int .i64 (t + 1)] W (Ret W (.tuple #[.int .i64 Q2, .int .i64 E2])))
    (hA : E1 ≠ 0 → Q1 = 0) (hB : E1 = 0 → ∀ W, Calls Try.prog 13 #[lnV a r n d] W (Ret W (.int .i64 0)))
    (hC : E1 = 0 → t ≠ 281474976710656 → E2 ≠ 0 → E2 = 5 ∧ n ≠ 0)
    (hD : E1 = 0 → t ≠ 281474976710656 → E2 = 0 → (n.tmod d < 0 → Q2 - Q1 = n.tdiv d - 1 ∨ n.tmod d ≠ 0 ∧ Q2 - Q1 = n.tdiv d) ∧ (¬ n.tmod d < 0 → Q2 - Q1 = n.tdiv d ∨ n.tmod d ≠ 0 ∧ Q2 - Q1 = n.tdiv d + 1)) :
    Calls Try.prog 7 #[lnV a r n d, .int .i64 t] w (Ret w (.bool true)) := by
  have WK := Lib.hid (fun W => wakes_any W)
  replace AT := Lib.hid AT
  by_cases e1 : E1 = 0
  · have hd := (hb e1).1
    obtain ⟨t0, t1, p0, p1, r0, r1, s0, s1⟩ := (hb e1).2
    by_cases e2 : t = 281474976710656
    · have CK := Lib.hid (hB e1)
      have te : (t == 281474976710656) = true := by simpa using e2
      subst e1
      clear hA hB hC hD hb h2 e2 t0 t1 p0 p1 r0 r1 s0 s1
      go_enter Try.func7, Try.ntmps7
      go_wp2_with fail
      refine (WK.out _).mono ?_
      rintro e w1 ⟨rfl, hb⟩
      have hHeld : Keeps w [(w.heap.size, 0, .int .i64 a), (w.heap.size, 1, .int .i64 r), (w.heap.size, 2, .int .i64 n), (w.heap.size, 3, .int .i64 d)] _ := Keeps.next (by refine ⟨by go_grown, ?_⟩; simp [Cells, go_sem]) hb
      clear hb
      obtain ⟨⟨kz0, kc0, kf0⟩, ⟨kz1, kc1, kf1⟩, ⟨kz2, kc2, kf2⟩, ⟨kz3, kc3, kf3⟩, _⟩ := hHeld.2
      go_wp2_with fail
      refine (AT.out _).mono ?_
      rintro e w2 ⟨rfl, hb⟩
      replace hHeld := Keeps.next (hHeld) hb
      clear hb kz0 kc0 kf0 kz1 kc1 kf1 kz2 kc2 kf2 kz3 kc3 kf3
      obtain ⟨⟨kz0, kc0, kf0⟩, ⟨kz1, kc1, kf1⟩, ⟨kz2, kc2, kf2⟩, ⟨kz3, kc3, kf3⟩, _⟩ := hHeld.2
      go_wp2_with fail
      refine (CK.out _).mono ?_
      rintro e w3 ⟨rfl, hb⟩
      replace hHeld := Keeps.next (hHeld) hb
      clear hb kz0 kc0 kf0 kz1 kc1 kf1 kz2 kc2 kf2 kz3 kc3 kf3
      obtain ⟨⟨kz0, kc0, kf0⟩, ⟨kz1, kc1, kf1⟩, ⟨kz2, kc2, kf2⟩, ⟨kz3, kc3, kf3⟩, _⟩ := hHeld.2
      go_wp2_with fail
      go_ret
      exact ⟨rfl, hHeld.1⟩
    · have AT2 := Lib.hid (h2 e1 e2)
      have te : (t == 281474976710656) = false := by simpa using e2
      by_cases e3 : E2 = 0
      · have H := Lib.hid (hD e1 e2 e3)
        subst e1 e3
        clear hA hB hC hD hb h2 e2
        cases g : decide (n.tmod d < 0)
        · have H2 := Lib.hid (H.out.2 (by simpa using g))
          clear H
          go_enter Try.func7, Try.ntmps7
          go_wp2_with fail
          refine (WK.out _).mono ?_
          rintro e w1 ⟨rfl, hb⟩
          have hHeld : Keeps w [(w.heap.size, 0, .int .i64 a), (w.heap.size, 1, .int .i64 r), (w.heap.size, 2, .int .i64 n), (w.heap.size, 3, .int .i64 d)] _ := Keeps.next (by refine ⟨by go_grown, ?_⟩; simp [Cells, go_sem]) hb
          clear hb
          obtain ⟨⟨kz0, kc0, kf0⟩, ⟨kz1, kc1, kf1⟩, ⟨kz2, kc2, kf2⟩, ⟨kz3, kc3, kf3⟩, _⟩ := hHeld.2
          go_wp2_with fail
          refine (AT.out _).mono ?_
          rintro e w2 ⟨rfl, hb⟩
          replace hHeld := Keeps.next (hHeld) hb
          clear hb kz0 kc0 kf0 kz1 kc1 kf1 kz2 kc2 kf2 kz3 kc3 kf3
          obtain ⟨⟨kz0, kc0, kf0⟩, ⟨kz1, kc1, kf1⟩, ⟨kz2, kc2, kf2⟩, ⟨kz3, kc3, kf3⟩, _⟩ := hHeld.2
          go_wp2_with fail
          refine (AT2.out _).mono ?_
          rintro e w3 ⟨rfl, hb⟩
          replace hHeld := Keeps.next (hHeld) hb
          clear hb kz0 kc0 kf0 kz1 kc1 kf1 kz2 kc2 kf2 kz3 kc3 kf3
          obtain ⟨⟨kz0, kc0, kf0⟩, ⟨kz1, kc1, kf1⟩, ⟨kz2, kc2, kf2⟩, ⟨kz3, kc3, kf3⟩, _⟩ := hHeld.2
          go_wp2_with fail
          all_goals
            go_ret
            refine ⟨congrArg (fun b => Ending.returned (Value.bool b)) ?_, hHeld.1⟩
            have := H2.out
            (simp at *) <;> omega
        · have H2 := Lib.hid (H.out.1 (by simpa using g))
          clear H
          go_enter Try.func7, Try.ntmps7
          go_wp2_with fail
          refine (WK.out _).mono ?_
          rintro e w1 ⟨rfl, hb⟩
          have hHeld : Keeps w [(w.heap.size, 0, .int .i64 a), (w.heap.size, 1, .int .i64 r), (w.heap.size, 2, .int .i64 n), (w.heap.size, 3, .int .i64 d)] _ := Keeps.next (by refine ⟨by go_grown, ?_⟩; simp [Cells, go_sem]) hb
          clear hb
          obtain ⟨⟨kz0, kc0, kf0⟩, ⟨kz1, kc1, kf1⟩, ⟨kz2, kc2, kf2⟩, ⟨kz3, kc3, kf3⟩, _⟩ := hHeld.2
          go_wp2_with fail
          refine (AT.out _).mono ?_
          rintro e w2 ⟨rfl, hb⟩
          replace hHeld := Keeps.next (hHeld) hb
          clear hb kz0 kc0 kf0 kz1 kc1 kf1 kz2 kc2 kf2 kz3 kc3 kf3
          obtain ⟨⟨kz0, kc0, kf0⟩, ⟨kz1, kc1, kf1⟩, ⟨kz2, kc2, kf2⟩, ⟨kz3, kc3, kf3⟩, _⟩ := hHeld.2
          go_wp2_with fail
          refine (AT2.out _).mono ?_
          rintro e w3 ⟨rfl, hb⟩
          replace hHeld := Keeps.next (hHeld) hb
          clear hb kz0 kc0 kf0 kz1 kc1 kf1 kz2 kc2 kf2 kz3 kc3 kf3
          obtain ⟨⟨kz0, kc0, kf0⟩, ⟨kz1, kc1, kf1⟩, ⟨kz2, kc2, kf2⟩, ⟨kz3, kc3, kf3⟩, _⟩ := hHeld.2
          go_wp2_with fail
          all_goals
            go_ret
            refine ⟨congrArg (fun b => Ending.returned (Value.bool b)) ?_, hHeld.1⟩
            have := H2.out
            (simp at *) <;> omega
      · obtain ⟨e4, e5⟩ := hC e1 e2 e3
        subst e1 e4
        have e6 : (n == 0) = false := by simpa using e5
        clear hA hB hC hD hb h2 e2 e3 p0 p1 r0 r1 s0 s1
        go_enter Try.func7, Try.ntmps7
        go_wp2_with fail
        refine (WK.out _).mono ?_
        rintro e w1 ⟨rfl, hb⟩
        have hHeld : Keeps w [(w.heap.size, 0, .int .i64 a), (w.heap.size, 1, .int .i64 r), (w.heap.size, 2, .int .i64 n), (w.heap.size, 3, .int .i64 d)] _ := Keeps.next (by refine ⟨by go_grown, ?_⟩; simp [Cells, go_sem]) hb
        clear hb
        obtain ⟨⟨kz0, kc0, kf0⟩, ⟨kz1, kc1, kf1⟩, ⟨kz2, kc2, kf2⟩, ⟨kz3, kc3, kf3⟩, _⟩ := hHeld.2
        go_wp2_with fail
        refine (AT.out _).mono ?_
        rintro e w2 ⟨rfl, hb⟩
        replace hHeld := Keeps.next (hHeld) hb
        clear hb kz0 kc0 kf0 kz1 kc1 kf1 kz2 kc2 kf2 kz3 kc3 kf3
        obtain ⟨⟨kz0, kc0, kf0⟩, ⟨kz1, kc1, kf1⟩, ⟨kz2, kc2, kf2⟩, ⟨kz3, kc3, kf3⟩, _⟩ := hHeld.2
        go_wp2_with fail
        refine (AT2.out _).mono ?_
        rintro e w3 ⟨rfl, hb⟩
        replace hHeld := Keeps.next (hHeld) hb
        clear hb kz0 kc0 kf0 kz1 kc1 kf1 kz2 kc2 kf2 kz3 kc3 kf3
        obtain ⟨⟨kz0, kc0, kf0⟩, ⟨kz1, kc1, kf1⟩, ⟨kz2, kc2, kf2⟩, ⟨kz3, kc3, kf3⟩, _⟩ := hHeld.2
        go_wp2_with fail
        go_ret
        refine ⟨congrArg (fun b => Ending.returned (Value.bool b)) ?_, hHeld.1⟩
        simp
        exact e5
  · have e2 := hA e1
    subst e2
    have e3 : (E1 == 0) = false := by simpa using e1
    clear hA hB hC hD hb h2 e1
    go_enter Try.func7, Try.ntmps7
    go_wp2_with fail
    refine (WK.out _).mono ?_
    rintro e w1 ⟨rfl, hb⟩
    have hHeld : Keeps w [(w.heap.size, 0, .int .i64 a), (w.heap.size, 1, .int .i64 r), (w.heap.size, 2, .int .i64 n), (w.heap.size, 3, .int .i64 d)] _ := Keeps.next (by refine ⟨by go_grown, ?_⟩; simp [Cells, go_sem]) hb
    clear hb
    obtain ⟨⟨kz0, kc0, kf0⟩, ⟨kz1, kc1, kf1⟩, ⟨kz2, kc2, kf2⟩, ⟨kz3, kc3, kf3⟩, _⟩ := hHeld.2
    go_wp2_with fail
    refine (AT.out _).mono ?_
    rintro e w2 ⟨rfl, hb⟩
    replace hHeld := Keeps.next (hHeld) hb
    clear hb kz0 kc0 kf0 kz1 kc1 kf1 kz2 kc2 kf2 kz3 kc3 kf3
    obtain ⟨⟨kz0, kc0, kf0⟩, ⟨kz1, kc1, kf1⟩, ⟨kz2, kc2, kf2⟩, ⟨kz3, kc3, kf3⟩, _⟩ := hHeld.2
    go_wp2_with fail
    go_ret
    exact ⟨rfl, hHeld.1⟩
theorem tmod_facts {n d : Int} (hd : 1 ≤ d) : n = d * n.tdiv d + n.tmod d ∧ (0 ≤ n → 0 ≤ n.tmod d ∧ n.tmod d < d) ∧ (n < 0 → -d < n.tmod d ∧ n.tmod d ≤ 0) := by
  refine ⟨(Int.mul_tdiv_add_tmod n d).symm, fun h => ?_, fun h => ?_⟩
  · exact ⟨Int.tmod_nonneg d h, Int.tmod_lt_of_pos n (by omega)⟩
  · have e : (-n).tmod d = -(n.tmod d) := Int.neg_tmod n d
    have h1 := Int.tmod_nonneg d (show 0 ≤ -n by omega)
    have h2 := Int.tmod_lt_of_pos (-n) (show 0 < d by omega)
    omega
theorem step_math {z n d : Int} (hd : 1 ≤ d) : (n.tmod d < 0 → (z + n) / d - z / d = n.tdiv d - 1 ∨ n.tmod d ≠ 0 ∧ (z + n) / d - z / d = n.tdiv d) ∧ (¬ n.tmod d < 0 → (z + n) / d - z / d = n.tdiv d ∨ n.tmod d ≠ 0 ∧ (z + n) / d - z / d = n.tdiv d + 1) := by
  obtain ⟨e, hp, hn⟩ := tmod_facts (n := n) hd
  have ez := Int.mul_ediv_add_emod z d
  have z0 := Int.emod_nonneg z (show d ≠ 0 by omega)
  have z1 := Int.emod_lt_of_pos z (show 0 < d by omega)
  generalize n.tdiv d = q at *
  generalize n.tmod d = m at *
  generalize z / d = u at *
  generalize z % d = v at *
  have hm : m < d ∧ -d < m := by
    by_cases g : 0 ≤ n
    · have := hp g; omega
    · have := hn (by omega); omega
  have key : (z + n) / d = u + q + (v + m) / d := by
    rw [show z + n = (v + m) + d * (u + q) by rw [Int.mul_add]; omega, Int.add_mul_ediv_left _ _ (show d ≠ 0 by omega)]
    omega
  rw [key]
  have k : (v + m) / d = if v + m < 0 then -1 else if v + m < d then 0 else 1 := by
    split
    · rw [show v + m = (v + m + d) + d * (-1) by omega, Int.add_mul_ediv_left _ _ (show d ≠ 0 by omega), Int.ediv_eq_zero_of_lt (by omega) (by omega)]
      omega
    · split
      · exact Int.ediv_eq_zero_of_lt (by omega) (by omega)
      · rw [show v + m = (v + m - d) + d * 1 by omega, Int.add_mul_ediv_left _ _ (show d ≠ 0 by omega), Int.ediv_eq_zero_of_lt (by omega) (by omega)]
        omega
  rw [k]
  constructor
  · intro h
    split
    · omega
    · split <;> omega
  · intro h
    split
    · omega
    · split <;> omega
theorem steps_any (a r n d t : Int) (w : World) : Calls Try.prog 7 #[lnV a r n d, .int .i64 t] w (Ret w (.bool true)) := by
  have T := at_told a r n d t
  have T2 := at_told a r n d (t + 1)
  have hz : exV a r n d (t + 1) = exV a r n d t + n := by unfold exV; rw [Int.mul_add]; omega
  refine steps_walk a r n d t (tlQ a r n d t) (tlE a r n d t) (tlQ a r n d (t + 1)) (tlE a r n d (t + 1)) w (fun W => at_any a r n d t W) ?_ (fun _ _ W => at_any a r n d (t + 1) W) ?_ ?_ ?_ ?_
  · intro e
    have t3 : lineB a r n d = true ∧ timeB t = true ∧ backB (exV a r n d t / d) = true ∧ tlQ a r n d t = exV a r n d t / d := by
      rcases T with ⟨_, _, h⟩ | ⟨_, _, _, h⟩ | ⟨_, _, _, _, h⟩ | ⟨h1, h2, h3, h4, _⟩
      · omega
      · omega
      · omega
      · exact ⟨h1, h2, h3, h4⟩
    obtain ⟨g1, g2, g3, g4⟩ := t3
    have b := (backB_iff _).1 g3
    have tb := (timeB_iff _).1 g2
    obtain ⟨l1, _, _, l4, l5⟩ := (lineB_iff _ _ _ _).1 g1
    have s := (slopeB_iff _ _).1 l1
    have q2 : -2305844108725321728 ≤ tlQ a r n d (t + 1) ∧ tlQ a r n d (t + 1) ≤ 2305844108725321728 := by
      rcases T2 with ⟨_, h, _⟩ | ⟨_, _, h, _⟩ | ⟨_, _, _, h, _⟩ | ⟨_, _, h3, h4, _⟩
      · omega
      · omega
      · omega
      · have := (backB_iff _).1 h3; omega
    have td : -4611688217450643456 ≤ n.tdiv d ∧ n.tdiv d ≤ 4611688217450643456 := by
      obtain ⟨e1, hp, hn⟩ := tmod_facts (n := n) (show 1 ≤ d by omega)
      have := abs_le_mul (q := n.tdiv d) (g := d) (a := n - n.tmod d) (by omega) (by rw [Int.mul_comm]; omega) 4611688217450643456 (by
        by_cases g : 0 ≤ n
        · have h5 := hp g
          have : 0 ≤ n - n.tmod d := by
            have := Int.tdiv_nonneg g (show 0 ≤ d by omega)
            have := Int.mul_nonneg (show 0 ≤ d by omega) this
            omega
          omega
        · have h5 := hn (by omega)
          have : n - n.tmod d ≤ 0 := by
            have e2 : (-n).tdiv d = -(n.tdiv d) := Int.neg_tdiv ..
            have := Int.tdiv_nonneg (show 0 ≤ -n by omega) (show 0 ≤ d by omega)
            have := Int.mul_nonneg (show 0 ≤ d by omega) this
            rw [e2, Int.mul_neg] at this
            omega
          omega)
      exact this
    rw [g4]
    exact ⟨by omega, tb.1, tb.2, b.1, b.2, q2.1, q2.2, td.1, td.2⟩
  · intro h
    rcases T with ⟨_, g, _⟩ | ⟨_, _, g, _⟩ | ⟨_, _, _, g, _⟩ | ⟨_, _, _, _, g⟩
    · exact g
    · exact g
    · exact g
    · exact absurd g h
  · intro h W
    have l : lineB a r n d = true := by
      rcases T with ⟨_, _, g⟩ | ⟨g, _⟩ | ⟨g, _⟩ | ⟨g, _⟩
      · omega
      · exact g
      · exact g
      · exact g
    have := lcheck_any a r n d W
    rwa [if_pos l] at this
  · intro h hn h0
    have t3 : lineB a r n d = true ∧ timeB t = true ∧ backB (exV a r n d t / d) = true := by
      rcases T with ⟨_, _, h⟩ | ⟨_, _, _, h⟩ | ⟨_, _, _, _, h⟩ | ⟨h1, h2, h3, h4, _⟩
      · omega
      · omega
      · omega
      · exact ⟨h1, h2, h3⟩
    have tb := (timeB_iff _).1 t3.2.1
    have tb2 : timeB (t + 1) = true := (timeB_iff _).2 (by omega)
    rcases T2 with ⟨g, _⟩ | ⟨_, g, _⟩ | ⟨_, _, g, _, g2⟩ | ⟨_, _, _, _, g⟩
    · rw [t3.1] at g; cases g
    · rw [tb2] at g; cases g
    · refine ⟨g2, fun hn0 => ?_⟩
      subst hn0
      rw [hz, Int.add_zero, t3.2.2] at g
      cases g
    · exact absurd g h0
  · intro h hn h0
    have t3 : lineB a r n d = true ∧ tlQ a r n d t = exV a r n d t / d := by
      rcases T with ⟨_, _, h⟩ | ⟨_, _, _, h⟩ | ⟨_, _, _, _, h⟩ | ⟨h1, _, _, h4, _⟩
      · omega
      · omega
      · omega
      · exact ⟨h1, h4⟩
    have t4 : tlQ a r n d (t + 1) = (exV a r n d t + n) / d := by
      rw [← hz]
      rcases T2 with ⟨_, _, h⟩ | ⟨_, _, _, h⟩ | ⟨_, _, _, _, h⟩ | ⟨_, _, _, h4, _⟩
      · omega
      · omega
      · omega
      · exact h4
    rw [t3.2, t4]
    obtain ⟨l1, _⟩ := (lineB_iff _ _ _ _).1 t3.1
    have s := (slopeB_iff _ _).1 l1
    exact step_math (by omega)
end Go.Proofs.Ytldfkfienlcipaa
