/-
  The walk of the law SpanTight. Conditions: none.
-/
import Derived.Test.YtmnndbafljngiaaSpL
namespace Go.Proofs.Ytmnndbafljngiaa
open Go.RowKit

theorem acc_two (f g : Int → Int → Int) (hf : ∀ x, f x x = x) (hg : ∀ x, g x x = x) (a b c d : Int) (h1 : ¬ b < a) (h2 : ¬ d < c) : resS f g [(a, b), (c, d)] = .tuple #[spV (f a c) (g b d), .int .i64 0] := by
  have e : accS f g [(a, b), (c, d)] = (f a c, g b d) := by
    show (f (f a a) c, g (g b b) d) = (f a c, g b d)
    rw [hf, hg]
  have e2 : badS [(a, b), (c, d)] = false := by
    unfold badS
    simp only [List.any_cons, List.any_nil, Bool.or_false, Bool.or_eq_false_iff, decide_eq_false_iff_not]
    exact ⟨h1, h2⟩
  unfold resS
  rw [if_neg (by simp), e2, if_neg (by simp), e]
theorem bad_two (f g : Int → Int → Int) (a b c d : Int) (h : b < a ∨ d < c) : resS f g [(a, b), (c, d)] = .tuple #[spV 0 0, .int .i64 140] := by
  have e2 : badS [(a, b), (c, d)] = true := by
    unfold badS
    simp only [List.any_cons, List.any_nil, Bool.or_false, Bool.or_eq_true, decide_eq_true_eq]
    exact h
  unfold resS
  rw [if_neg (by simp), e2, if_pos rfl]
set_option maxRecDepth 100000 in
set_option maxHeartbeats 4000000 in
theorem tight_bad (a b c d : Int) (hok : OkS [(c, d), (a, b)]) (g : b < a ∨ d < c) (w : World) : Calls Try.prog 10 #[spV a b, spV c d] w (Ret w (.bool true)) := by
  have WK := Lib.hid (fun W => wakes_any W)
  have LE := fun v W k => leastR_any [(a, b), (c, d)] (by simp) v W k
  rw [bad_two min min a b c d g] at LE
  replace LE := Lib.hid LE
  have PL := fun v W k => plus_any [(c, d), (a, b)] hok (by simp) v W k
  have e : plusR [(c, d), (a, b)] = .tuple #[spV 0 0, .int .i64 140] := by
    have e2 : badS [(c, d), (a, b)] = true := by
      unfold badS
      simp only [List.any_cons, List.any_nil, Bool.or_false, Bool.or_eq_true, decide_eq_true_eq]
      exact g.symm
    unfold plusR
    rw [e2, if_pos rfl]
  rw [e] at PL
  replace PL := Lib.hid PL
  clear e hok
  by_cases g0 : b < a
  all_goals
    first | (have g1 : d < c := by omega) | skip
    clear g
    go_enter Try.func10, Try.ntmps10
    go_wp2_with fail
    refine (WK.out _).mono ?_
    rintro e w1 ⟨rfl, hb⟩
    have hHeld : Keeps w [(w.heap.size, 0, .int .i64 a), (w.heap.size, 1, .int .i64 b), (w.heap.size + 1, 0, .int .i64 c), (w.heap.size + 1, 1, .int .i64 d)] _ := Keeps.next (by refine ⟨by go_grown, ?_⟩; simp [Cells, go_sem]) hb
    clear hb
    obtain ⟨⟨kz0, kc0, kf0⟩, ⟨kz1, kc1, kf1⟩, ⟨kz2, kc2, kf2⟩, ⟨kz3, kc3, kf3⟩, _⟩ := hHeld.2
    go_wp2_with fail
    refine Calls.mono (LE.out _ _ ?_) ?_
    · exact readsS_two (by simp)
    rintro e w2 ⟨rfl, hb⟩
    replace hHeld := Keeps.next ((hHeld.alloc _)) hb
    clear hb kz0 kc0 kf0 kz1 kc1 kf1 kz2 kc2 kf2 kz3 kc3 kf3
    obtain ⟨⟨kz0, kc0, kf0⟩, ⟨kz1, kc1, kf1⟩, ⟨kz2, kc2, kf2⟩, ⟨kz3, kc3, kf3⟩, _⟩ := hHeld.2
    go_wp2_with fail
    refine Calls.mono (PL.out _ _ ?_) ?_
    · exact readsS_two (by simp)
    rintro e w3 ⟨rfl, hb⟩
    replace hHeld := Keeps.next (((hHeld.alloc _).alloc _)) hb
    clear hb kz0 kc0 kf0 kz1 kc1 kf1 kz2 kc2 kf2 kz3 kc3 kf3
    obtain ⟨⟨kz0, kc0, kf0⟩, ⟨kz1, kc1, kf1⟩, ⟨kz2, kc2, kf2⟩, ⟨kz3, kc3, kf3⟩, _⟩ := hHeld.2
    go_wp2_with fail
    go_ret
    exact ⟨rfl, (hHeld.alloc _).1⟩
set_option maxRecDepth 100000 in
set_option maxHeartbeats 4000000 in
theorem tight_good (a b c d : Int) (g0 : ¬ b < a) (g1 : ¬ d < c) (w : World) : Calls Try.prog 10 #[spV a b, spV c d] w (Ret w (.bool true)) := by
  have WK := Lib.hid (fun W => wakes_any W)
  have LE := fun v W k => leastR_any [(a, b), (c, d)] (by simp) v W k
  rw [acc_two min min Int.min_self Int.min_self a b c d g0 g1] at LE
  have MO := fun v W k => mostR_any [(a, b), (c, d)] (by simp) v W k
  rw [acc_two max max Int.max_self Int.max_self a b c d g0 g1] at MO
  have JO := fun v W k => joinR_any [(a, b), (c, d)] (by simp) v W k
  rw [acc_two min max Int.min_self Int.max_self a b c d g0 g1] at JO
  have JB := fun v W k => joinR_any [(min a c, min b d), (max a c, max b d)] (by simp) v W k
  rw [acc_two min max Int.min_self Int.max_self _ _ _ _ (by omega) (by omega), show min (min a c) (max a c) = min a c by omega, show max (min b d) (max b d) = max b d by omega] at JB
  obtain ⟨m0, h0⟩ : ∃ m, m = min a c := ⟨_, rfl⟩
  obtain ⟨m1, h1⟩ : ∃ m, m = min b d := ⟨_, rfl⟩
  obtain ⟨m2, h2⟩ : ∃ m, m = max a c := ⟨_, rfl⟩
  obtain ⟨m3, h3⟩ : ∃ m, m = max b d := ⟨_, rfl⟩
  rw [← h0, ← h1] at LE
  rw [← h2, ← h3] at MO
  rw [← h0, ← h3] at JO
  rw [← h0, ← h1, ← h2, ← h3] at JB
  replace LE := Lib.hid LE
  replace MO := Lib.hid MO
  replace JO := Lib.hid JO
  replace JB := Lib.hid JB
  have u0 : a < c ∧ m0 = a ∧ m2 = c ∨ c < a ∧ m0 = c ∧ m2 = a ∨ a = c ∧ m0 = c ∧ m2 = c := by omega
  have u1 : b < d ∧ m1 = b ∧ m3 = d ∨ d < b ∧ m1 = d ∧ m3 = b ∨ b = d ∧ m1 = d ∧ m3 = d := by omega
  clear h0 h1 h2 h3
  go_enter Try.func10, Try.ntmps10
  go_wp2_with fail
  refine (WK.out _).mono ?_
  rintro e w1 ⟨rfl, hb⟩
  have hHeld : Keeps w [(w.heap.size, 0, .int .i64 a), (w.heap.size, 1, .int .i64 b), (w.heap.size + 1, 0, .int .i64 c), (w.heap.size + 1, 1, .int .i64 d)] _ := Keeps.next (by refine ⟨by go_grown, ?_⟩; simp [Cells, go_sem]) hb
  clear hb
  obtain ⟨⟨kz0, kc0, kf0⟩, ⟨kz1, kc1, kf1⟩, ⟨kz2, kc2, kf2⟩, ⟨kz3, kc3, kf3⟩, _⟩ := hHeld.2
  go_wp2_with fail
  refine Calls.mono (LE.out _ _ ?_) ?_
  · exact readsS_two (by simp)
  rintro e w2 ⟨rfl, hb⟩
  replace hHeld := Keeps.next ((hHeld.alloc _)) hb
  clear hb kz0 kc0 kf0 kz1 kc1 kf1 kz2 kc2 kf2 kz3 kc3 kf3
  obtain ⟨⟨kz0, kc0, kf0⟩, ⟨kz1, kc1, kf1⟩, ⟨kz2, kc2, kf2⟩, ⟨kz3, kc3, kf3⟩, _⟩ := hHeld.2
  go_wp2_with fail
  refine Calls.mono (MO.out _ _ ?_) ?_
  · exact readsS_two (by simp)
  rintro e w3 ⟨rfl, hb⟩
  replace hHeld : Keeps w [(w.heap.size, 0, .int .i64 a), (w.heap.size, 1, .int .i64 b), (w.heap.size + 1, 0, .int .i64 c), (w.heap.size + 1, 1, .int .i64 d), (w2.heap.size, 0, .int .i64 m0), (w2.heap.size, 1, .int .i64 m1)] _ := Keeps.next ((Keeps.alloc ((hHeld.alloc (.cells #[.int .i64 m0, .int .i64 m1] 23)).app (newK2 (hHeld.alloc (.cells #[.int .i64 m0, .int .i64 m1] 23)))) _)) hb
  clear hb kz0 kc0 kf0 kz1 kc1 kf1 kz2 kc2 kf2 kz3 kc3 kf3
  obtain ⟨⟨kz0, kc0, kf0⟩, ⟨kz1, kc1, kf1⟩, ⟨kz2, kc2, kf2⟩, ⟨kz3, kc3, kf3⟩, ⟨kz4, kc4, kf4⟩, ⟨kz5, kc5, kf5⟩, _⟩ := hHeld.2
  go_wp2_with fail
  refine Calls.mono (JO.out _ _ ?_) ?_
  · exact readsS_two (by simp)
  rintro e w4 ⟨rfl, hb⟩
  replace hHeld : Keeps w [(w.heap.size, 0, .int .i64 a), (w.heap.size, 1, .int .i64 b), (w.heap.size + 1, 0, .int .i64 c), (w.heap.size + 1, 1, .int .i64 d), (w2.heap.size, 0, .int .i64 m0), (w2.heap.size, 1, .int .i64 m1), (w3.heap.size, 0, .int .i64 m2), (w3.heap.size, 1, .int .i64 m3)] _ := Keeps.next ((Keeps.alloc ((hHeld.alloc (.cells #[.int .i64 m2, .int .i64 m3] 23)).app (newK2 (hHeld.alloc (.cells #[.int .i64 m2, .int .i64 m3] 23)))) _)) hb
  clear hb kz0 kc0 kf0 kz1 kc1 kf1 kz2 kc2 kf2 kz3 kc3 kf3 kz4 kc4 kf4 kz5 kc5 kf5
  obtain ⟨⟨kz0, kc0, kf0⟩, ⟨kz1, kc1, kf1⟩, ⟨kz2, kc2, kf2⟩, ⟨kz3, kc3, kf3⟩, ⟨kz4, kc4, kf4⟩, ⟨kz5, kc5, kf5⟩, ⟨kz6, kc6, kf6⟩, ⟨kz7, kc7, kf7⟩, _⟩ := hHeld.2
  rcases u0 with ⟨u0, rfl, rfl⟩ | ⟨u0, rfl, rfl⟩ | ⟨rfl, rfl, rfl⟩
  all_goals rcases u1 with ⟨u1, rfl, rfl⟩ | ⟨u1, rfl, rfl⟩ | ⟨rfl, rfl, rfl⟩
  all_goals
    go_wp2_with fail
    refine Calls.mono (JB.out _ _ ?_) ?_
    · exact readsS_two (by simp)
    rintro e w5 ⟨rfl, hb⟩
    replace hHeld := hHeld.nextNew hb
    clear hb kz0 kc0 kf0 kz1 kc1 kf1 kz2 kc2 kf2 kz3 kc3 kf3 kz4 kc4 kf4 kz5 kc5 kf5 kz6 kc6 kf6 kz7 kc7 kf7
    obtain ⟨⟨kz0, kc0, kf0⟩, ⟨kz1, kc1, kf1⟩, ⟨kz2, kc2, kf2⟩, ⟨kz3, kc3, kf3⟩, ⟨kz4, kc4, kf4⟩, ⟨kz5, kc5, kf5⟩, ⟨kz6, kc6, kf6⟩, ⟨kz7, kc7, kf7⟩, ⟨kz8, kc8, kf8⟩, ⟨kz9, kc9, kf9⟩, _⟩ := hHeld.2
    go_wp2_with fail
    go_ret
    exact ⟨rfl, (hHeld.alloc _).1⟩
theorem tight_any (a b c d : Int) (a1 : -9223372036854775808 ≤ a) (a2 : a ≤ 9223372036854775807) (b1 : -9223372036854775808 ≤ b) (b2 : b ≤ 9223372036854775807) (c1 : -9223372036854775808 ≤ c) (c2 : c ≤ 9223372036854775807) (d1 : -9223372036854775808 ≤ d) (d2 : d ≤ 9223372036854775807) (w : World) :
    Calls Try.prog 10 #[spV a b, spV c d] w (Ret w (.bool true)) := by
  by_cases g : b < a ∨ d < c
  · refine tight_bad a b c d (fun s hs => ?_) g w
    simp at hs
    rcases hs with rfl | rfl
    · exact ⟨c1, c2, d1, d2⟩
    · exact ⟨a1, a2, b1, b2⟩
  · exact tight_good a b c d (fun h => g (Or.inl h)) (fun h => g (Or.inr h)) w
end Go.Proofs.Ytmnndbafljngiaa
