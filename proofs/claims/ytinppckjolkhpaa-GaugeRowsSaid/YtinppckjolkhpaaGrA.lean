/-
  Layer 3: the document's own answers: exponents, fractions, kinds, scales. Conditions: words are of 64 bits.
-/
import Derived.Test.YtinppckjolkhpaaFl
import Derived.Test.YtinppckjolkhpaaRefO
namespace Go.Proofs.Ytinppckjolkhpaa
open Go.RowKit

set_option maxHeartbeats 400000 in
theorem exponent_any (b : Nat) (hb : b < 18446744073709551616) (w : World) : Calls Try.prog 27 #[.int .u64 b] w fun e w' => e = .returned (.int .i64 (expo b)) ∧ w' = w := by
  obtain ⟨q, hq⟩ : ∃ q : Nat, (b : Int) / 4503599627370496 = (q : Int) := ⟨b / 4503599627370496, by omega⟩
  have e1 : (q : Int) % 2048 = (expo b : Int) := by unfold expo; omega
  have e0 : (q : Int) ≤ 4095 := by omega
  have e2 := expo_lt b
  clear hb
  go_enter Try.func27, Try.ntmps27
  go_wp2
  go_ret
  exact ⟨rfl, rfl⟩
set_option maxHeartbeats 400000 in
theorem fraction_any (b : Nat) (w : World) : Calls Try.prog 28 #[.int .u64 b] w fun e w' => e = .returned (.int .u64 (frac b)) ∧ w' = w := by
  have e1 : (b : Int) % 4503599627370496 = (frac b : Int) := by unfold frac; omega
  go_enter Try.func28, Try.ntmps28
  go_wp2
  go_ret
  exact ⟨rfl, rfl⟩
set_option maxRecDepth 100000 in
set_option maxHeartbeats 1000000 in
theorem refKind_any (b : Nat) (hb : b < 18446744073709551616) (w : World) : Calls Try.prog 12 #[.int .u64 b] w fun e w' => e = .returned (.int .i64 (kindF b)) ∧ w' = w := by
  have E := Lib.hid (fun W => exponent_any b hb W)
  have F := Lib.hid (fun W => fraction_any b W)
  clear hb
  unfold kindF
  have he := expo_lt b
  generalize expo b = e at *
  generalize frac b = f at *
  by_cases g1 : e = 2047
  · subst g1
    rw [if_pos rfl]
    by_cases g2 : f = 0
    · subst g2
      rw [if_pos rfl]
      go_enter Try.func12, Try.ntmps12
      go_wp2_with (first | (go_at_call 27; refine (E.out _).mono ?_; rintro en w' ⟨rfl, rfl⟩) | (go_at_call 28; refine (F.out _).mono ?_; rintro en w' ⟨rfl, rfl⟩))
      go_ret
      exact ⟨rfl, rfl⟩
    · rw [if_neg g2]
      have g3 : (0 : Int) < (f : Int) := by omega
      go_enter Try.func12, Try.ntmps12
      go_wp2_with (first | (go_at_call 27; refine (E.out _).mono ?_; rintro en w' ⟨rfl, rfl⟩) | (go_at_call 28; refine (F.out _).mono ?_; rintro en w' ⟨rfl, rfl⟩))
      go_ret
      exact ⟨rfl, rfl⟩
  · rw [if_neg g1]
    have k1 : ((e : Int) == 2047) = false := by simp; omega
    by_cases g0 : e = 0
    · subst g0
      rw [if_pos rfl]
      by_cases g2 : f = 0
      · subst g2
        rw [if_pos rfl]
        go_enter Try.func12, Try.ntmps12
        go_wp2_with (first | (go_at_call 27; refine (E.out _).mono ?_; rintro en w' ⟨rfl, rfl⟩) | (go_at_call 28; refine (F.out _).mono ?_; rintro en w' ⟨rfl, rfl⟩))
        go_ret
        exact ⟨rfl, rfl⟩
      · rw [if_neg g2]
        have g3 : (0 : Int) < (f : Int) := by omega
        go_enter Try.func12, Try.ntmps12
        go_wp2_with (first | (go_at_call 27; refine (E.out _).mono ?_; rintro en w' ⟨rfl, rfl⟩) | (go_at_call 28; refine (F.out _).mono ?_; rintro en w' ⟨rfl, rfl⟩))
        go_ret
        exact ⟨rfl, rfl⟩
    · rw [if_neg g0]
      have g3 : (0 : Int) < (e : Int) := by omega
      go_enter Try.func12, Try.ntmps12
      go_wp2_with (first | (go_at_call 27; refine (E.out _).mono ?_; rintro en w' ⟨rfl, rfl⟩) | (go_at_call 28; refine (F.out _).mono ?_; rintro en w' ⟨rfl, rfl⟩))
      go_ret
      exact ⟨rfl, rfl⟩
set_option maxHeartbeats 400000 in
theorem refScale_any (s : Int) (w : World) : Calls Try.prog 5 #[.int .i64 s] w fun e w' => e = .returned (.bool (decide (Scale s))) ∧ w' = w := by
  by_cases g1 : -40 ≤ s
  · by_cases g2 : s ≤ 40
    · rw [decide_eq_true (show Scale s from ⟨g1, g2⟩)]
      go_enter Try.func5, Try.ntmps5
      go_wp2
      go_ret
      exact ⟨rfl, rfl⟩
    · rw [decide_eq_false (show ¬ Scale s from fun h => g2 h.2)]
      have g3 : decide (s ≤ 40) = false := decide_eq_false g2
      go_enter Try.func5, Try.ntmps5
      go_wp2
      go_ret
      exact ⟨rfl, rfl⟩
  · rw [decide_eq_false (show ¬ Scale s from fun h => g1 h.1)]
    have g3 : decide (-40 ≤ s) = false := decide_eq_false g1
    go_enter Try.func5, Try.ntmps5
    go_wp2
    go_ret
    exact ⟨rfl, rfl⟩
/-- Two cells that were stored are kept on. -/
theorem Keeps.add2 {w W : World} {L : List (Nat × Nat × Value)} {B : Nat} {u0 u1 a0 a1 : Value} (h : Keeps w L ((W.setCell ⟨B, 0, none⟩ u0).setCell ⟨B, 1, none⟩ u1)) (z : B < W.heap.size) (c0 : W.cell? ⟨B, 0, none⟩ = some a0) (f0 : W.frozen? ⟨B, 0, none⟩ = false)
    (c1 : W.cell? ⟨B, 1, none⟩ = some a1) (f1 : W.frozen? ⟨B, 1, none⟩ = false) : Keeps w ((B, 0, u0) :: (B, 1, u1) :: L) ((W.setCell ⟨B, 0, none⟩ u0).setCell ⟨B, 1, none⟩ u1) := by
  obtain ⟨d0, d1⟩ := Go.Proofs.Ytinppckjolkhpaa.set2 (u0 := u0) (u1 := u1) c0 c1
  exact ⟨h.1, ⟨by simpa [World.setCell] using z, d0, by simp only [World.frozen?_setCell]; exact f0⟩, ⟨by simpa [World.setCell] using z, d1, by simp only [World.frozen?_setCell]; exact f1⟩, h.2⟩
end Go.Proofs.Ytinppckjolkhpaa
